/- PartOf of both sides. -/
import Derived.Test.YtplligjoegjngaaG9
namespace Go.Proofs.Ytplligjoegjngaa
open Go.RowKit
set_option maxRecDepth 100000

/-- What PartOf returns. -/
noncomputable def partV (n o : Int) (X Y : List Int) (n' o' : Int) (X' Y' : List Int) (a : Int) (s : Bool) : Int := if prodB n o X Y n' o' X' Y' = true ∧ inB (n * n') a = true then (if s then a % n' else a / n') else -1
theorem partV_no {n o : Int} {X Y : List Int} {n' o' : Int} {X' Y' : List Int} {a : Int} {s : Bool} (h : ¬ (prodB n o X Y n' o' X' Y' = true ∧ inB (n * n') a = true)) : partV n o X Y n' o' X' Y' a s = -1 := if_neg h
theorem partV_yes {n o : Int} {X Y : List Int} {n' o' : Int} {X' Y' : List Int} {a : Int} {s : Bool} (h : prodB n o X Y n' o' X' Y' = true ∧ inB (n * n') a = true) : partV n o X Y n' o' X' Y' a s = (if s then a % n' else a / n') := if_pos h
theorem size_nums {n q : Int} (h1 : 1 ≤ n) (h2 : n ≤ 16) (h3 : 1 ≤ q) (h4 : q ≤ 16) : 0 ≤ n * q ∧ n * q ≤ 256 := by
  have e1 : 0 ≤ n * q := Int.mul_nonneg (by omega) (by omega)
  have e2 : n * q ≤ 16 * 16 := Int.mul_le_mul h2 h4 (by omega) (by omega)
  omega
theorem quo_nums {a q : Int} (h1 : 0 ≤ a) (h2 : a ≤ 256) (h3 : 1 ≤ q) : 0 ≤ a / q ∧ a / q ≤ 256 ∧ 0 ≤ a % q ∧ a.tdiv q = a / q ∧ a.tmod q = a % q := by
  have e1 : 0 ≤ a / q := Int.ediv_nonneg h1 (by omega)
  have e2 : a / q ≤ a := Int.ediv_le_self _ h1
  exact ⟨e1, by omega, Int.emod_nonneg _ (by omega), Int.tdiv_eq_ediv_of_nonneg h1, Int.tmod_eq_emod_of_nonneg h1⟩

set_option maxHeartbeats 1000000 in
theorem spartOf_any (n o : Int) (A B : Option Addr) (la ca lb cb : Nat) (X Y : List Int) (n' o' : Int) (A' B' : Option Addr) (la' ca' lb' cb' : Nat) (X' Y' : List Int) (a : Int) (s : Bool) (w : World) (hX : Ints w w.heap.size A la X) (hY : Ints w w.heap.size B lb Y) (hla : la ≤ 9223372036854775807) (hlb : lb ≤ 9223372036854775807) (hca : la ≤ ca) (hcb : lb ≤ cb) (hX' : Ints w w.heap.size A' la' X') (hY' : Ints w w.heap.size B' lb' Y') (hla' : la' ≤ 9223372036854775807) (hlb' : lb' ≤ 9223372036854775807) (hca' : la' ≤ ca') (hcb' : lb' ≤ cb') :
    Calls Try.prog 33 #[.agg #[.int .i64 n, .int .i64 o, .slice A la ca, .slice B lb cb], .agg #[.int .i64 n', .int .i64 o', .slice A' la' ca', .slice B' lb' cb'], .int .i64 a, .bool s] w fun e w' => e = .returned (.int .i64 (partV n o X Y n' o' X' Y' a s)) ∧ Below w.heap.size w w' := by
  obtain ⟨W, hW⟩ : ∃ W, (w.alloc (.cells #[.int .i64 n, .int .i64 o, .slice A la ca, .slice B lb cb] 24)).alloc (.cells #[.int .i64 n', .int .i64 o', .slice A' la' ca', .slice B' lb' cb'] 24) = W := ⟨_, rfl⟩
  have kR : Blk W w.heap.size 24 #[.int .i64 n, .int .i64 o, .slice A la ca, .slice B lb cb] := by
    subst hW; exact (Blk.new w _ _).alloc _
  have kS : Blk W (w.heap.size + 1) 24 #[.int .i64 n', .int .i64 o', .slice A' la' ca', .slice B' lb' cb'] := by
    subst hW
    have := Blk.new (w.alloc (.cells #[.int .i64 n, .int .i64 o, .slice A la ca, .slice B lb cb] 24)) 24 #[.int .i64 n', .int .i64 o', .slice A' la' ca', .slice B' lb' cb']
    rw [World.size_alloc] at this
    exact this
  have bW : Below w.heap.size w W := by
    subst hW
    exact ((Below.refl _ _).alloc (Nat.le_refl _) _).alloc (by simp) _
  have KR := Lib.hid kR
  have KS := Lib.hid kS
  have BW := Lib.hid bW
  have x0 := kR.cell 0
  have x1 := kR.cell 1
  have x2 := kR.cell 2
  have x3 := kR.cell 3
  have y0 := kS.cell 0
  have y1 := kS.cell 1
  have y2 := kS.cell 2
  have y3 := kS.cell 3
  simp at x0 x1 x2 x3 y0 y1 y2 y3
  have IX := Lib.hid (hX.next bW)
  have IY := Lib.hid (hY.next bW)
  have IX' := Lib.hid (hX'.next bW)
  have IY' := Lib.hid (hY'.next bW)
  have HW := Lib.hid hW
  clear kR kS bW hW hX hY hX' hY'
  go_enter Try.func33, Try.ntmps33
  go_upto_region 1 with (fail)
  rw [HW.out]
  go_wp2_with (fail)
  refine (sproduct_any n o A B la ca lb cb X Y n' o' A' B' la' ca' lb' cb' X' Y' W IX.out IY.out hla hlb hca hcb IX'.out IY'.out hla' hlb' hca' hcb').mono ?_
  rintro e1 w1 ⟨v1, rfl, ⟨C1, l1, k1, C2, l2, k2, rfl, _⟩, hb1⟩
  have KR1 := Lib.hid (KR.out.below hb1 KR.out.lt)
  have KS1 := Lib.hid (KS.out.below hb1 KS.out.lt)
  have BW1 := Lib.hid (BW.out.trans (hb1.mono BW.out.size))
  clear hb1 x0 x1 x2 x3 y0 y1 y2 y3
  go_upto_region 2 with (fail)
  obtain ⟨V, hV⟩ : ∃ V, w1.alloc (.cells #[.int .i64 (prN n o X Y n' o' X' Y'), .int .i64 (prO n o X Y n' o' X' Y'), .slice C1 l1 k1, .slice C2 l2 k2] 24) = V := ⟨_, rfl⟩
  have bV : Below w1.heap.size w1 V := by subst hV; exact (Below.refl _ _).alloc (Nat.le_refl _) _
  rw [hV]
  clear hV
  have kR := KR1.out.below bV KR1.out.lt
  have kS := KS1.out.below bV KS1.out.lt
  have KR2 := Lib.hid kR
  have KS2 := Lib.hid kS
  have BV := Lib.hid (BW1.out.trans (bV.mono BW1.out.size))
  have x0 := kR.cell 0
  have y0 := kS.cell 0
  simp at x0 y0
  clear kR kS bV
  cases hp : prodB n o X Y n' o' X' Y'
  · have PV := Lib.hid (partV_no (a := a) (s := s) (show ¬ (prodB n o X Y n' o' X' Y' = true ∧ inB (n * n') a = true) by rw [hp]; simp))
    go_wp2_with (fail)
    go_ret
    exact ⟨ret_int PV.out.symm, BV.out⟩
  · obtain ⟨g1, g2, g3, g4, _, _, _⟩ := prod_bounds hp
    obtain ⟨m1, m2⟩ := size_nums g1 g2 g3 g4
    have HH := Lib.hid (show wrap64 (n * n' - 1) = n * n' - 1 from IntWalk.wrap64_in _ (by omega))
    obtain ⟨V1, hV1⟩ : ∃ V1, V.alloc (.cells #[.int .i64 a] 3) = V1 := ⟨_, rfl⟩
    have bV1 : Below V.heap.size V V1 := by subst hV1; exact (Below.refl _ _).alloc (Nat.le_refl _) _
    have HE := Lib.hid (show Ints V1 (V.heap.size + 1) (some ⟨V.heap.size, 0, none⟩) 1 [a] by subst hV1; exact ints_one)
    have KS3 := Lib.hid (KS2.out.below bV1 KS2.out.lt)
    have BV1 := Lib.hid (BV.out.trans (bV1.mono BV.out.size))
    have yy := KS3.out.cell 0
    simp at yy
    have HV1 := Lib.hid hV1
    clear bV1 hV1
    cases ha : inB (n * n') a
    · have PV := Lib.hid (partV_no (a := a) (s := s) (show ¬ (prodB n o X Y n' o' X' Y' = true ∧ inB (n * n') a = true) by rw [ha]; simp))
      have EL := Lib.hid (show elB (n * n' - 1) [a] = false by rw [elB_one, ha])
      go_wp2_with (fail)
      rw [HV1.out]
      refine (l1Elements_any (n * n') _ _ 1 1 [a] V1 _ HH.out HE.out (by omega)).mono ?_
      rintro e2 w2 ⟨rfl, rfl⟩
      rw [EL.out]
      go_wp2_with (fail)
      go_ret
      exact ⟨ret_int PV.out.symm, BV1.out⟩
    · have EL := Lib.hid (show elB (n * n' - 1) [a] = true by rw [elB_one, ha])
      have ha' := of_decide_eq_true ha
      have a1 : 0 ≤ a := ha'.1
      obtain ⟨u1, u2, u3, u4, u5⟩ := quo_nums a1 (show a ≤ 256 by omega) g3
      have u6 : ¬ n' = 0 := by omega
      have PV0 := partV_yes (a := a) (s := s) ⟨hp, ha⟩
      clear ha ha' hp
      cases s
      · have PV := Lib.hid (PV0.trans (if_neg (by simp)))
        clear PV0
        go_wp2_with (fail)
        rw [HV1.out]
        refine (l1Elements_any (n * n') _ _ 1 1 [a] V1 _ HH.out HE.out (by omega)).mono ?_
        rintro e2 w2 ⟨rfl, rfl⟩
        rw [EL.out]
        go_wp2_with (fail)
        go_ret
        exact ⟨ret_int PV.out.symm, BV1.out⟩
      · have PV := Lib.hid (PV0.trans (if_pos rfl))
        clear PV0
        go_wp2_with (fail)
        rw [HV1.out]
        refine (l1Elements_any (n * n') _ _ 1 1 [a] V1 _ HH.out HE.out (by omega)).mono ?_
        rintro e2 w2 ⟨rfl, rfl⟩
        rw [EL.out]
        go_wp2_with (fail)
        go_ret
        exact ⟨ret_int PV.out.symm, BV1.out⟩

set_option maxHeartbeats 1000000 in
theorem paElement_any (n o : Int) (A B : Option Addr) (la ca lb cb : Nat) (n' o' : Int) (A' B' : Option Addr) (la' ca' lb' cb' : Nat) (a : Int) (w : World) (h1 : 0 ≤ a) (h2 : a ≤ 256) (h3 : 1 ≤ n') :
    Calls Try.prog 90 #[.agg #[.int .i64 n, .int .i64 o, .slice A la ca, .slice B lb cb, .int .i64 n', .int .i64 o', .slice A' la' ca', .slice B' lb' cb'], .int .i64 a] w fun e w' => e = .returned (.agg #[.int .i64 (a / n'), .int .i64 (a % n')]) ∧ Below w.heap.size w w' := by
  obtain ⟨u1, u2, u3, u4, u5⟩ := quo_nums h1 h2 h3
  have u6 : ¬ n' = 0 := by omega
  go_enter Try.func90, Try.ntmps90
  go_wp2_with (fail)
  obtain ⟨W, hW⟩ : ∃ W, (w.alloc (.cells #[.int .i64 n, .int .i64 o, .slice A la ca, .slice B lb cb, .int .i64 n', .int .i64 o', .slice A' la' ca', .slice B' lb' cb'] 70)).alloc (.cells #[.int .i64 0, .int .i64 0] 73) = W := ⟨_, rfl⟩
  have kP : Blk W w.heap.size 70 #[.int .i64 n, .int .i64 o, .slice A la ca, .slice B lb cb, .int .i64 n', .int .i64 o', .slice A' la' ca', .slice B' lb' cb'] := by subst hW; exact (Blk.new w _ _).alloc _
  have kA : Blk W (w.heap.size + 1) 73 #[.int .i64 0, .int .i64 0] := by
    subst hW
    have := Blk.new (w.alloc (.cells #[.int .i64 n, .int .i64 o, .slice A la ca, .slice B lb cb, .int .i64 n', .int .i64 o', .slice A' la' ca', .slice B' lb' cb'] 70)) 73 #[.int .i64 0, .int .i64 0]
    rw [World.size_alloc] at this
    exact this
  have bW : Below w.heap.size w W := by subst hW; exact ((Below.refl _ _).alloc (Nat.le_refl _) _).alloc (by simp) _
  rw [hW]
  clear hW
  have x4 := kP.cell 4
  simp at x4
  refine wp_region_makers 11 (fun _ => false) (fun _ _ _ => True) (fun _ _ => True) (fun _ => undef) probe (by kernel_rfl) (by kernel_rfl) (fun _ _ _ _ _ _ => trivial) (fun _ _ _ _ _ => trivial) (fun _ _ => trivial) ?_
  intro V hV vs _
  have cW : ∃ x, extC V x := ⟨V, extC_of (Below.refl _ _)⟩
  have y4 := (hV.cell (p := ⟨w.heap.size, 4, none⟩) kP.lt).trans x4
  simp only [List.take_succ_cons, List.take_zero, List.drop_succ_cons, List.drop_zero]
  refine wpV_quiet cW 11 0 _ _ (by decide) (by decide) ?_
  simp only [List.take_succ_cons, List.take_zero, List.drop_succ_cons, List.drop_zero]
  repeat (go_big_quiet_step (fail))
  refine wpQuiet_nil ?_
  refine wpV_nil ?_
  intro w2 hb2 _ _
  have kA2 := kA.below hb2 kA.lt
  have c0 := kA2.cell 0
  have c1 := kA2.cell 1
  have f0 := kA2.frozen 0
  have f1 := kA2.frozen 1
  simp at c0 c1
  go_wp2_with (fail)
  refine bodyPost_ret (v := .agg #[.int .i64 (a / n'), .int .i64 (a % n')]) ?_ rfl ⟨rfl, ?_⟩
  · have F := (kA2.set_ 0 (.int .i64 (a / n'))).set_ 1 (.int .i64 (a % n'))
    exact results_cell_row Try.results90 _ _ (w.heap.size + 1) 73 _ (0, 0) _ rfl F Try.underlying73 rfl (by kernel_rfl)
  · exact ((bW.trans (hb2.mono bW.size)).setCell (by simp) _).setCell (by simp) _

set_option maxHeartbeats 1000000 in
theorem partOf_any (n o : Int) (A B : Option Addr) (la ca lb cb : Nat) (X Y : List Int) (n' o' : Int) (A' B' : Option Addr) (la' ca' lb' cb' : Nat) (X' Y' : List Int) (a : Int) (s : Bool) (w : World) (hX : Ints w w.heap.size A la X) (hY : Ints w w.heap.size B lb Y) (hla : la ≤ 9223372036854775807) (hlb : lb ≤ 9223372036854775807) (hca : la ≤ ca) (hcb : lb ≤ cb) (hX' : Ints w w.heap.size A' la' X') (hY' : Ints w w.heap.size B' lb' Y') (hla' : la' ≤ 9223372036854775807) (hlb' : lb' ≤ 9223372036854775807) (hca' : la' ≤ ca') (hcb' : lb' ≤ cb') :
    Calls Try.prog 34 #[.agg #[.int .i64 n, .int .i64 o, .slice A la ca, .slice B lb cb], .agg #[.int .i64 n', .int .i64 o', .slice A' la' ca', .slice B' lb' cb'], .int .i64 a, .bool s] w fun e w' => e = .returned (.int .i64 (partV n o X Y n' o' X' Y' a s)) ∧ Below w.heap.size w w' := by
  obtain ⟨W, hW⟩ : ∃ W, ((w.alloc (.cells #[.int .i64 n, .int .i64 o, .slice A la ca, .slice B lb cb] 24)).alloc (.cells #[.int .i64 n', .int .i64 o', .slice A' la' ca', .slice B' lb' cb'] 24)).alloc (.cells #[.int .i64 n, .int .i64 o, .slice A la ca, .slice B lb cb, .int .i64 n', .int .i64 o', .slice A' la' ca', .slice B' lb' cb'] 70) = W := ⟨_, rfl⟩
  have kR : Blk W w.heap.size 24 #[.int .i64 n, .int .i64 o, .slice A la ca, .slice B lb cb] := by
    subst hW; exact ((Blk.new w _ _).alloc _).alloc _
  have kS : Blk W (w.heap.size + 1) 24 #[.int .i64 n', .int .i64 o', .slice A' la' ca', .slice B' lb' cb'] := by
    subst hW
    have := (Blk.new (w.alloc (.cells #[.int .i64 n, .int .i64 o, .slice A la ca, .slice B lb cb] 24)) 24 #[.int .i64 n', .int .i64 o', .slice A' la' ca', .slice B' lb' cb']).alloc (.cells #[.int .i64 n, .int .i64 o, .slice A la ca, .slice B lb cb, .int .i64 n', .int .i64 o', .slice A' la' ca', .slice B' lb' cb'] 70)
    rw [World.size_alloc] at this
    exact this
  have kP : Blk W (w.heap.size + 1 + 1) 70 #[.int .i64 n, .int .i64 o, .slice A la ca, .slice B lb cb, .int .i64 n', .int .i64 o', .slice A' la' ca', .slice B' lb' cb'] := by
    subst hW
    have := Blk.new ((w.alloc (.cells #[.int .i64 n, .int .i64 o, .slice A la ca, .slice B lb cb] 24)).alloc (.cells #[.int .i64 n', .int .i64 o', .slice A' la' ca', .slice B' lb' cb'] 24)) 70 #[.int .i64 n, .int .i64 o, .slice A la ca, .slice B lb cb, .int .i64 n', .int .i64 o', .slice A' la' ca', .slice B' lb' cb']
    rw [World.size_alloc, World.size_alloc] at this
    exact this
  have bW : Below w.heap.size w W := by
    subst hW
    exact (((Below.refl _ _).alloc (Nat.le_refl _) _).alloc (by simp) _).alloc (by simp; omega) _
  have KR := Lib.hid kR
  have KS := Lib.hid kS
  have KP := Lib.hid kP
  have BW := Lib.hid bW
  have IX := Lib.hid (hX.next bW)
  have IY := Lib.hid (hY.next bW)
  have IX' := Lib.hid (hX'.next bW)
  have IY' := Lib.hid (hY'.next bW)
  have HW := Lib.hid hW
  have x0 := KR.out.cell 0
  have x1 := KR.out.cell 1
  have x2 := KR.out.cell 2
  have x3 := KR.out.cell 3
  have y0 := KS.out.cell 0
  have y1 := KS.out.cell 1
  have y2 := KS.out.cell 2
  have y3 := KS.out.cell 3
  have p0 := KP.out.cell 0
  have p1 := KP.out.cell 1
  have p2 := KP.out.cell 2
  have p3 := KP.out.cell 3
  have p4 := KP.out.cell 4
  have p5 := KP.out.cell 5
  have p6 := KP.out.cell 6
  have p7 := KP.out.cell 7
  simp at x0 x1 x2 x3 y0 y1 y2 y3 p0 p1 p2 p3 p4 p5 p6 p7
  clear kR kS kP bW hW hX hY hX' hY'
  cases hp : prodB n o X Y n' o' X' Y'
  · have VP := Lib.hid hp
    have PV := Lib.hid (partV_no (a := a) (s := s) (show ¬ (prodB n o X Y n' o' X' Y' = true ∧ inB (n * n') a = true) by rw [hp]; simp))
    clear hp
    go_enter Try.func34, Try.ntmps34
    go_upto_region 2 with (fail)
    rw [HW.out]
    go_wp2_with (fail)
    refine (paValid_any n o A B la ca lb cb X Y n' o' A' B' la' ca' lb' cb' X' Y' W IX.out IY.out hla hlb hca hcb IX'.out IY'.out hla' hlb' hca' hcb').mono ?_
    rintro e1 w1 ⟨rfl, hb1⟩
    rw [VP.out]
    have KR1 := Lib.hid (KR.out.below hb1 KR.out.lt)
    have KS1 := Lib.hid (KS.out.below hb1 KS.out.lt)
    have KP1 := Lib.hid (KP.out.below hb1 KP.out.lt)
    have BW1 := Lib.hid (BW.out.trans (hb1.mono BW.out.size))
    clear hb1
    have x01 := KR1.out.cell 0
    have x11 := KR1.out.cell 1
    have x21 := KR1.out.cell 2
    have x31 := KR1.out.cell 3
    have y01 := KS1.out.cell 0
    have y11 := KS1.out.cell 1
    have y21 := KS1.out.cell 2
    have y31 := KS1.out.cell 3
    have p01 := KP1.out.cell 0
    have p11 := KP1.out.cell 1
    have p21 := KP1.out.cell 2
    have p31 := KP1.out.cell 3
    have p41 := KP1.out.cell 4
    have p51 := KP1.out.cell 5
    have p61 := KP1.out.cell 6
    have p71 := KP1.out.cell 7
    simp at x01 x11 x21 x31 y01 y11 y21 y31 p01 p11 p21 p31 p41 p51 p61 p71
    go_wp2_with (fail)
    go_ret
    exact ⟨ret_int PV.out.symm, BW1.out⟩
  · have VP := Lib.hid hp
    obtain ⟨g1, g2, g3, g4, _, _, _⟩ := prod_bounds hp
    obtain ⟨m1, m2⟩ := size_nums g1 g2 g3 g4
    by_cases h0 : 0 ≤ a
    · by_cases h1 : a < n * n'
      · have PV0 := partV_yes (a := a) (s := s) ⟨hp, inB_true ⟨h0, h1⟩⟩
        clear hp
        have a2 : a ≤ 256 := by omega
        cases s
        · have PV := Lib.hid (PV0.trans (if_neg (by simp)))
          clear PV0
          go_enter Try.func34, Try.ntmps34
          go_upto_region 2 with (fail)
          rw [HW.out]
          go_wp2_with (fail)
          refine (paValid_any n o A B la ca lb cb X Y n' o' A' B' la' ca' lb' cb' X' Y' W IX.out IY.out hla hlb hca hcb IX'.out IY'.out hla' hlb' hca' hcb').mono ?_
          rintro e1 w1 ⟨rfl, hb1⟩
          rw [VP.out]
          have KR1 := Lib.hid (KR.out.below hb1 KR.out.lt)
          have KS1 := Lib.hid (KS.out.below hb1 KS.out.lt)
          have KP1 := Lib.hid (KP.out.below hb1 KP.out.lt)
          have BW1 := Lib.hid (BW.out.trans (hb1.mono BW.out.size))
          clear hb1
          have x01 := KR1.out.cell 0
          have x11 := KR1.out.cell 1
          have x21 := KR1.out.cell 2
          have x31 := KR1.out.cell 3
          have y01 := KS1.out.cell 0
          have y11 := KS1.out.cell 1
          have y21 := KS1.out.cell 2
          have y31 := KS1.out.cell 3
          have p01 := KP1.out.cell 0
          have p11 := KP1.out.cell 1
          have p21 := KP1.out.cell 2
          have p31 := KP1.out.cell 3
          have p41 := KP1.out.cell 4
          have p51 := KP1.out.cell 5
          have p61 := KP1.out.cell 6
          have p71 := KP1.out.cell 7
          simp at x01 x11 x21 x31 y01 y11 y21 y31 p01 p11 p21 p31 p41 p51 p61 p71
          go_wp2_with (fail)
          refine (paSize_any n o A B la ca lb cb n' o' A' B' la' ca' lb' cb' w1 (by omega) g2 (by omega) g4).mono ?_
          rintro e2 w2 ⟨rfl, hb2⟩
          have KR2 := Lib.hid (KR1.out.below hb2 KR1.out.lt)
          have KS2 := Lib.hid (KS1.out.below hb2 KS1.out.lt)
          have KP2 := Lib.hid (KP1.out.below hb2 KP1.out.lt)
          have BW2 := Lib.hid (BW1.out.trans (hb2.mono BW1.out.size))
          clear hb2
          have x02 := KR2.out.cell 0
          have x12 := KR2.out.cell 1
          have x22 := KR2.out.cell 2
          have x32 := KR2.out.cell 3
          have y02 := KS2.out.cell 0
          have y12 := KS2.out.cell 1
          have y22 := KS2.out.cell 2
          have y32 := KS2.out.cell 3
          have p02 := KP2.out.cell 0
          have p12 := KP2.out.cell 1
          have p22 := KP2.out.cell 2
          have p32 := KP2.out.cell 3
          have p42 := KP2.out.cell 4
          have p52 := KP2.out.cell 5
          have p62 := KP2.out.cell 6
          have p72 := KP2.out.cell 7
          simp at x02 x12 x22 x32 y02 y12 y22 y32 p02 p12 p22 p32 p42 p52 p62 p72
          go_wp2_with (fail)
          refine (paElement_any n o A B la ca lb cb n' o' A' B' la' ca' lb' cb' a w2 h0 a2 g3).mono ?_
          rintro e3 w3 ⟨rfl, hb3⟩
          have KR3 := Lib.hid (KR2.out.below hb3 KR2.out.lt)
          have KS3 := Lib.hid (KS2.out.below hb3 KS2.out.lt)
          have KP3 := Lib.hid (KP2.out.below hb3 KP2.out.lt)
          have BW3 := Lib.hid (BW2.out.trans (hb3.mono BW2.out.size))
          clear hb3
          have x03 := KR3.out.cell 0
          have x13 := KR3.out.cell 1
          have x23 := KR3.out.cell 2
          have x33 := KR3.out.cell 3
          have y03 := KS3.out.cell 0
          have y13 := KS3.out.cell 1
          have y23 := KS3.out.cell 2
          have y33 := KS3.out.cell 3
          have p03 := KP3.out.cell 0
          have p13 := KP3.out.cell 1
          have p23 := KP3.out.cell 2
          have p33 := KP3.out.cell 3
          have p43 := KP3.out.cell 4
          have p53 := KP3.out.cell 5
          have p63 := KP3.out.cell 6
          have p73 := KP3.out.cell 7
          simp at x03 x13 x23 x33 y03 y13 y23 y33 p03 p13 p23 p33 p43 p53 p63 p73
          go_wp2_with (fail)
          go_ret
          exact ⟨ret_int PV.out.symm, BW3.out.alloc (by have := BW3.out.size; omega) _⟩
        · have PV := Lib.hid (PV0.trans (if_pos rfl))
          clear PV0
          go_enter Try.func34, Try.ntmps34
          go_upto_region 2 with (fail)
          rw [HW.out]
          go_wp2_with (fail)
          refine (paValid_any n o A B la ca lb cb X Y n' o' A' B' la' ca' lb' cb' X' Y' W IX.out IY.out hla hlb hca hcb IX'.out IY'.out hla' hlb' hca' hcb').mono ?_
          rintro e1 w1 ⟨rfl, hb1⟩
          rw [VP.out]
          have KR1 := Lib.hid (KR.out.below hb1 KR.out.lt)
          have KS1 := Lib.hid (KS.out.below hb1 KS.out.lt)
          have KP1 := Lib.hid (KP.out.below hb1 KP.out.lt)
          have BW1 := Lib.hid (BW.out.trans (hb1.mono BW.out.size))
          clear hb1
          have x01 := KR1.out.cell 0
          have x11 := KR1.out.cell 1
          have x21 := KR1.out.cell 2
          have x31 := KR1.out.cell 3
          have y01 := KS1.out.cell 0
          have y11 := KS1.out.cell 1
          have y21 := KS1.out.cell 2
          have y31 := KS1.out.cell 3
          have p01 := KP1.out.cell 0
          have p11 := KP1.out.cell 1
          have p21 := KP1.out.cell 2
          have p31 := KP1.out.cell 3
          have p41 := KP1.out.cell 4
          have p51 := KP1.out.cell 5
          have p61 := KP1.out.cell 6
          have p71 := KP1.out.cell 7
          simp at x01 x11 x21 x31 y01 y11 y21 y31 p01 p11 p21 p31 p41 p51 p61 p71
          go_wp2_with (fail)
          refine (paSize_any n o A B la ca lb cb n' o' A' B' la' ca' lb' cb' w1 (by omega) g2 (by omega) g4).mono ?_
          rintro e2 w2 ⟨rfl, hb2⟩
          have KR2 := Lib.hid (KR1.out.below hb2 KR1.out.lt)
          have KS2 := Lib.hid (KS1.out.below hb2 KS1.out.lt)
          have KP2 := Lib.hid (KP1.out.below hb2 KP1.out.lt)
          have BW2 := Lib.hid (BW1.out.trans (hb2.mono BW1.out.size))
          clear hb2
          have x02 := KR2.out.cell 0
          have x12 := KR2.out.cell 1
          have x22 := KR2.out.cell 2
          have x32 := KR2.out.cell 3
          have y02 := KS2.out.cell 0
          have y12 := KS2.out.cell 1
          have y22 := KS2.out.cell 2
          have y32 := KS2.out.cell 3
          have p02 := KP2.out.cell 0
          have p12 := KP2.out.cell 1
          have p22 := KP2.out.cell 2
          have p32 := KP2.out.cell 3
          have p42 := KP2.out.cell 4
          have p52 := KP2.out.cell 5
          have p62 := KP2.out.cell 6
          have p72 := KP2.out.cell 7
          simp at x02 x12 x22 x32 y02 y12 y22 y32 p02 p12 p22 p32 p42 p52 p62 p72
          go_wp2_with (fail)
          refine (paElement_any n o A B la ca lb cb n' o' A' B' la' ca' lb' cb' a w2 h0 a2 g3).mono ?_
          rintro e3 w3 ⟨rfl, hb3⟩
          have KR3 := Lib.hid (KR2.out.below hb3 KR2.out.lt)
          have KS3 := Lib.hid (KS2.out.below hb3 KS2.out.lt)
          have KP3 := Lib.hid (KP2.out.below hb3 KP2.out.lt)
          have BW3 := Lib.hid (BW2.out.trans (hb3.mono BW2.out.size))
          clear hb3
          have x03 := KR3.out.cell 0
          have x13 := KR3.out.cell 1
          have x23 := KR3.out.cell 2
          have x33 := KR3.out.cell 3
          have y03 := KS3.out.cell 0
          have y13 := KS3.out.cell 1
          have y23 := KS3.out.cell 2
          have y33 := KS3.out.cell 3
          have p03 := KP3.out.cell 0
          have p13 := KP3.out.cell 1
          have p23 := KP3.out.cell 2
          have p33 := KP3.out.cell 3
          have p43 := KP3.out.cell 4
          have p53 := KP3.out.cell 5
          have p63 := KP3.out.cell 6
          have p73 := KP3.out.cell 7
          simp at x03 x13 x23 x33 y03 y13 y23 y33 p03 p13 p23 p33 p43 p53 p63 p73
          go_wp2_with (fail)
          go_ret
          exact ⟨ret_int PV.out.symm, BW3.out.alloc (by have := BW3.out.size; omega) _⟩
      · have PV := Lib.hid (partV_no (a := a) (s := s) (show ¬ (prodB n o X Y n' o' X' Y' = true ∧ inB (n * n') a = true) from fun h => by have := of_decide_eq_true h.2; omega))
        clear hp
        go_enter Try.func34, Try.ntmps34
        go_upto_region 2 with (fail)
        rw [HW.out]
        go_wp2_with (fail)
        refine (paValid_any n o A B la ca lb cb X Y n' o' A' B' la' ca' lb' cb' X' Y' W IX.out IY.out hla hlb hca hcb IX'.out IY'.out hla' hlb' hca' hcb').mono ?_
        rintro e1 w1 ⟨rfl, hb1⟩
        rw [VP.out]
        have KR1 := Lib.hid (KR.out.below hb1 KR.out.lt)
        have KS1 := Lib.hid (KS.out.below hb1 KS.out.lt)
        have KP1 := Lib.hid (KP.out.below hb1 KP.out.lt)
        have BW1 := Lib.hid (BW.out.trans (hb1.mono BW.out.size))
        clear hb1
        have x01 := KR1.out.cell 0
        have x11 := KR1.out.cell 1
        have x21 := KR1.out.cell 2
        have x31 := KR1.out.cell 3
        have y01 := KS1.out.cell 0
        have y11 := KS1.out.cell 1
        have y21 := KS1.out.cell 2
        have y31 := KS1.out.cell 3
        have p01 := KP1.out.cell 0
        have p11 := KP1.out.cell 1
        have p21 := KP1.out.cell 2
        have p31 := KP1.out.cell 3
        have p41 := KP1.out.cell 4
        have p51 := KP1.out.cell 5
        have p61 := KP1.out.cell 6
        have p71 := KP1.out.cell 7
        simp at x01 x11 x21 x31 y01 y11 y21 y31 p01 p11 p21 p31 p41 p51 p61 p71
        go_wp2_with (fail)
        refine (paSize_any n o A B la ca lb cb n' o' A' B' la' ca' lb' cb' w1 (by omega) g2 (by omega) g4).mono ?_
        rintro e2 w2 ⟨rfl, hb2⟩
        have KR2 := Lib.hid (KR1.out.below hb2 KR1.out.lt)
        have KS2 := Lib.hid (KS1.out.below hb2 KS1.out.lt)
        have KP2 := Lib.hid (KP1.out.below hb2 KP1.out.lt)
        have BW2 := Lib.hid (BW1.out.trans (hb2.mono BW1.out.size))
        clear hb2
        have x02 := KR2.out.cell 0
        have x12 := KR2.out.cell 1
        have x22 := KR2.out.cell 2
        have x32 := KR2.out.cell 3
        have y02 := KS2.out.cell 0
        have y12 := KS2.out.cell 1
        have y22 := KS2.out.cell 2
        have y32 := KS2.out.cell 3
        have p02 := KP2.out.cell 0
        have p12 := KP2.out.cell 1
        have p22 := KP2.out.cell 2
        have p32 := KP2.out.cell 3
        have p42 := KP2.out.cell 4
        have p52 := KP2.out.cell 5
        have p62 := KP2.out.cell 6
        have p72 := KP2.out.cell 7
        simp at x02 x12 x22 x32 y02 y12 y22 y32 p02 p12 p22 p32 p42 p52 p62 p72
        go_wp2_with (fail)
        go_ret
        exact ⟨ret_int PV.out.symm, BW2.out⟩
    · have PV := Lib.hid (partV_no (a := a) (s := s) (show ¬ (prodB n o X Y n' o' X' Y' = true ∧ inB (n * n') a = true) from fun h => by have := of_decide_eq_true h.2; omega))
      clear hp
      go_enter Try.func34, Try.ntmps34
      go_upto_region 2 with (fail)
      rw [HW.out]
      go_wp2_with (fail)
      refine (paValid_any n o A B la ca lb cb X Y n' o' A' B' la' ca' lb' cb' X' Y' W IX.out IY.out hla hlb hca hcb IX'.out IY'.out hla' hlb' hca' hcb').mono ?_
      rintro e1 w1 ⟨rfl, hb1⟩
      rw [VP.out]
      have KR1 := Lib.hid (KR.out.below hb1 KR.out.lt)
      have KS1 := Lib.hid (KS.out.below hb1 KS.out.lt)
      have KP1 := Lib.hid (KP.out.below hb1 KP.out.lt)
      have BW1 := Lib.hid (BW.out.trans (hb1.mono BW.out.size))
      clear hb1
      have x01 := KR1.out.cell 0
      have x11 := KR1.out.cell 1
      have x21 := KR1.out.cell 2
      have x31 := KR1.out.cell 3
      have y01 := KS1.out.cell 0
      have y11 := KS1.out.cell 1
      have y21 := KS1.out.cell 2
      have y31 := KS1.out.cell 3
      have p01 := KP1.out.cell 0
      have p11 := KP1.out.cell 1
      have p21 := KP1.out.cell 2
      have p31 := KP1.out.cell 3
      have p41 := KP1.out.cell 4
      have p51 := KP1.out.cell 5
      have p61 := KP1.out.cell 6
      have p71 := KP1.out.cell 7
      simp at x01 x11 x21 x31 y01 y11 y21 y31 p01 p11 p21 p31 p41 p51 p61 p71
      go_wp2_with (fail)
      go_ret
      exact ⟨ret_int PV.out.symm, BW1.out⟩

end Go.Proofs.Ytplligjoegjngaa
