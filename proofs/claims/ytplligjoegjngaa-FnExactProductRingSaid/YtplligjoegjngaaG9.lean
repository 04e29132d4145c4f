/- The making of pairs, and PairOf of the program. -/
import Derived.Test.YtplligjoegjngaaG8
namespace Go.Proofs.Ytplligjoegjngaa
open Go.RowKit
set_option maxRecDepth 100000

theorem valid_bounds {n o : Int} {X Y : List Int} (h : validB n o X Y = true) : 1 ≤ n ∧ n ≤ 16 := by
  unfold validB at h
  rw [Bool.and_eq_true] at h
  obtain ⟨m, e, rfl, rfl, hm, hm', _⟩ := fits_data h.1
  omega
theorem paSize_any (n o : Int) (A B : Option Addr) (la ca lb cb : Nat) (n' o' : Int) (A' B' : Option Addr) (la' ca' lb' cb' : Nat) (w : World) (h1 : 0 ≤ n) (h2 : n ≤ 16) (h3 : 0 ≤ n') (h4 : n' ≤ 16) :
    Calls Try.prog 89 #[.agg #[.int .i64 n, .int .i64 o, .slice A la ca, .slice B lb cb, .int .i64 n', .int .i64 o', .slice A' la' ca', .slice B' lb' cb']] w fun e w' => e = .returned (.int .i64 (n * n')) ∧ Below w.heap.size w w' := by
  have e1 : 0 ≤ n * n' := Int.mul_nonneg h1 h3
  have e2 : n * n' ≤ 16 * 16 := Int.mul_le_mul h2 h4 h3 (by omega)
  go_enter Try.func89, Try.ntmps89
  go_wp2
  go_ret
  exact ⟨rfl, (Below.refl _ _).alloc (Nat.le_refl _) _⟩
theorem paNumber_any (n o : Int) (A B : Option Addr) (la ca lb cb : Nat) (n' o' : Int) (A' B' : Option Addr) (la' ca' lb' cb' : Nat) (a b : Int) (w : World) (h1 : 0 ≤ a) (h2 : a ≤ 16) (h3 : 1 ≤ n') (h4 : n' ≤ 16) (h5 : 0 ≤ b) (h6 : b ≤ 16) :
    Calls Try.prog 92 #[.agg #[.int .i64 n, .int .i64 o, .slice A la ca, .slice B lb cb, .int .i64 n', .int .i64 o', .slice A' la' ca', .slice B' lb' cb'], .agg #[.int .i64 a, .int .i64 b]] w fun e w' => e = .returned (.int .i64 (a * n' + b)) ∧ Below w.heap.size w w' := by
  obtain ⟨r1, r2, r3, r4⟩ := pair_nums h1 h2 h3 h4 h5 h6
  go_enter Try.func92, Try.ntmps92
  go_wp2
  go_ret
  exact ⟨rfl, ((Below.refl _ _).alloc (Nat.le_refl _) _).alloc (by simp) _⟩

set_option maxHeartbeats 1000000 in
theorem paValid_any (n o : Int) (A B : Option Addr) (la ca lb cb : Nat) (X Y : List Int) (n' o' : Int) (A' B' : Option Addr) (la' ca' lb' cb' : Nat) (X' Y' : List Int) (w : World) (hX : Ints w w.heap.size A la X) (hY : Ints w w.heap.size B lb Y) (hla : la ≤ 9223372036854775807) (hlb : lb ≤ 9223372036854775807) (hca : la ≤ ca) (hcb : lb ≤ cb) (hX' : Ints w w.heap.size A' la' X') (hY' : Ints w w.heap.size B' lb' Y') (hla' : la' ≤ 9223372036854775807) (hlb' : lb' ≤ 9223372036854775807) (hca' : la' ≤ ca') (hcb' : lb' ≤ cb') :
    Calls Try.prog 78 #[.agg #[.int .i64 n, .int .i64 o, .slice A la ca, .slice B lb cb, .int .i64 n', .int .i64 o', .slice A' la' ca', .slice B' lb' cb']] w fun e w' => e = .returned (.bool (prodB n o X Y n' o' X' Y')) ∧ Below w.heap.size w w' := by
  obtain ⟨W, hW⟩ : ∃ W, w.alloc (.cells #[.int .i64 n, .int .i64 o, .slice A la ca, .slice B lb cb, .int .i64 n', .int .i64 o', .slice A' la' ca', .slice B' lb' cb'] 70) = W := ⟨_, rfl⟩
  have k : Blk W w.heap.size 70 #[.int .i64 n, .int .i64 o, .slice A la ca, .slice B lb cb, .int .i64 n', .int .i64 o', .slice A' la' ca', .slice B' lb' cb'] := by subst hW; exact Blk.new w _ _
  have bW : Below w.heap.size w W := by subst hW; exact (Below.refl _ _).alloc (Nat.le_refl _) _
  have KP := Lib.hid k
  have BW := Lib.hid bW
  have IX := Lib.hid (hX.next bW)
  have IY := Lib.hid (hY.next bW)
  have IX' := Lib.hid (hX'.next bW)
  have IY' := Lib.hid (hY'.next bW)
  have x0 := k.cell 0
  have x1 := k.cell 1
  have x2 := k.cell 2
  have x3 := k.cell 3
  have x4 := k.cell 4
  have x5 := k.cell 5
  have x6 := k.cell 6
  have x7 := k.cell 7
  simp at x0 x1 x2 x3 x4 x5 x6 x7
  have HW := Lib.hid hW
  clear k bW hW hX hY hX' hY'
  cases v1 : validB n o X Y
  · have V1 := Lib.hid v1
    have EV := Lib.hid (show prodB n o X Y n' o' X' Y' = false by simp [prodB, v1])
    clear v1
    go_enter Try.func78, Try.ntmps78
    go_upto_region 1 with (fail)
    rw [HW.out]
    go_wp2_with (fail)
    refine (valid_any n o A B la ca lb cb X Y W IX.out IY.out hla hlb hca hcb).mono ?_
    rintro e1 w1 ⟨rfl, hb1⟩
    rw [V1.out]
    go_wp2_with (fail)
    go_ret
    exact ⟨ret_bool EV.out.symm, BW.out.trans (hb1.mono BW.out.size)⟩
  · have V1 := Lib.hid v1
    cases v2 : validB n' o' X' Y'
    · have V2 := Lib.hid v2
      have EV := Lib.hid (show prodB n o X Y n' o' X' Y' = false by simp [prodB, v2])
      clear v1 v2
      go_enter Try.func78, Try.ntmps78
      go_upto_region 1 with (fail)
      rw [HW.out]
      go_wp2_with (fail)
      refine (valid_any n o A B la ca lb cb X Y W IX.out IY.out hla hlb hca hcb).mono ?_
      rintro e1 w1 ⟨rfl, hb1⟩
      rw [V1.out]
      have KP1 := Lib.hid (KP.out.below hb1 KP.out.lt)
      have B1 := Lib.hid (BW.out.trans (hb1.mono BW.out.size))
      have IX'1 := Lib.hid (IX'.out.next hb1)
      have IY'1 := Lib.hid (IY'.out.next hb1)
      have y0 := KP1.out.cell 0
      have y1 := KP1.out.cell 1
      have y2 := KP1.out.cell 2
      have y3 := KP1.out.cell 3
      have y4 := KP1.out.cell 4
      have y5 := KP1.out.cell 5
      have y6 := KP1.out.cell 6
      have y7 := KP1.out.cell 7
      simp at y0 y1 y2 y3 y4 y5 y6 y7
      clear hb1
      go_wp2_with (fail)
      refine (valid_any n' o' A' B' la' ca' lb' cb' X' Y' w1 IX'1.out IY'1.out hla' hlb' hca' hcb').mono ?_
      rintro e2 w2 ⟨rfl, hb2⟩
      rw [V2.out]
      go_wp2_with (fail)
      go_ret
      exact ⟨ret_bool EV.out.symm, B1.out.trans (hb2.mono B1.out.size)⟩
    · have V2 := Lib.hid v2
      obtain ⟨n1, n2⟩ := valid_bounds v1
      obtain ⟨n3, n4⟩ := valid_bounds v2
      have EV := Lib.hid (show prodB n o X Y n' o' X' Y' = decide (n * n' ≤ 16) by simp [prodB, v1, v2])
      clear v1 v2
      go_enter Try.func78, Try.ntmps78
      go_upto_region 1 with (fail)
      rw [HW.out]
      go_wp2_with (fail)
      refine (valid_any n o A B la ca lb cb X Y W IX.out IY.out hla hlb hca hcb).mono ?_
      rintro e1 w1 ⟨rfl, hb1⟩
      rw [V1.out]
      have KP1 := Lib.hid (KP.out.below hb1 KP.out.lt)
      have B1 := Lib.hid (BW.out.trans (hb1.mono BW.out.size))
      have IX'1 := Lib.hid (IX'.out.next hb1)
      have IY'1 := Lib.hid (IY'.out.next hb1)
      have y0 := KP1.out.cell 0
      have y1 := KP1.out.cell 1
      have y2 := KP1.out.cell 2
      have y3 := KP1.out.cell 3
      have y4 := KP1.out.cell 4
      have y5 := KP1.out.cell 5
      have y6 := KP1.out.cell 6
      have y7 := KP1.out.cell 7
      simp at y0 y1 y2 y3 y4 y5 y6 y7
      clear hb1
      go_wp2_with (fail)
      refine (valid_any n' o' A' B' la' ca' lb' cb' X' Y' w1 IX'1.out IY'1.out hla' hlb' hca' hcb').mono ?_
      rintro e2 w2 ⟨rfl, hb2⟩
      rw [V2.out]
      have KP2 := Lib.hid (KP1.out.below hb2 KP1.out.lt)
      have B2 := Lib.hid (B1.out.trans (hb2.mono B1.out.size))
      have z0 := KP2.out.cell 0
      have z1 := KP2.out.cell 1
      have z2 := KP2.out.cell 2
      have z3 := KP2.out.cell 3
      have z4 := KP2.out.cell 4
      have z5 := KP2.out.cell 5
      have z6 := KP2.out.cell 6
      have z7 := KP2.out.cell 7
      simp at z0 z1 z2 z3 z4 z5 z6 z7
      clear hb2
      go_wp2_with (fail)
      refine (paSize_any n o A B la ca lb cb n' o' A' B' la' ca' lb' cb' w2 (by omega) n2 (by omega) n4).mono ?_
      rintro e3 w3 ⟨rfl, hb3⟩
      go_wp2_with (fail)
      go_ret
      exact ⟨ret_bool EV.out.symm, B2.out.trans (hb3.mono B2.out.size)⟩

set_option maxHeartbeats 1000000 in
theorem pairOf_any (n o : Int) (A B : Option Addr) (la ca lb cb : Nat) (X Y : List Int) (n' o' : Int) (A' B' : Option Addr) (la' ca' lb' cb' : Nat) (X' Y' : List Int) (a b : Int) (w : World) (hX : Ints w w.heap.size A la X) (hY : Ints w w.heap.size B lb Y) (hla : la ≤ 9223372036854775807) (hlb : lb ≤ 9223372036854775807) (hca : la ≤ ca) (hcb : lb ≤ cb) (hX' : Ints w w.heap.size A' la' X') (hY' : Ints w w.heap.size B' lb' Y') (hla' : la' ≤ 9223372036854775807) (hlb' : lb' ≤ 9223372036854775807) (hca' : la' ≤ ca') (hcb' : lb' ≤ cb') :
    Calls Try.prog 36 #[.agg #[.int .i64 n, .int .i64 o, .slice A la ca, .slice B lb cb], .agg #[.int .i64 n', .int .i64 o', .slice A' la' ca', .slice B' lb' cb'], .int .i64 a, .int .i64 b] w fun e w' => e = .returned (.int .i64 (pairV n o X Y n' o' X' Y' a b)) ∧ Below w.heap.size w w' := by
  obtain ⟨W, hW⟩ : ∃ W, ((w.alloc (.cells #[.int .i64 n, .int .i64 o, .slice A la ca, .slice B lb cb] 24)).alloc (.cells #[.int .i64 n', .int .i64 o', .slice A' la' ca', .slice B' lb' cb'] 24)).alloc (.cells #[.int .i64 n, .int .i64 o, .slice A la ca, .slice B lb cb, .int .i64 n', .int .i64 o', .slice A' la' ca', .slice B' lb' cb'] 70) = W := ⟨_, rfl⟩
  have kR : Blk W w.heap.size 24 #[.int .i64 n, .int .i64 o, .slice A la ca, .slice B lb cb] := by
    subst hW; exact ((Blk.new w _ _).alloc _).alloc _
  have kS : Blk W (w.heap.size + 1) 24 #[.int .i64 n', .int .i64 o', .slice A' la' ca', .slice B' lb' cb'] := by
    subst hW
    have := (Blk.new (w.alloc (.cells #[.int .i64 n, .int .i64 o, .slice A la ca, .slice B lb cb] 24)) 24 #[.int .i64 n', .int .i64 o', .slice A' la' ca', .slice B' lb' cb']).alloc (.cells #[.int .i64 n, .int .i64 o, .slice A la ca, .slice B lb cb, .int .i64 n', .int .i64 o', .slice A' la' ca', .slice B' lb' cb'] 70)
    rw [World.size_alloc] at this
    exact this
  have kP : Blk W (w.heap.size + 1 + 1) 70 #[.int .i64 n, .int .i64 o, .slice A la ca, .slice B lb cb, .int .i64 n', .int .i64 o', .slice A' la' ca', .slice B' lb' cb'] := by
    subst hW
    have := Blk.new ((w.alloc (.cells #[.int .i64 n, .int .i64 o, .slice A la ca, .slice B lb cb] 24)).alloc (.cells #[.int .i64 n', .int .i64 o', .slice A' la' ca', .slice B' lb' cb'] 24)) 70 #[.int .i64 n, .int .i64 o, .slice A la ca, .slice B lb cb, .int .i64 n', .int .i64 o', .slice A' la' ca', .slice B' lb' cb']
    rw [World.size_alloc, World.size_alloc] at this
    exact this
  have bW : Below w.heap.size w W := by
    subst hW
    exact (((Below.refl _ _).alloc (Nat.le_refl _) _).alloc (by simp) _).alloc (by simp; omega) _
  have KR := Lib.hid kR
  have KS := Lib.hid kS
  have KP := Lib.hid kP
  have BW := Lib.hid bW
  have IX := Lib.hid (hX.next bW)
  have IY := Lib.hid (hY.next bW)
  have IX' := Lib.hid (hX'.next bW)
  have IY' := Lib.hid (hY'.next bW)
  have HW := Lib.hid hW
  have x0 := KR.out.cell 0
  have x1 := KR.out.cell 1
  have x2 := KR.out.cell 2
  have x3 := KR.out.cell 3
  have y0 := KS.out.cell 0
  have y1 := KS.out.cell 1
  have y2 := KS.out.cell 2
  have y3 := KS.out.cell 3
  have p0 := KP.out.cell 0
  have p1 := KP.out.cell 1
  have p2 := KP.out.cell 2
  have p3 := KP.out.cell 3
  have p4 := KP.out.cell 4
  have p5 := KP.out.cell 5
  have p6 := KP.out.cell 6
  have p7 := KP.out.cell 7
  simp at x0 x1 x2 x3 y0 y1 y2 y3 p0 p1 p2 p3 p4 p5 p6 p7
  clear kR kS kP bW hW hX hY hX' hY'
  cases hp : prodB n o X Y n' o' X' Y'
  · have VP := Lib.hid hp
    have PV := Lib.hid (pairV_no (a := a) (b := b) (show ¬ (prodB n o X Y n' o' X' Y' = true ∧ inB n a = true ∧ inB n' b = true) by rw [hp]; simp))
    clear hp
    go_enter Try.func36, Try.ntmps36
    go_upto_region 2 with (fail)
    rw [HW.out]
    go_wp2_with (fail)
    refine (paValid_any n o A B la ca lb cb X Y n' o' A' B' la' ca' lb' cb' X' Y' W IX.out IY.out hla hlb hca hcb IX'.out IY'.out hla' hlb' hca' hcb').mono ?_
    rintro e1 w1 ⟨rfl, hb1⟩
    rw [VP.out]
    have KR1 := Lib.hid (KR.out.below hb1 KR.out.lt)
    have KS1 := Lib.hid (KS.out.below hb1 KS.out.lt)
    have KP1 := Lib.hid (KP.out.below hb1 KP.out.lt)
    have BW1 := Lib.hid (BW.out.trans (hb1.mono BW.out.size))
    clear hb1
    have x01 := KR1.out.cell 0
    have x11 := KR1.out.cell 1
    have x21 := KR1.out.cell 2
    have x31 := KR1.out.cell 3
    have y01 := KS1.out.cell 0
    have y11 := KS1.out.cell 1
    have y21 := KS1.out.cell 2
    have y31 := KS1.out.cell 3
    have p01 := KP1.out.cell 0
    have p11 := KP1.out.cell 1
    have p21 := KP1.out.cell 2
    have p31 := KP1.out.cell 3
    have p41 := KP1.out.cell 4
    have p51 := KP1.out.cell 5
    have p61 := KP1.out.cell 6
    have p71 := KP1.out.cell 7
    simp at x01 x11 x21 x31 y01 y11 y21 y31 p01 p11 p21 p31 p41 p51 p61 p71
    go_wp2_with (fail)
    go_ret
    exact ⟨ret_int PV.out.symm, BW1.out⟩
  · have VP := Lib.hid hp
    cases ha : inB n a
    · have VA := Lib.hid ha
      have PV := Lib.hid (pairV_no (a := a) (b := b) (show ¬ (prodB n o X Y n' o' X' Y' = true ∧ inB n a = true ∧ inB n' b = true) by rw [ha]; simp))
      clear hp ha
      go_enter Try.func36, Try.ntmps36
      go_upto_region 2 with (fail)
      rw [HW.out]
      go_wp2_with (fail)
      refine (paValid_any n o A B la ca lb cb X Y n' o' A' B' la' ca' lb' cb' X' Y' W IX.out IY.out hla hlb hca hcb IX'.out IY'.out hla' hlb' hca' hcb').mono ?_
      rintro e1 w1 ⟨rfl, hb1⟩
      rw [VP.out]
      have KR1 := Lib.hid (KR.out.below hb1 KR.out.lt)
      have KS1 := Lib.hid (KS.out.below hb1 KS.out.lt)
      have KP1 := Lib.hid (KP.out.below hb1 KP.out.lt)
      have BW1 := Lib.hid (BW.out.trans (hb1.mono BW.out.size))
      clear hb1
      have x01 := KR1.out.cell 0
      have x11 := KR1.out.cell 1
      have x21 := KR1.out.cell 2
      have x31 := KR1.out.cell 3
      have y01 := KS1.out.cell 0
      have y11 := KS1.out.cell 1
      have y21 := KS1.out.cell 2
      have y31 := KS1.out.cell 3
      have p01 := KP1.out.cell 0
      have p11 := KP1.out.cell 1
      have p21 := KP1.out.cell 2
      have p31 := KP1.out.cell 3
      have p41 := KP1.out.cell 4
      have p51 := KP1.out.cell 5
      have p61 := KP1.out.cell 6
      have p71 := KP1.out.cell 7
      simp at x01 x11 x21 x31 y01 y11 y21 y31 p01 p11 p21 p31 p41 p51 p61 p71
      go_wp2_with (fail)
      refine (has_any n o a A B la ca lb cb w1).mono ?_
      rintro e2 w2 ⟨rfl, hb2⟩
      rw [VA.out]
      have KR2 := Lib.hid (KR1.out.below hb2 KR1.out.lt)
      have KS2 := Lib.hid (KS1.out.below hb2 KS1.out.lt)
      have KP2 := Lib.hid (KP1.out.below hb2 KP1.out.lt)
      have BW2 := Lib.hid (BW1.out.trans (hb2.mono BW1.out.size))
      clear hb2
      have x02 := KR2.out.cell 0
      have x12 := KR2.out.cell 1
      have x22 := KR2.out.cell 2
      have x32 := KR2.out.cell 3
      have y02 := KS2.out.cell 0
      have y12 := KS2.out.cell 1
      have y22 := KS2.out.cell 2
      have y32 := KS2.out.cell 3
      have p02 := KP2.out.cell 0
      have p12 := KP2.out.cell 1
      have p22 := KP2.out.cell 2
      have p32 := KP2.out.cell 3
      have p42 := KP2.out.cell 4
      have p52 := KP2.out.cell 5
      have p62 := KP2.out.cell 6
      have p72 := KP2.out.cell 7
      simp at x02 x12 x22 x32 y02 y12 y22 y32 p02 p12 p22 p32 p42 p52 p62 p72
      go_wp2_with (fail)
      go_ret
      exact ⟨ret_int PV.out.symm, BW2.out⟩
    · have VA := Lib.hid ha
      cases hb : inB n' b
      · have VB := Lib.hid hb
        have PV := Lib.hid (pairV_no (a := a) (b := b) (show ¬ (prodB n o X Y n' o' X' Y' = true ∧ inB n a = true ∧ inB n' b = true) by rw [hb]; simp))
        clear hp ha hb
        go_enter Try.func36, Try.ntmps36
        go_upto_region 2 with (fail)
        rw [HW.out]
        go_wp2_with (fail)
        refine (paValid_any n o A B la ca lb cb X Y n' o' A' B' la' ca' lb' cb' X' Y' W IX.out IY.out hla hlb hca hcb IX'.out IY'.out hla' hlb' hca' hcb').mono ?_
        rintro e1 w1 ⟨rfl, hb1⟩
        rw [VP.out]
        have KR1 := Lib.hid (KR.out.below hb1 KR.out.lt)
        have KS1 := Lib.hid (KS.out.below hb1 KS.out.lt)
        have KP1 := Lib.hid (KP.out.below hb1 KP.out.lt)
        have BW1 := Lib.hid (BW.out.trans (hb1.mono BW.out.size))
        clear hb1
        have x01 := KR1.out.cell 0
        have x11 := KR1.out.cell 1
        have x21 := KR1.out.cell 2
        have x31 := KR1.out.cell 3
        have y01 := KS1.out.cell 0
        have y11 := KS1.out.cell 1
        have y21 := KS1.out.cell 2
        have y31 := KS1.out.cell 3
        have p01 := KP1.out.cell 0
        have p11 := KP1.out.cell 1
        have p21 := KP1.out.cell 2
        have p31 := KP1.out.cell 3
        have p41 := KP1.out.cell 4
        have p51 := KP1.out.cell 5
        have p61 := KP1.out.cell 6
        have p71 := KP1.out.cell 7
        simp at x01 x11 x21 x31 y01 y11 y21 y31 p01 p11 p21 p31 p41 p51 p61 p71
        go_wp2_with (fail)
        refine (has_any n o a A B la ca lb cb w1).mono ?_
        rintro e2 w2 ⟨rfl, hb2⟩
        rw [VA.out]
        have KR2 := Lib.hid (KR1.out.below hb2 KR1.out.lt)
        have KS2 := Lib.hid (KS1.out.below hb2 KS1.out.lt)
        have KP2 := Lib.hid (KP1.out.below hb2 KP1.out.lt)
        have BW2 := Lib.hid (BW1.out.trans (hb2.mono BW1.out.size))
        clear hb2
        have x02 := KR2.out.cell 0
        have x12 := KR2.out.cell 1
        have x22 := KR2.out.cell 2
        have x32 := KR2.out.cell 3
        have y02 := KS2.out.cell 0
        have y12 := KS2.out.cell 1
        have y22 := KS2.out.cell 2
        have y32 := KS2.out.cell 3
        have p02 := KP2.out.cell 0
        have p12 := KP2.out.cell 1
        have p22 := KP2.out.cell 2
        have p32 := KP2.out.cell 3
        have p42 := KP2.out.cell 4
        have p52 := KP2.out.cell 5
        have p62 := KP2.out.cell 6
        have p72 := KP2.out.cell 7
        simp at x02 x12 x22 x32 y02 y12 y22 y32 p02 p12 p22 p32 p42 p52 p62 p72
        go_wp2_with (fail)
        refine (has_any n' o' b A' B' la' ca' lb' cb' w2).mono ?_
        rintro e3 w3 ⟨rfl, hb3⟩
        rw [VB.out]
        have KR3 := Lib.hid (KR2.out.below hb3 KR2.out.lt)
        have KS3 := Lib.hid (KS2.out.below hb3 KS2.out.lt)
        have KP3 := Lib.hid (KP2.out.below hb3 KP2.out.lt)
        have BW3 := Lib.hid (BW2.out.trans (hb3.mono BW2.out.size))
        clear hb3
        have x03 := KR3.out.cell 0
        have x13 := KR3.out.cell 1
        have x23 := KR3.out.cell 2
        have x33 := KR3.out.cell 3
        have y03 := KS3.out.cell 0
        have y13 := KS3.out.cell 1
        have y23 := KS3.out.cell 2
        have y33 := KS3.out.cell 3
        have p03 := KP3.out.cell 0
        have p13 := KP3.out.cell 1
        have p23 := KP3.out.cell 2
        have p33 := KP3.out.cell 3
        have p43 := KP3.out.cell 4
        have p53 := KP3.out.cell 5
        have p63 := KP3.out.cell 6
        have p73 := KP3.out.cell 7
        simp at x03 x13 x23 x33 y03 y13 y23 y33 p03 p13 p23 p33 p43 p53 p63 p73
        go_wp2_with (fail)
        go_ret
        exact ⟨ret_int PV.out.symm, BW3.out⟩
      · have VB := Lib.hid hb
        have PV := Lib.hid (pairV_yes (a := a) (b := b) ⟨hp, ha, hb⟩)
        obtain ⟨g1, g2, g3, g4, _, _, _⟩ := prod_bounds hp
        have ha' := of_decide_eq_true ha
        have hb' := of_decide_eq_true hb
        have a1 : 0 ≤ a := ha'.1
        have a2 : a ≤ 16 := by omega
        have b1 : 0 ≤ b := hb'.1
        have b2 : b ≤ 16 := by omega
        clear hp ha hb ha' hb'
        go_enter Try.func36, Try.ntmps36
        go_upto_region 2 with (fail)
        rw [HW.out]
        go_wp2_with (fail)
        refine (paValid_any n o A B la ca lb cb X Y n' o' A' B' la' ca' lb' cb' X' Y' W IX.out IY.out hla hlb hca hcb IX'.out IY'.out hla' hlb' hca' hcb').mono ?_
        rintro e1 w1 ⟨rfl, hb1⟩
        rw [VP.out]
        have KR1 := Lib.hid (KR.out.below hb1 KR.out.lt)
        have KS1 := Lib.hid (KS.out.below hb1 KS.out.lt)
        have KP1 := Lib.hid (KP.out.below hb1 KP.out.lt)
        have BW1 := Lib.hid (BW.out.trans (hb1.mono BW.out.size))
        clear hb1
        have x01 := KR1.out.cell 0
        have x11 := KR1.out.cell 1
        have x21 := KR1.out.cell 2
        have x31 := KR1.out.cell 3
        have y01 := KS1.out.cell 0
        have y11 := KS1.out.cell 1
        have y21 := KS1.out.cell 2
        have y31 := KS1.out.cell 3
        have p01 := KP1.out.cell 0
        have p11 := KP1.out.cell 1
        have p21 := KP1.out.cell 2
        have p31 := KP1.out.cell 3
        have p41 := KP1.out.cell 4
        have p51 := KP1.out.cell 5
        have p61 := KP1.out.cell 6
        have p71 := KP1.out.cell 7
        simp at x01 x11 x21 x31 y01 y11 y21 y31 p01 p11 p21 p31 p41 p51 p61 p71
        go_wp2_with (fail)
        refine (has_any n o a A B la ca lb cb w1).mono ?_
        rintro e2 w2 ⟨rfl, hb2⟩
        rw [VA.out]
        have KR2 := Lib.hid (KR1.out.below hb2 KR1.out.lt)
        have KS2 := Lib.hid (KS1.out.below hb2 KS1.out.lt)
        have KP2 := Lib.hid (KP1.out.below hb2 KP1.out.lt)
        have BW2 := Lib.hid (BW1.out.trans (hb2.mono BW1.out.size))
        clear hb2
        have x02 := KR2.out.cell 0
        have x12 := KR2.out.cell 1
        have x22 := KR2.out.cell 2
        have x32 := KR2.out.cell 3
        have y02 := KS2.out.cell 0
        have y12 := KS2.out.cell 1
        have y22 := KS2.out.cell 2
        have y32 := KS2.out.cell 3
        have p02 := KP2.out.cell 0
        have p12 := KP2.out.cell 1
        have p22 := KP2.out.cell 2
        have p32 := KP2.out.cell 3
        have p42 := KP2.out.cell 4
        have p52 := KP2.out.cell 5
        have p62 := KP2.out.cell 6
        have p72 := KP2.out.cell 7
        simp at x02 x12 x22 x32 y02 y12 y22 y32 p02 p12 p22 p32 p42 p52 p62 p72
        go_wp2_with (fail)
        refine (has_any n' o' b A' B' la' ca' lb' cb' w2).mono ?_
        rintro e3 w3 ⟨rfl, hb3⟩
        rw [VB.out]
        have KR3 := Lib.hid (KR2.out.below hb3 KR2.out.lt)
        have KS3 := Lib.hid (KS2.out.below hb3 KS2.out.lt)
        have KP3 := Lib.hid (KP2.out.below hb3 KP2.out.lt)
        have BW3 := Lib.hid (BW2.out.trans (hb3.mono BW2.out.size))
        clear hb3
        have x03 := KR3.out.cell 0
        have x13 := KR3.out.cell 1
        have x23 := KR3.out.cell 2
        have x33 := KR3.out.cell 3
        have y03 := KS3.out.cell 0
        have y13 := KS3.out.cell 1
        have y23 := KS3.out.cell 2
        have y33 := KS3.out.cell 3
        have p03 := KP3.out.cell 0
        have p13 := KP3.out.cell 1
        have p23 := KP3.out.cell 2
        have p33 := KP3.out.cell 3
        have p43 := KP3.out.cell 4
        have p53 := KP3.out.cell 5
        have p63 := KP3.out.cell 6
        have p73 := KP3.out.cell 7
        simp at x03 x13 x23 x33 y03 y13 y23 y33 p03 p13 p23 p33 p43 p53 p63 p73
        go_wp2_with (fail)
        refine (paNumber_any n o A B la ca lb cb n' o' A' B' la' ca' lb' cb' a b w3 a1 a2 g3 g4 b1 b2).mono ?_
        rintro e4 w4 ⟨rfl, hb4⟩
        go_wp2_with (fail)
        go_ret
        exact ⟨ret_int PV.out.symm, BW3.out.trans (hb4.mono BW3.out.size)⟩

end Go.Proofs.Ytplligjoegjngaa
