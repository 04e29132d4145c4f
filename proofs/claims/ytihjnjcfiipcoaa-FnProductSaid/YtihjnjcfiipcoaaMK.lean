/- Texts of this seat in one: G8 G9 H1 WC WD E8. -/
import Derived.Test.YtihjnjcfiipcoaaMC
import Derived.Test.YtihjnjcfiipcoaaMJ
import Derived.Test.YtihjnjcfiipcoaaMH

/- PairOf of the reading side. -/
namespace Go.Proofs.Ytihjnjcfiipcoaa
open Go.RowKit
set_option maxRecDepth 100000

/-- What PairOf returns. -/
noncomputable def pairV (n o : Int) (X Y : List Int) (n' o' : Int) (X' Y' : List Int) (a b : Int) : Int := if prodB n o X Y n' o' X' Y' = true ∧ inB n a = true ∧ inB n' b = true then a * n' + b else -1
theorem pairV_no {n o : Int} {X Y : List Int} {n' o' : Int} {X' Y' : List Int} {a b : Int} (h : ¬ (prodB n o X Y n' o' X' Y' = true ∧ inB n a = true ∧ inB n' b = true)) : pairV n o X Y n' o' X' Y' a b = -1 := if_neg h
theorem pairV_yes {n o : Int} {X Y : List Int} {n' o' : Int} {X' Y' : List Int} {a b : Int} (h : prodB n o X Y n' o' X' Y' = true ∧ inB n a = true ∧ inB n' b = true) : pairV n o X Y n' o' X' Y' a b = a * n' + b := if_pos h
theorem prod_bounds {n o : Int} {X Y : List Int} {n' o' : Int} {X' Y' : List Int} (h : prodB n o X Y n' o' X' Y' = true) : 1 ≤ n ∧ n ≤ 16 ∧ 1 ≤ n' ∧ n' ≤ 16 ∧ validB n o X Y = true ∧ validB n' o' X' Y' = true ∧ n * n' ≤ 16 := by
  unfold prodB at h
  rw [Bool.and_eq_true, Bool.and_eq_true, decide_eq_true_eq] at h
  obtain ⟨⟨h1, h2⟩, h3⟩ := h
  have g1 := h1
  have g2 := h2
  unfold validB at g1 g2
  rw [Bool.and_eq_true] at g1 g2
  obtain ⟨m, e, rfl, rfl, hm, hm', _⟩ := fits_data g1.1
  obtain ⟨q, f, rfl, rfl, hq, hq', _⟩ := fits_data g2.1
  exact ⟨by omega, by omega, by omega, by omega, h1, h2, h3⟩

theorem pair_nums {a b q : Int} (h0 : 0 ≤ a) (h1 : a ≤ 16) (q0 : 1 ≤ q) (q1 : q ≤ 16) (b0 : 0 ≤ b) (b1 : b ≤ 16) : 0 ≤ a * q ∧ a * q ≤ 256 ∧ 0 ≤ a * q + b ∧ a * q + b ≤ 300 := by
  have e1 : 0 ≤ a * q := Int.mul_nonneg h0 (by omega)
  have e2 : a * q ≤ 16 * 16 := Int.mul_le_mul h1 q1 (by omega) (by omega)
  omega

set_option maxHeartbeats 1000000 in
theorem spairOf_any (n o : Int) (A B : Option Addr) (la ca lb cb : Nat) (X Y : List Int) (n' o' : Int) (A' B' : Option Addr) (la' ca' lb' cb' : Nat) (X' Y' : List Int) (a b : Int) (w : World) (hX : Ints w w.heap.size A la X) (hY : Ints w w.heap.size B lb Y) (hla : la ≤ 9223372036854775807) (hlb : lb ≤ 9223372036854775807) (hca : la ≤ ca) (hcb : lb ≤ cb) (hX' : Ints w w.heap.size A' la' X') (hY' : Ints w w.heap.size B' lb' Y') (hla' : la' ≤ 9223372036854775807) (hlb' : lb' ≤ 9223372036854775807) (hca' : la' ≤ ca') (hcb' : lb' ≤ cb') :
    Calls Try.prog 38 #[.agg #[.int .i64 n, .int .i64 o, .slice A la ca, .slice B lb cb], .agg #[.int .i64 n', .int .i64 o', .slice A' la' ca', .slice B' lb' cb'], .int .i64 a, .int .i64 b] w fun e w' => e = .returned (.int .i64 (pairV n o X Y n' o' X' Y' a b)) ∧ Below w.heap.size w w' := by
  obtain ⟨W, hW⟩ : ∃ W, (w.alloc (.cells #[.int .i64 n, .int .i64 o, .slice A la ca, .slice B lb cb] 25)).alloc (.cells #[.int .i64 n', .int .i64 o', .slice A' la' ca', .slice B' lb' cb'] 25) = W := ⟨_, rfl⟩
  have kR : Blk W w.heap.size 25 #[.int .i64 n, .int .i64 o, .slice A la ca, .slice B lb cb] := by
    subst hW; exact (Blk.new w _ _).alloc _
  have kS : Blk W (w.heap.size + 1) 25 #[.int .i64 n', .int .i64 o', .slice A' la' ca', .slice B' lb' cb'] := by
    subst hW
    have := Blk.new (w.alloc (.cells #[.int .i64 n, .int .i64 o, .slice A la ca, .slice B lb cb] 25)) 25 #[.int .i64 n', .int .i64 o', .slice A' la' ca', .slice B' lb' cb']
    rw [World.size_alloc] at this
    exact this
  have bW : Below w.heap.size w W := by
    subst hW
    exact ((Below.refl _ _).alloc (Nat.le_refl _) _).alloc (by simp) _
  have KR := Lib.hid kR
  have KS := Lib.hid kS
  have BW := Lib.hid bW
  have x0 := kR.cell 0
  have x1 := kR.cell 1
  have x2 := kR.cell 2
  have x3 := kR.cell 3
  have y0 := kS.cell 0
  have y1 := kS.cell 1
  have y2 := kS.cell 2
  have y3 := kS.cell 3
  simp at x0 x1 x2 x3 y0 y1 y2 y3
  have IX := Lib.hid (hX.next bW)
  have IY := Lib.hid (hY.next bW)
  have IX' := Lib.hid (hX'.next bW)
  have IY' := Lib.hid (hY'.next bW)
  have HW := Lib.hid hW
  clear kR kS bW hW hX hY hX' hY'
  go_enter Try.func38, Try.ntmps38
  go_upto_region 1 with (fail)
  rw [HW.out]
  go_wp2_with (fail)
  refine (sproduct_any n o A B la ca lb cb X Y n' o' A' B' la' ca' lb' cb' X' Y' W IX.out IY.out hla hlb hca hcb IX'.out IY'.out hla' hlb' hca' hcb').mono ?_
  rintro e1 w1 ⟨v1, rfl, ⟨C1, l1, k1, C2, l2, k2, rfl, _⟩, hb1⟩
  have KR1 := Lib.hid (KR.out.below hb1 KR.out.lt)
  have KS1 := Lib.hid (KS.out.below hb1 KS.out.lt)
  have BW1 := Lib.hid (BW.out.trans (hb1.mono BW.out.size))
  clear hb1 x0 x1 x2 x3 y0 y1 y2 y3
  go_upto_region 2 with (fail)
  obtain ⟨V, hV⟩ : ∃ V, w1.alloc (.cells #[.int .i64 (prN n o X Y n' o' X' Y'), .int .i64 (prO n o X Y n' o' X' Y'), .slice C1 l1 k1, .slice C2 l2 k2] 25) = V := ⟨_, rfl⟩
  have bV : Below w1.heap.size w1 V := by subst hV; exact (Below.refl _ _).alloc (Nat.le_refl _) _
  rw [hV]
  clear hV
  have kR := KR1.out.below bV KR1.out.lt
  have kS := KS1.out.below bV KS1.out.lt
  have KR2 := Lib.hid kR
  have KS2 := Lib.hid kS
  have BV := Lib.hid (BW1.out.trans (bV.mono BW1.out.size))
  have x0 := kR.cell 0
  have y0 := kS.cell 0
  simp at x0 y0
  clear kR kS bV
  cases hp : prodB n o X Y n' o' X' Y'
  · have PV := Lib.hid (pairV_no (a := a) (b := b) (show ¬ (prodB n o X Y n' o' X' Y' = true ∧ inB n a = true ∧ inB n' b = true) by rw [hp]; simp))
    go_wp2_with (fail)
    go_ret
    exact ⟨ret_int PV.out.symm, BV.out⟩
  · obtain ⟨g1, g2, g3, g4, _, _, _⟩ := prod_bounds hp
    have HH := Lib.hid (show wrap64 (n - 1) = n - 1 from IntWalk.wrap64_in _ (by omega))
    have HH' := Lib.hid (show wrap64 (n' - 1) = n' - 1 from IntWalk.wrap64_in _ (by omega))
    obtain ⟨V1, hV1⟩ : ∃ V1, V.alloc (.cells #[.int .i64 a] 3) = V1 := ⟨_, rfl⟩
    have bV1 : Below V.heap.size V V1 := by subst hV1; exact (Below.refl _ _).alloc (Nat.le_refl _) _
    have HE := Lib.hid (show Ints V1 (V.heap.size + 1) (some ⟨V.heap.size, 0, none⟩) 1 [a] by subst hV1; exact ints_one)
    have KR3 := Lib.hid (KR2.out.below bV1 KR2.out.lt)
    have KS3 := Lib.hid (KS2.out.below bV1 KS2.out.lt)
    have BV1 := Lib.hid (BV.out.trans (bV1.mono BV.out.size))
    have xx := KR3.out.cell 0
    have yy := KS3.out.cell 0
    simp at xx yy
    have HV1 := Lib.hid hV1
    clear bV1 hV1
    cases ha : inB n a
    · have PV := Lib.hid (pairV_no (a := a) (b := b) (show ¬ (prodB n o X Y n' o' X' Y' = true ∧ inB n a = true ∧ inB n' b = true) by rw [ha]; simp))
      have EL := Lib.hid (show elB (n - 1) [a] = false by rw [elB_one, ha])
      go_wp2_with (fail)
      rw [HV1.out]
      refine (l1Elements_any n _ _ 1 1 [a] V1 _ HH.out HE.out (by omega)).mono ?_
      rintro e2 w2 ⟨rfl, rfl⟩
      rw [EL.out]
      go_wp2_with (fail)
      go_ret
      exact ⟨ret_int PV.out.symm, BV1.out⟩
    · have EL := Lib.hid (show elB (n - 1) [a] = true by rw [elB_one, ha])
      obtain ⟨V2, hV2⟩ : ∃ V2, V1.alloc (.cells #[.int .i64 b] 3) = V2 := ⟨_, rfl⟩
      have bV2 : Below V1.heap.size V1 V2 := by subst hV2; exact (Below.refl _ _).alloc (Nat.le_refl _) _
      have HF := Lib.hid (show Ints V2 (V1.heap.size + 1) (some ⟨V1.heap.size, 0, none⟩) 1 [b] by subst hV2; exact ints_one)
      have KS4 := Lib.hid (KS3.out.below bV2 KS3.out.lt)
      have BV2 := Lib.hid (BV1.out.trans (bV2.mono BV1.out.size))
      have yz := KS4.out.cell 0
      simp at yz
      have HV2 := Lib.hid hV2
      clear bV2 hV2
      cases hb : inB n' b
      · have PV := Lib.hid (pairV_no (a := a) (b := b) (show ¬ (prodB n o X Y n' o' X' Y' = true ∧ inB n a = true ∧ inB n' b = true) by rw [hb]; simp))
        have EM := Lib.hid (show elB (n' - 1) [b] = false by rw [elB_one, hb])
        go_wp2_with (fail)
        rw [HV1.out]
        refine (l1Elements_any n _ _ 1 1 [a] V1 _ HH.out HE.out (by omega)).mono ?_
        rintro e2 w2 ⟨rfl, rfl⟩
        rw [EL.out]
        go_wp2_with (fail)
        rw [HV2.out]
        refine (l1Elements_any n' _ _ 1 1 [b] V2 _ HH'.out HF.out (by omega)).mono ?_
        rintro e3 w3 ⟨rfl, rfl⟩
        rw [EM.out]
        go_wp2_with (fail)
        go_ret
        exact ⟨ret_int PV.out.symm, BV2.out⟩
      · have PV := Lib.hid (pairV_yes (a := a) (b := b) ⟨hp, ha, hb⟩)
        have EM := Lib.hid (show elB (n' - 1) [b] = true by rw [elB_one, hb])
        have ha' := of_decide_eq_true ha
        have hb' := of_decide_eq_true hb
        obtain ⟨r1, r2, r3, r4⟩ := pair_nums ha'.1 (by omega) g3 g4 hb'.1 (by omega)
        go_wp2_with (fail)
        rw [HV1.out]
        refine (l1Elements_any n _ _ 1 1 [a] V1 _ HH.out HE.out (by omega)).mono ?_
        rintro e2 w2 ⟨rfl, rfl⟩
        rw [EL.out]
        go_wp2_with (fail)
        rw [HV2.out]
        refine (l1Elements_any n' _ _ 1 1 [b] V2 _ HH'.out HF.out (by omega)).mono ?_
        rintro e3 w3 ⟨rfl, rfl⟩
        rw [EM.out]
        go_wp2_with (fail)
        go_ret
        exact ⟨ret_int PV.out.symm, BV2.out⟩

end Go.Proofs.Ytihjnjcfiipcoaa


/- The making of pairs, and PairOf of the program. -/
namespace Go.Proofs.Ytihjnjcfiipcoaa
open Go.RowKit
set_option maxRecDepth 100000

theorem valid_bounds {n o : Int} {X Y : List Int} (h : validB n o X Y = true) : 1 ≤ n ∧ n ≤ 16 := by
  unfold validB at h
  rw [Bool.and_eq_true] at h
  obtain ⟨m, e, rfl, rfl, hm, hm', _⟩ := fits_data h.1
  omega
theorem paSize_any (n o : Int) (A B : Option Addr) (la ca lb cb : Nat) (n' o' : Int) (A' B' : Option Addr) (la' ca' lb' cb' : Nat) (w : World) (h1 : 0 ≤ n) (h2 : n ≤ 16) (h3 : 0 ≤ n') (h4 : n' ≤ 16) :
    Calls Try.prog 92 #[.agg #[.int .i64 n, .int .i64 o, .slice A la ca, .slice B lb cb, .int .i64 n', .int .i64 o', .slice A' la' ca', .slice B' lb' cb']] w fun e w' => e = .returned (.int .i64 (n * n')) ∧ Below w.heap.size w w' := by
  have e1 : 0 ≤ n * n' := Int.mul_nonneg h1 h3
  have e2 : n * n' ≤ 16 * 16 := Int.mul_le_mul h2 h4 h3 (by omega)
  go_enter Try.func92, Try.ntmps92
  go_wp2
  go_ret
  exact ⟨rfl, (Below.refl _ _).alloc (Nat.le_refl _) _⟩
theorem paNumber_any (n o : Int) (A B : Option Addr) (la ca lb cb : Nat) (n' o' : Int) (A' B' : Option Addr) (la' ca' lb' cb' : Nat) (a b : Int) (w : World) (h1 : 0 ≤ a) (h2 : a ≤ 16) (h3 : 1 ≤ n') (h4 : n' ≤ 16) (h5 : 0 ≤ b) (h6 : b ≤ 16) :
    Calls Try.prog 95 #[.agg #[.int .i64 n, .int .i64 o, .slice A la ca, .slice B lb cb, .int .i64 n', .int .i64 o', .slice A' la' ca', .slice B' lb' cb'], .agg #[.int .i64 a, .int .i64 b]] w fun e w' => e = .returned (.int .i64 (a * n' + b)) ∧ Below w.heap.size w w' := by
  obtain ⟨r1, r2, r3, r4⟩ := pair_nums h1 h2 h3 h4 h5 h6
  go_enter Try.func95, Try.ntmps95
  go_wp2
  go_ret
  exact ⟨rfl, ((Below.refl _ _).alloc (Nat.le_refl _) _).alloc (by simp) _⟩

set_option maxHeartbeats 1000000 in
theorem paValid_any (n o : Int) (A B : Option Addr) (la ca lb cb : Nat) (X Y : List Int) (n' o' : Int) (A' B' : Option Addr) (la' ca' lb' cb' : Nat) (X' Y' : List Int) (w : World) (hX : Ints w w.heap.size A la X) (hY : Ints w w.heap.size B lb Y) (hla : la ≤ 9223372036854775807) (hlb : lb ≤ 9223372036854775807) (hca : la ≤ ca) (hcb : lb ≤ cb) (hX' : Ints w w.heap.size A' la' X') (hY' : Ints w w.heap.size B' lb' Y') (hla' : la' ≤ 9223372036854775807) (hlb' : lb' ≤ 9223372036854775807) (hca' : la' ≤ ca') (hcb' : lb' ≤ cb') :
    Calls Try.prog 89 #[.agg #[.int .i64 n, .int .i64 o, .slice A la ca, .slice B lb cb, .int .i64 n', .int .i64 o', .slice A' la' ca', .slice B' lb' cb']] w fun e w' => e = .returned (.bool (prodB n o X Y n' o' X' Y')) ∧ Below w.heap.size w w' := by
  obtain ⟨W, hW⟩ : ∃ W, w.alloc (.cells #[.int .i64 n, .int .i64 o, .slice A la ca, .slice B lb cb, .int .i64 n', .int .i64 o', .slice A' la' ca', .slice B' lb' cb'] 91) = W := ⟨_, rfl⟩
  have k : Blk W w.heap.size 91 #[.int .i64 n, .int .i64 o, .slice A la ca, .slice B lb cb, .int .i64 n', .int .i64 o', .slice A' la' ca', .slice B' lb' cb'] := by subst hW; exact Blk.new w _ _
  have bW : Below w.heap.size w W := by subst hW; exact (Below.refl _ _).alloc (Nat.le_refl _) _
  have KP := Lib.hid k
  have BW := Lib.hid bW
  have IX := Lib.hid (hX.next bW)
  have IY := Lib.hid (hY.next bW)
  have IX' := Lib.hid (hX'.next bW)
  have IY' := Lib.hid (hY'.next bW)
  have x0 := k.cell 0
  have x1 := k.cell 1
  have x2 := k.cell 2
  have x3 := k.cell 3
  have x4 := k.cell 4
  have x5 := k.cell 5
  have x6 := k.cell 6
  have x7 := k.cell 7
  simp at x0 x1 x2 x3 x4 x5 x6 x7
  have HW := Lib.hid hW
  clear k bW hW hX hY hX' hY'
  cases v1 : validB n o X Y
  · have V1 := Lib.hid v1
    have EV := Lib.hid (show prodB n o X Y n' o' X' Y' = false by simp [prodB, v1])
    clear v1
    go_enter Try.func89, Try.ntmps89
    go_upto_region 1 with (fail)
    rw [HW.out]
    go_wp2_with (fail)
    refine (valid_any n o A B la ca lb cb X Y W IX.out IY.out hla hlb hca hcb).mono ?_
    rintro e1 w1 ⟨rfl, hb1⟩
    rw [V1.out]
    go_wp2_with (fail)
    go_ret
    exact ⟨ret_bool EV.out.symm, BW.out.trans (hb1.mono BW.out.size)⟩
  · have V1 := Lib.hid v1
    cases v2 : validB n' o' X' Y'
    · have V2 := Lib.hid v2
      have EV := Lib.hid (show prodB n o X Y n' o' X' Y' = false by simp [prodB, v2])
      clear v1 v2
      go_enter Try.func89, Try.ntmps89
      go_upto_region 1 with (fail)
      rw [HW.out]
      go_wp2_with (fail)
      refine (valid_any n o A B la ca lb cb X Y W IX.out IY.out hla hlb hca hcb).mono ?_
      rintro e1 w1 ⟨rfl, hb1⟩
      rw [V1.out]
      have KP1 := Lib.hid (KP.out.below hb1 KP.out.lt)
      have B1 := Lib.hid (BW.out.trans (hb1.mono BW.out.size))
      have IX'1 := Lib.hid (IX'.out.next hb1)
      have IY'1 := Lib.hid (IY'.out.next hb1)
      have y0 := KP1.out.cell 0
      have y1 := KP1.out.cell 1
      have y2 := KP1.out.cell 2
      have y3 := KP1.out.cell 3
      have y4 := KP1.out.cell 4
      have y5 := KP1.out.cell 5
      have y6 := KP1.out.cell 6
      have y7 := KP1.out.cell 7
      simp at y0 y1 y2 y3 y4 y5 y6 y7
      clear hb1
      go_wp2_with (fail)
      refine (valid_any n' o' A' B' la' ca' lb' cb' X' Y' w1 IX'1.out IY'1.out hla' hlb' hca' hcb').mono ?_
      rintro e2 w2 ⟨rfl, hb2⟩
      rw [V2.out]
      go_wp2_with (fail)
      go_ret
      exact ⟨ret_bool EV.out.symm, B1.out.trans (hb2.mono B1.out.size)⟩
    · have V2 := Lib.hid v2
      obtain ⟨n1, n2⟩ := valid_bounds v1
      obtain ⟨n3, n4⟩ := valid_bounds v2
      have EV := Lib.hid (show prodB n o X Y n' o' X' Y' = decide (n * n' ≤ 16) by simp [prodB, v1, v2])
      clear v1 v2
      go_enter Try.func89, Try.ntmps89
      go_upto_region 1 with (fail)
      rw [HW.out]
      go_wp2_with (fail)
      refine (valid_any n o A B la ca lb cb X Y W IX.out IY.out hla hlb hca hcb).mono ?_
      rintro e1 w1 ⟨rfl, hb1⟩
      rw [V1.out]
      have KP1 := Lib.hid (KP.out.below hb1 KP.out.lt)
      have B1 := Lib.hid (BW.out.trans (hb1.mono BW.out.size))
      have IX'1 := Lib.hid (IX'.out.next hb1)
      have IY'1 := Lib.hid (IY'.out.next hb1)
      have y0 := KP1.out.cell 0
      have y1 := KP1.out.cell 1
      have y2 := KP1.out.cell 2
      have y3 := KP1.out.cell 3
      have y4 := KP1.out.cell 4
      have y5 := KP1.out.cell 5
      have y6 := KP1.out.cell 6
      have y7 := KP1.out.cell 7
      simp at y0 y1 y2 y3 y4 y5 y6 y7
      clear hb1
      go_wp2_with (fail)
      refine (valid_any n' o' A' B' la' ca' lb' cb' X' Y' w1 IX'1.out IY'1.out hla' hlb' hca' hcb').mono ?_
      rintro e2 w2 ⟨rfl, hb2⟩
      rw [V2.out]
      have KP2 := Lib.hid (KP1.out.below hb2 KP1.out.lt)
      have B2 := Lib.hid (B1.out.trans (hb2.mono B1.out.size))
      have z0 := KP2.out.cell 0
      have z1 := KP2.out.cell 1
      have z2 := KP2.out.cell 2
      have z3 := KP2.out.cell 3
      have z4 := KP2.out.cell 4
      have z5 := KP2.out.cell 5
      have z6 := KP2.out.cell 6
      have z7 := KP2.out.cell 7
      simp at z0 z1 z2 z3 z4 z5 z6 z7
      clear hb2
      go_wp2_with (fail)
      refine (paSize_any n o A B la ca lb cb n' o' A' B' la' ca' lb' cb' w2 (by omega) n2 (by omega) n4).mono ?_
      rintro e3 w3 ⟨rfl, hb3⟩
      go_wp2_with (fail)
      go_ret
      exact ⟨ret_bool EV.out.symm, B2.out.trans (hb3.mono B2.out.size)⟩

set_option maxHeartbeats 1000000 in
theorem pairOf_any (n o : Int) (A B : Option Addr) (la ca lb cb : Nat) (X Y : List Int) (n' o' : Int) (A' B' : Option Addr) (la' ca' lb' cb' : Nat) (X' Y' : List Int) (a b : Int) (w : World) (hX : Ints w w.heap.size A la X) (hY : Ints w w.heap.size B lb Y) (hla : la ≤ 9223372036854775807) (hlb : lb ≤ 9223372036854775807) (hca : la ≤ ca) (hcb : lb ≤ cb) (hX' : Ints w w.heap.size A' la' X') (hY' : Ints w w.heap.size B' lb' Y') (hla' : la' ≤ 9223372036854775807) (hlb' : lb' ≤ 9223372036854775807) (hca' : la' ≤ ca') (hcb' : lb' ≤ cb') :
    Calls Try.prog 32 #[.agg #[.int .i64 n, .int .i64 o, .slice A la ca, .slice B lb cb], .agg #[.int .i64 n', .int .i64 o', .slice A' la' ca', .slice B' lb' cb'], .int .i64 a, .int .i64 b] w fun e w' => e = .returned (.int .i64 (pairV n o X Y n' o' X' Y' a b)) ∧ Below w.heap.size w w' := by
  obtain ⟨W, hW⟩ : ∃ W, ((w.alloc (.cells #[.int .i64 n, .int .i64 o, .slice A la ca, .slice B lb cb] 25)).alloc (.cells #[.int .i64 n', .int .i64 o', .slice A' la' ca', .slice B' lb' cb'] 25)).alloc (.cells #[.int .i64 n, .int .i64 o, .slice A la ca, .slice B lb cb, .int .i64 n', .int .i64 o', .slice A' la' ca', .slice B' lb' cb'] 91) = W := ⟨_, rfl⟩
  have kR : Blk W w.heap.size 25 #[.int .i64 n, .int .i64 o, .slice A la ca, .slice B lb cb] := by
    subst hW; exact ((Blk.new w _ _).alloc _).alloc _
  have kS : Blk W (w.heap.size + 1) 25 #[.int .i64 n', .int .i64 o', .slice A' la' ca', .slice B' lb' cb'] := by
    subst hW
    have := (Blk.new (w.alloc (.cells #[.int .i64 n, .int .i64 o, .slice A la ca, .slice B lb cb] 25)) 25 #[.int .i64 n', .int .i64 o', .slice A' la' ca', .slice B' lb' cb']).alloc (.cells #[.int .i64 n, .int .i64 o, .slice A la ca, .slice B lb cb, .int .i64 n', .int .i64 o', .slice A' la' ca', .slice B' lb' cb'] 91)
    rw [World.size_alloc] at this
    exact this
  have kP : Blk W (w.heap.size + 1 + 1) 91 #[.int .i64 n, .int .i64 o, .slice A la ca, .slice B lb cb, .int .i64 n', .int .i64 o', .slice A' la' ca', .slice B' lb' cb'] := by
    subst hW
    have := Blk.new ((w.alloc (.cells #[.int .i64 n, .int .i64 o, .slice A la ca, .slice B lb cb] 25)).alloc (.cells #[.int .i64 n', .int .i64 o', .slice A' la' ca', .slice B' lb' cb'] 25)) 91 #[.int .i64 n, .int .i64 o, .slice A la ca, .slice B lb cb, .int .i64 n', .int .i64 o', .slice A' la' ca', .slice B' lb' cb']
    rw [World.size_alloc, World.size_alloc] at this
    exact this
  have bW : Below w.heap.size w W := by
    subst hW
    exact (((Below.refl _ _).alloc (Nat.le_refl _) _).alloc (by simp) _).alloc (by simp; omega) _
  have KR := Lib.hid kR
  have KS := Lib.hid kS
  have KP := Lib.hid kP
  have BW := Lib.hid bW
  have IX := Lib.hid (hX.next bW)
  have IY := Lib.hid (hY.next bW)
  have IX' := Lib.hid (hX'.next bW)
  have IY' := Lib.hid (hY'.next bW)
  have HW := Lib.hid hW
  have x0 := KR.out.cell 0
  have x1 := KR.out.cell 1
  have x2 := KR.out.cell 2
  have x3 := KR.out.cell 3
  have y0 := KS.out.cell 0
  have y1 := KS.out.cell 1
  have y2 := KS.out.cell 2
  have y3 := KS.out.cell 3
  have p0 := KP.out.cell 0
  have p1 := KP.out.cell 1
  have p2 := KP.out.cell 2
  have p3 := KP.out.cell 3
  have p4 := KP.out.cell 4
  have p5 := KP.out.cell 5
  have p6 := KP.out.cell 6
  have p7 := KP.out.cell 7
  simp at x0 x1 x2 x3 y0 y1 y2 y3 p0 p1 p2 p3 p4 p5 p6 p7
  clear kR kS kP bW hW hX hY hX' hY'
  cases hp : prodB n o X Y n' o' X' Y'
  · have VP := Lib.hid hp
    have PV := Lib.hid (pairV_no (a := a) (b := b) (show ¬ (prodB n o X Y n' o' X' Y' = true ∧ inB n a = true ∧ inB n' b = true) by rw [hp]; simp))
    clear hp
    go_enter Try.func32, Try.ntmps32
    go_upto_region 2 with (fail)
    rw [HW.out]
    go_wp2_with (fail)
    refine (paValid_any n o A B la ca lb cb X Y n' o' A' B' la' ca' lb' cb' X' Y' W IX.out IY.out hla hlb hca hcb IX'.out IY'.out hla' hlb' hca' hcb').mono ?_
    rintro e1 w1 ⟨rfl, hb1⟩
    rw [VP.out]
    have KR1 := Lib.hid (KR.out.below hb1 KR.out.lt)
    have KS1 := Lib.hid (KS.out.below hb1 KS.out.lt)
    have KP1 := Lib.hid (KP.out.below hb1 KP.out.lt)
    have BW1 := Lib.hid (BW.out.trans (hb1.mono BW.out.size))
    clear hb1
    have x01 := KR1.out.cell 0
    have x11 := KR1.out.cell 1
    have x21 := KR1.out.cell 2
    have x31 := KR1.out.cell 3
    have y01 := KS1.out.cell 0
    have y11 := KS1.out.cell 1
    have y21 := KS1.out.cell 2
    have y31 := KS1.out.cell 3
    have p01 := KP1.out.cell 0
    have p11 := KP1.out.cell 1
    have p21 := KP1.out.cell 2
    have p31 := KP1.out.cell 3
    have p41 := KP1.out.cell 4
    have p51 := KP1.out.cell 5
    have p61 := KP1.out.cell 6
    have p71 := KP1.out.cell 7
    simp at x01 x11 x21 x31 y01 y11 y21 y31 p01 p11 p21 p31 p41 p51 p61 p71
    go_wp2_with (fail)
    go_ret
    exact ⟨ret_int PV.out.symm, BW1.out⟩
  · have VP := Lib.hid hp
    cases ha : inB n a
    · have VA := Lib.hid ha
      have PV := Lib.hid (pairV_no (a := a) (b := b) (show ¬ (prodB n o X Y n' o' X' Y' = true ∧ inB n a = true ∧ inB n' b = true) by rw [ha]; simp))
      clear hp ha
      go_enter Try.func32, Try.ntmps32
      go_upto_region 2 with (fail)
      rw [HW.out]
      go_wp2_with (fail)
      refine (paValid_any n o A B la ca lb cb X Y n' o' A' B' la' ca' lb' cb' X' Y' W IX.out IY.out hla hlb hca hcb IX'.out IY'.out hla' hlb' hca' hcb').mono ?_
      rintro e1 w1 ⟨rfl, hb1⟩
      rw [VP.out]
      have KR1 := Lib.hid (KR.out.below hb1 KR.out.lt)
      have KS1 := Lib.hid (KS.out.below hb1 KS.out.lt)
      have KP1 := Lib.hid (KP.out.below hb1 KP.out.lt)
      have BW1 := Lib.hid (BW.out.trans (hb1.mono BW.out.size))
      clear hb1
      have x01 := KR1.out.cell 0
      have x11 := KR1.out.cell 1
      have x21 := KR1.out.cell 2
      have x31 := KR1.out.cell 3
      have y01 := KS1.out.cell 0
      have y11 := KS1.out.cell 1
      have y21 := KS1.out.cell 2
      have y31 := KS1.out.cell 3
      have p01 := KP1.out.cell 0
      have p11 := KP1.out.cell 1
      have p21 := KP1.out.cell 2
      have p31 := KP1.out.cell 3
      have p41 := KP1.out.cell 4
      have p51 := KP1.out.cell 5
      have p61 := KP1.out.cell 6
      have p71 := KP1.out.cell 7
      simp at x01 x11 x21 x31 y01 y11 y21 y31 p01 p11 p21 p31 p41 p51 p61 p71
      go_wp2_with (fail)
      refine (has_any n o a A B la ca lb cb w1).mono ?_
      rintro e2 w2 ⟨rfl, hb2⟩
      rw [VA.out]
      have KR2 := Lib.hid (KR1.out.below hb2 KR1.out.lt)
      have KS2 := Lib.hid (KS1.out.below hb2 KS1.out.lt)
      have KP2 := Lib.hid (KP1.out.below hb2 KP1.out.lt)
      have BW2 := Lib.hid (BW1.out.trans (hb2.mono BW1.out.size))
      clear hb2
      have x02 := KR2.out.cell 0
      have x12 := KR2.out.cell 1
      have x22 := KR2.out.cell 2
      have x32 := KR2.out.cell 3
      have y02 := KS2.out.cell 0
      have y12 := KS2.out.cell 1
      have y22 := KS2.out.cell 2
      have y32 := KS2.out.cell 3
      have p02 := KP2.out.cell 0
      have p12 := KP2.out.cell 1
      have p22 := KP2.out.cell 2
      have p32 := KP2.out.cell 3
      have p42 := KP2.out.cell 4
      have p52 := KP2.out.cell 5
      have p62 := KP2.out.cell 6
      have p72 := KP2.out.cell 7
      simp at x02 x12 x22 x32 y02 y12 y22 y32 p02 p12 p22 p32 p42 p52 p62 p72
      go_wp2_with (fail)
      go_ret
      exact ⟨ret_int PV.out.symm, BW2.out⟩
    · have VA := Lib.hid ha
      cases hb : inB n' b
      · have VB := Lib.hid hb
        have PV := Lib.hid (pairV_no (a := a) (b := b) (show ¬ (prodB n o X Y n' o' X' Y' = true ∧ inB n a = true ∧ inB n' b = true) by rw [hb]; simp))
        clear hp ha hb
        go_enter Try.func32, Try.ntmps32
        go_upto_region 2 with (fail)
        rw [HW.out]
        go_wp2_with (fail)
        refine (paValid_any n o A B la ca lb cb X Y n' o' A' B' la' ca' lb' cb' X' Y' W IX.out IY.out hla hlb hca hcb IX'.out IY'.out hla' hlb' hca' hcb').mono ?_
        rintro e1 w1 ⟨rfl, hb1⟩
        rw [VP.out]
        have KR1 := Lib.hid (KR.out.below hb1 KR.out.lt)
        have KS1 := Lib.hid (KS.out.below hb1 KS.out.lt)
        have KP1 := Lib.hid (KP.out.below hb1 KP.out.lt)
        have BW1 := Lib.hid (BW.out.trans (hb1.mono BW.out.size))
        clear hb1
        have x01 := KR1.out.cell 0
        have x11 := KR1.out.cell 1
        have x21 := KR1.out.cell 2
        have x31 := KR1.out.cell 3
        have y01 := KS1.out.cell 0
        have y11 := KS1.out.cell 1
        have y21 := KS1.out.cell 2
        have y31 := KS1.out.cell 3
        have p01 := KP1.out.cell 0
        have p11 := KP1.out.cell 1
        have p21 := KP1.out.cell 2
        have p31 := KP1.out.cell 3
        have p41 := KP1.out.cell 4
        have p51 := KP1.out.cell 5
        have p61 := KP1.out.cell 6
        have p71 := KP1.out.cell 7
        simp at x01 x11 x21 x31 y01 y11 y21 y31 p01 p11 p21 p31 p41 p51 p61 p71
        go_wp2_with (fail)
        refine (has_any n o a A B la ca lb cb w1).mono ?_
        rintro e2 w2 ⟨rfl, hb2⟩
        rw [VA.out]
        have KR2 := Lib.hid (KR1.out.below hb2 KR1.out.lt)
        have KS2 := Lib.hid (KS1.out.below hb2 KS1.out.lt)
        have KP2 := Lib.hid (KP1.out.below hb2 KP1.out.lt)
        have BW2 := Lib.hid (BW1.out.trans (hb2.mono BW1.out.size))
        clear hb2
        have x02 := KR2.out.cell 0
        have x12 := KR2.out.cell 1
        have x22 := KR2.out.cell 2
        have x32 := KR2.out.cell 3
        have y02 := KS2.out.cell 0
        have y12 := KS2.out.cell 1
        have y22 := KS2.out.cell 2
        have y32 := KS2.out.cell 3
        have p02 := KP2.out.cell 0
        have p12 := KP2.out.cell 1
        have p22 := KP2.out.cell 2
        have p32 := KP2.out.cell 3
        have p42 := KP2.out.cell 4
        have p52 := KP2.out.cell 5
        have p62 := KP2.out.cell 6
        have p72 := KP2.out.cell 7
        simp at x02 x12 x22 x32 y02 y12 y22 y32 p02 p12 p22 p32 p42 p52 p62 p72
        go_wp2_with (fail)
        refine (has_any n' o' b A' B' la' ca' lb' cb' w2).mono ?_
        rintro e3 w3 ⟨rfl, hb3⟩
        rw [VB.out]
        have KR3 := Lib.hid (KR2.out.below hb3 KR2.out.lt)
        have KS3 := Lib.hid (KS2.out.below hb3 KS2.out.lt)
        have KP3 := Lib.hid (KP2.out.below hb3 KP2.out.lt)
        have BW3 := Lib.hid (BW2.out.trans (hb3.mono BW2.out.size))
        clear hb3
        have x03 := KR3.out.cell 0
        have x13 := KR3.out.cell 1
        have x23 := KR3.out.cell 2
        have x33 := KR3.out.cell 3
        have y03 := KS3.out.cell 0
        have y13 := KS3.out.cell 1
        have y23 := KS3.out.cell 2
        have y33 := KS3.out.cell 3
        have p03 := KP3.out.cell 0
        have p13 := KP3.out.cell 1
        have p23 := KP3.out.cell 2
        have p33 := KP3.out.cell 3
        have p43 := KP3.out.cell 4
        have p53 := KP3.out.cell 5
        have p63 := KP3.out.cell 6
        have p73 := KP3.out.cell 7
        simp at x03 x13 x23 x33 y03 y13 y23 y33 p03 p13 p23 p33 p43 p53 p63 p73
        go_wp2_with (fail)
        go_ret
        exact ⟨ret_int PV.out.symm, BW3.out⟩
      · have VB := Lib.hid hb
        have PV := Lib.hid (pairV_yes (a := a) (b := b) ⟨hp, ha, hb⟩)
        obtain ⟨g1, g2, g3, g4, _, _, _⟩ := prod_bounds hp
        have ha' := of_decide_eq_true ha
        have hb' := of_decide_eq_true hb
        have a1 : 0 ≤ a := ha'.1
        have a2 : a ≤ 16 := by omega
        have b1 : 0 ≤ b := hb'.1
        have b2 : b ≤ 16 := by omega
        clear hp ha hb ha' hb'
        go_enter Try.func32, Try.ntmps32
        go_upto_region 2 with (fail)
        rw [HW.out]
        go_wp2_with (fail)
        refine (paValid_any n o A B la ca lb cb X Y n' o' A' B' la' ca' lb' cb' X' Y' W IX.out IY.out hla hlb hca hcb IX'.out IY'.out hla' hlb' hca' hcb').mono ?_
        rintro e1 w1 ⟨rfl, hb1⟩
        rw [VP.out]
        have KR1 := Lib.hid (KR.out.below hb1 KR.out.lt)
        have KS1 := Lib.hid (KS.out.below hb1 KS.out.lt)
        have KP1 := Lib.hid (KP.out.below hb1 KP.out.lt)
        have BW1 := Lib.hid (BW.out.trans (hb1.mono BW.out.size))
        clear hb1
        have x01 := KR1.out.cell 0
        have x11 := KR1.out.cell 1
        have x21 := KR1.out.cell 2
        have x31 := KR1.out.cell 3
        have y01 := KS1.out.cell 0
        have y11 := KS1.out.cell 1
        have y21 := KS1.out.cell 2
        have y31 := KS1.out.cell 3
        have p01 := KP1.out.cell 0
        have p11 := KP1.out.cell 1
        have p21 := KP1.out.cell 2
        have p31 := KP1.out.cell 3
        have p41 := KP1.out.cell 4
        have p51 := KP1.out.cell 5
        have p61 := KP1.out.cell 6
        have p71 := KP1.out.cell 7
        simp at x01 x11 x21 x31 y01 y11 y21 y31 p01 p11 p21 p31 p41 p51 p61 p71
        go_wp2_with (fail)
        refine (has_any n o a A B la ca lb cb w1).mono ?_
        rintro e2 w2 ⟨rfl, hb2⟩
        rw [VA.out]
        have KR2 := Lib.hid (KR1.out.below hb2 KR1.out.lt)
        have KS2 := Lib.hid (KS1.out.below hb2 KS1.out.lt)
        have KP2 := Lib.hid (KP1.out.below hb2 KP1.out.lt)
        have BW2 := Lib.hid (BW1.out.trans (hb2.mono BW1.out.size))
        clear hb2
        have x02 := KR2.out.cell 0
        have x12 := KR2.out.cell 1
        have x22 := KR2.out.cell 2
        have x32 := KR2.out.cell 3
        have y02 := KS2.out.cell 0
        have y12 := KS2.out.cell 1
        have y22 := KS2.out.cell 2
        have y32 := KS2.out.cell 3
        have p02 := KP2.out.cell 0
        have p12 := KP2.out.cell 1
        have p22 := KP2.out.cell 2
        have p32 := KP2.out.cell 3
        have p42 := KP2.out.cell 4
        have p52 := KP2.out.cell 5
        have p62 := KP2.out.cell 6
        have p72 := KP2.out.cell 7
        simp at x02 x12 x22 x32 y02 y12 y22 y32 p02 p12 p22 p32 p42 p52 p62 p72
        go_wp2_with (fail)
        refine (has_any n' o' b A' B' la' ca' lb' cb' w2).mono ?_
        rintro e3 w3 ⟨rfl, hb3⟩
        rw [VB.out]
        have KR3 := Lib.hid (KR2.out.below hb3 KR2.out.lt)
        have KS3 := Lib.hid (KS2.out.below hb3 KS2.out.lt)
        have KP3 := Lib.hid (KP2.out.below hb3 KP2.out.lt)
        have BW3 := Lib.hid (BW2.out.trans (hb3.mono BW2.out.size))
        clear hb3
        have x03 := KR3.out.cell 0
        have x13 := KR3.out.cell 1
        have x23 := KR3.out.cell 2
        have x33 := KR3.out.cell 3
        have y03 := KS3.out.cell 0
        have y13 := KS3.out.cell 1
        have y23 := KS3.out.cell 2
        have y33 := KS3.out.cell 3
        have p03 := KP3.out.cell 0
        have p13 := KP3.out.cell 1
        have p23 := KP3.out.cell 2
        have p33 := KP3.out.cell 3
        have p43 := KP3.out.cell 4
        have p53 := KP3.out.cell 5
        have p63 := KP3.out.cell 6
        have p73 := KP3.out.cell 7
        simp at x03 x13 x23 x33 y03 y13 y23 y33 p03 p13 p23 p33 p43 p53 p63 p73
        go_wp2_with (fail)
        refine (paNumber_any n o A B la ca lb cb n' o' A' B' la' ca' lb' cb' a b w3 a1 a2 g3 g4 b1 b2).mono ?_
        rintro e4 w4 ⟨rfl, hb4⟩
        go_wp2_with (fail)
        go_ret
        exact ⟨ret_int PV.out.symm, BW3.out.trans (hb4.mono BW3.out.size)⟩

end Go.Proofs.Ytihjnjcfiipcoaa


/- PartOf of both sides. -/
namespace Go.Proofs.Ytihjnjcfiipcoaa
open Go.RowKit
set_option maxRecDepth 100000

/-- What PartOf returns. -/
noncomputable def partV (n o : Int) (X Y : List Int) (n' o' : Int) (X' Y' : List Int) (a : Int) (s : Bool) : Int := if prodB n o X Y n' o' X' Y' = true ∧ inB (n * n') a = true then (if s then a % n' else a / n') else -1
theorem partV_no {n o : Int} {X Y : List Int} {n' o' : Int} {X' Y' : List Int} {a : Int} {s : Bool} (h : ¬ (prodB n o X Y n' o' X' Y' = true ∧ inB (n * n') a = true)) : partV n o X Y n' o' X' Y' a s = -1 := if_neg h
theorem partV_yes {n o : Int} {X Y : List Int} {n' o' : Int} {X' Y' : List Int} {a : Int} {s : Bool} (h : prodB n o X Y n' o' X' Y' = true ∧ inB (n * n') a = true) : partV n o X Y n' o' X' Y' a s = (if s then a % n' else a / n') := if_pos h
theorem size_nums {n q : Int} (h1 : 1 ≤ n) (h2 : n ≤ 16) (h3 : 1 ≤ q) (h4 : q ≤ 16) : 0 ≤ n * q ∧ n * q ≤ 256 := by
  have e1 : 0 ≤ n * q := Int.mul_nonneg (by omega) (by omega)
  have e2 : n * q ≤ 16 * 16 := Int.mul_le_mul h2 h4 (by omega) (by omega)
  omega
theorem quo_nums {a q : Int} (h1 : 0 ≤ a) (h2 : a ≤ 256) (h3 : 1 ≤ q) : 0 ≤ a / q ∧ a / q ≤ 256 ∧ 0 ≤ a % q ∧ a.tdiv q = a / q ∧ a.tmod q = a % q := by
  have e1 : 0 ≤ a / q := Int.ediv_nonneg h1 (by omega)
  have e2 : a / q ≤ a := Int.ediv_le_self _ h1
  exact ⟨e1, by omega, Int.emod_nonneg _ (by omega), Int.tdiv_eq_ediv_of_nonneg h1, Int.tmod_eq_emod_of_nonneg h1⟩

set_option maxHeartbeats 1000000 in
theorem spartOf_any (n o : Int) (A B : Option Addr) (la ca lb cb : Nat) (X Y : List Int) (n' o' : Int) (A' B' : Option Addr) (la' ca' lb' cb' : Nat) (X' Y' : List Int) (a : Int) (s : Bool) (w : World) (hX : Ints w w.heap.size A la X) (hY : Ints w w.heap.size B lb Y) (hla : la ≤ 9223372036854775807) (hlb : lb ≤ 9223372036854775807) (hca : la ≤ ca) (hcb : lb ≤ cb) (hX' : Ints w w.heap.size A' la' X') (hY' : Ints w w.heap.size B' lb' Y') (hla' : la' ≤ 9223372036854775807) (hlb' : lb' ≤ 9223372036854775807) (hca' : la' ≤ ca') (hcb' : lb' ≤ cb') :
    Calls Try.prog 36 #[.agg #[.int .i64 n, .int .i64 o, .slice A la ca, .slice B lb cb], .agg #[.int .i64 n', .int .i64 o', .slice A' la' ca', .slice B' lb' cb'], .int .i64 a, .bool s] w fun e w' => e = .returned (.int .i64 (partV n o X Y n' o' X' Y' a s)) ∧ Below w.heap.size w w' := by
  obtain ⟨W, hW⟩ : ∃ W, (w.alloc (.cells #[.int .i64 n, .int .i64 o, .slice A la ca, .slice B lb cb] 25)).alloc (.cells #[.int .i64 n', .int .i64 o', .slice A' la' ca', .slice B' lb' cb'] 25) = W := ⟨_, rfl⟩
  have kR : Blk W w.heap.size 25 #[.int .i64 n, .int .i64 o, .slice A la ca, .slice B lb cb] := by
    subst hW; exact (Blk.new w _ _).alloc _
  have kS : Blk W (w.heap.size + 1) 25 #[.int .i64 n', .int .i64 o', .slice A' la' ca', .slice B' lb' cb'] := by
    subst hW
    have := Blk.new (w.alloc (.cells #[.int .i64 n, .int .i64 o, .slice A la ca, .slice B lb cb] 25)) 25 #[.int .i64 n', .int .i64 o', .slice A' la' ca', .slice B' lb' cb']
    rw [World.size_alloc] at this
    exact this
  have bW : Below w.heap.size w W := by
    subst hW
    exact ((Below.refl _ _).alloc (Nat.le_refl _) _).alloc (by simp) _
  have KR := Lib.hid kR
  have KS := Lib.hid kS
  have BW := Lib.hid bW
  have x0 := kR.cell 0
  have x1 := kR.cell 1
  have x2 := kR.cell 2
  have x3 := kR.cell 3
  have y0 := kS.cell 0
  have y1 := kS.cell 1
  have y2 := kS.cell 2
  have y3 := kS.cell 3
  simp at x0 x1 x2 x3 y0 y1 y2 y3
  have IX := Lib.hid (hX.next bW)
  have IY := Lib.hid (hY.next bW)
  have IX' := Lib.hid (hX'.next bW)
  have IY' := Lib.hid (hY'.next bW)
  have HW := Lib.hid hW
  clear kR kS bW hW hX hY hX' hY'
  go_enter Try.func36, Try.ntmps36
  go_upto_region 1 with (fail)
  rw [HW.out]
  go_wp2_with (fail)
  refine (sproduct_any n o A B la ca lb cb X Y n' o' A' B' la' ca' lb' cb' X' Y' W IX.out IY.out hla hlb hca hcb IX'.out IY'.out hla' hlb' hca' hcb').mono ?_
  rintro e1 w1 ⟨v1, rfl, ⟨C1, l1, k1, C2, l2, k2, rfl, _⟩, hb1⟩
  have KR1 := Lib.hid (KR.out.below hb1 KR.out.lt)
  have KS1 := Lib.hid (KS.out.below hb1 KS.out.lt)
  have BW1 := Lib.hid (BW.out.trans (hb1.mono BW.out.size))
  clear hb1 x0 x1 x2 x3 y0 y1 y2 y3
  go_upto_region 2 with (fail)
  obtain ⟨V, hV⟩ : ∃ V, w1.alloc (.cells #[.int .i64 (prN n o X Y n' o' X' Y'), .int .i64 (prO n o X Y n' o' X' Y'), .slice C1 l1 k1, .slice C2 l2 k2] 25) = V := ⟨_, rfl⟩
  have bV : Below w1.heap.size w1 V := by subst hV; exact (Below.refl _ _).alloc (Nat.le_refl _) _
  rw [hV]
  clear hV
  have kR := KR1.out.below bV KR1.out.lt
  have kS := KS1.out.below bV KS1.out.lt
  have KR2 := Lib.hid kR
  have KS2 := Lib.hid kS
  have BV := Lib.hid (BW1.out.trans (bV.mono BW1.out.size))
  have x0 := kR.cell 0
  have y0 := kS.cell 0
  simp at x0 y0
  clear kR kS bV
  cases hp : prodB n o X Y n' o' X' Y'
  · have PV := Lib.hid (partV_no (a := a) (s := s) (show ¬ (prodB n o X Y n' o' X' Y' = true ∧ inB (n * n') a = true) by rw [hp]; simp))
    go_wp2_with (fail)
    go_ret
    exact ⟨ret_int PV.out.symm, BV.out⟩
  · obtain ⟨g1, g2, g3, g4, _, _, _⟩ := prod_bounds hp
    obtain ⟨m1, m2⟩ := size_nums g1 g2 g3 g4
    have HH := Lib.hid (show wrap64 (n * n' - 1) = n * n' - 1 from IntWalk.wrap64_in _ (by omega))
    obtain ⟨V1, hV1⟩ : ∃ V1, V.alloc (.cells #[.int .i64 a] 3) = V1 := ⟨_, rfl⟩
    have bV1 : Below V.heap.size V V1 := by subst hV1; exact (Below.refl _ _).alloc (Nat.le_refl _) _
    have HE := Lib.hid (show Ints V1 (V.heap.size + 1) (some ⟨V.heap.size, 0, none⟩) 1 [a] by subst hV1; exact ints_one)
    have KS3 := Lib.hid (KS2.out.below bV1 KS2.out.lt)
    have BV1 := Lib.hid (BV.out.trans (bV1.mono BV.out.size))
    have yy := KS3.out.cell 0
    simp at yy
    have HV1 := Lib.hid hV1
    clear bV1 hV1
    cases ha : inB (n * n') a
    · have PV := Lib.hid (partV_no (a := a) (s := s) (show ¬ (prodB n o X Y n' o' X' Y' = true ∧ inB (n * n') a = true) by rw [ha]; simp))
      have EL := Lib.hid (show elB (n * n' - 1) [a] = false by rw [elB_one, ha])
      go_wp2_with (fail)
      rw [HV1.out]
      refine (l1Elements_any (n * n') _ _ 1 1 [a] V1 _ HH.out HE.out (by omega)).mono ?_
      rintro e2 w2 ⟨rfl, rfl⟩
      rw [EL.out]
      go_wp2_with (fail)
      go_ret
      exact ⟨ret_int PV.out.symm, BV1.out⟩
    · have EL := Lib.hid (show elB (n * n' - 1) [a] = true by rw [elB_one, ha])
      have ha' := of_decide_eq_true ha
      have a1 : 0 ≤ a := ha'.1
      obtain ⟨u1, u2, u3, u4, u5⟩ := quo_nums a1 (show a ≤ 256 by omega) g3
      have u6 : ¬ n' = 0 := by omega
      have PV0 := partV_yes (a := a) (s := s) ⟨hp, ha⟩
      clear ha ha' hp
      cases s
      · have PV := Lib.hid (PV0.trans (if_neg (by simp)))
        clear PV0
        go_wp2_with (fail)
        rw [HV1.out]
        refine (l1Elements_any (n * n') _ _ 1 1 [a] V1 _ HH.out HE.out (by omega)).mono ?_
        rintro e2 w2 ⟨rfl, rfl⟩
        rw [EL.out]
        go_wp2_with (fail)
        go_ret
        exact ⟨ret_int PV.out.symm, BV1.out⟩
      · have PV := Lib.hid (PV0.trans (if_pos rfl))
        clear PV0
        go_wp2_with (fail)
        rw [HV1.out]
        refine (l1Elements_any (n * n') _ _ 1 1 [a] V1 _ HH.out HE.out (by omega)).mono ?_
        rintro e2 w2 ⟨rfl, rfl⟩
        rw [EL.out]
        go_wp2_with (fail)
        go_ret
        exact ⟨ret_int PV.out.symm, BV1.out⟩

set_option maxHeartbeats 1000000 in
theorem paElement_any (n o : Int) (A B : Option Addr) (la ca lb cb : Nat) (n' o' : Int) (A' B' : Option Addr) (la' ca' lb' cb' : Nat) (a : Int) (w : World) (h1 : 0 ≤ a) (h2 : a ≤ 256) (h3 : 1 ≤ n') :
    Calls Try.prog 93 #[.agg #[.int .i64 n, .int .i64 o, .slice A la ca, .slice B lb cb, .int .i64 n', .int .i64 o', .slice A' la' ca', .slice B' lb' cb'], .int .i64 a] w fun e w' => e = .returned (.agg #[.int .i64 (a / n'), .int .i64 (a % n')]) ∧ Below w.heap.size w w' := by
  obtain ⟨u1, u2, u3, u4, u5⟩ := quo_nums h1 h2 h3
  have u6 : ¬ n' = 0 := by omega
  go_enter Try.func93, Try.ntmps93
  go_wp2_with (fail)
  obtain ⟨W, hW⟩ : ∃ W, (w.alloc (.cells #[.int .i64 n, .int .i64 o, .slice A la ca, .slice B lb cb, .int .i64 n', .int .i64 o', .slice A' la' ca', .slice B' lb' cb'] 91)).alloc (.cells #[.int .i64 0, .int .i64 0] 93) = W := ⟨_, rfl⟩
  have kP : Blk W w.heap.size 91 #[.int .i64 n, .int .i64 o, .slice A la ca, .slice B lb cb, .int .i64 n', .int .i64 o', .slice A' la' ca', .slice B' lb' cb'] := by subst hW; exact (Blk.new w _ _).alloc _
  have kA : Blk W (w.heap.size + 1) 93 #[.int .i64 0, .int .i64 0] := by
    subst hW
    have := Blk.new (w.alloc (.cells #[.int .i64 n, .int .i64 o, .slice A la ca, .slice B lb cb, .int .i64 n', .int .i64 o', .slice A' la' ca', .slice B' lb' cb'] 91)) 93 #[.int .i64 0, .int .i64 0]
    rw [World.size_alloc] at this
    exact this
  have bW : Below w.heap.size w W := by subst hW; exact ((Below.refl _ _).alloc (Nat.le_refl _) _).alloc (by simp) _
  rw [hW]
  clear hW
  have x4 := kP.cell 4
  simp at x4
  refine wp_region_makers 11 (fun _ => false) (fun _ _ _ => True) (fun _ _ => True) (fun _ => undef) probe (by kernel_rfl) (by kernel_rfl) (fun _ _ _ _ _ _ => trivial) (fun _ _ _ _ _ => trivial) (fun _ _ => trivial) ?_
  intro V hV vs _
  have cW : ∃ x, extC V x := ⟨V, extC_of (Below.refl _ _)⟩
  have y4 := (hV.cell (p := ⟨w.heap.size, 4, none⟩) kP.lt).trans x4
  simp only [List.take_succ_cons, List.take_zero, List.drop_succ_cons, List.drop_zero]
  refine wpV_quiet cW 11 0 _ _ (by decide) (by decide) ?_
  simp only [List.take_succ_cons, List.take_zero, List.drop_succ_cons, List.drop_zero]
  repeat (go_big_quiet_step (fail))
  refine wpQuiet_nil ?_
  refine wpV_nil ?_
  intro w2 hb2 _ _
  have kA2 := kA.below hb2 kA.lt
  have c0 := kA2.cell 0
  have c1 := kA2.cell 1
  have f0 := kA2.frozen 0
  have f1 := kA2.frozen 1
  simp at c0 c1
  go_wp2_with (fail)
  refine bodyPost_ret (v := .agg #[.int .i64 (a / n'), .int .i64 (a % n')]) ?_ rfl ⟨rfl, ?_⟩
  · have F := (kA2.set_ 0 (.int .i64 (a / n'))).set_ 1 (.int .i64 (a % n'))
    exact results_cell_row Try.results93 _ _ (w.heap.size + 1) 93 _ (0, 0) _ rfl F Try.underlying93 rfl (by kernel_rfl)
  · exact ((bW.trans (hb2.mono bW.size)).setCell (by simp) _).setCell (by simp) _

set_option maxHeartbeats 1000000 in
theorem partOf_any (n o : Int) (A B : Option Addr) (la ca lb cb : Nat) (X Y : List Int) (n' o' : Int) (A' B' : Option Addr) (la' ca' lb' cb' : Nat) (X' Y' : List Int) (a : Int) (s : Bool) (w : World) (hX : Ints w w.heap.size A la X) (hY : Ints w w.heap.size B lb Y) (hla : la ≤ 9223372036854775807) (hlb : lb ≤ 9223372036854775807) (hca : la ≤ ca) (hcb : lb ≤ cb) (hX' : Ints w w.heap.size A' la' X') (hY' : Ints w w.heap.size B' lb' Y') (hla' : la' ≤ 9223372036854775807) (hlb' : lb' ≤ 9223372036854775807) (hca' : la' ≤ ca') (hcb' : lb' ≤ cb') :
    Calls Try.prog 31 #[.agg #[.int .i64 n, .int .i64 o, .slice A la ca, .slice B lb cb], .agg #[.int .i64 n', .int .i64 o', .slice A' la' ca', .slice B' lb' cb'], .int .i64 a, .bool s] w fun e w' => e = .returned (.int .i64 (partV n o X Y n' o' X' Y' a s)) ∧ Below w.heap.size w w' := by
  obtain ⟨W, hW⟩ : ∃ W, ((w.alloc (.cells #[.int .i64 n, .int .i64 o, .slice A la ca, .slice B lb cb] 25)).alloc (.cells #[.int .i64 n', .int .i64 o', .slice A' la' ca', .slice B' lb' cb'] 25)).alloc (.cells #[.int .i64 n, .int .i64 o, .slice A la ca, .slice B lb cb, .int .i64 n', .int .i64 o', .slice A' la' ca', .slice B' lb' cb'] 91) = W := ⟨_, rfl⟩
  have kR : Blk W w.heap.size 25 #[.int .i64 n, .int .i64 o, .slice A la ca, .slice B lb cb] := by
    subst hW; exact ((Blk.new w _ _).alloc _).alloc _
  have kS : Blk W (w.heap.size + 1) 25 #[.int .i64 n', .int .i64 o', .slice A' la' ca', .slice B' lb' cb'] := by
    subst hW
    have := (Blk.new (w.alloc (.cells #[.int .i64 n, .int .i64 o, .slice A la ca, .slice B lb cb] 25)) 25 #[.int .i64 n', .int .i64 o', .slice A' la' ca', .slice B' lb' cb']).alloc (.cells #[.int .i64 n, .int .i64 o, .slice A la ca, .slice B lb cb, .int .i64 n', .int .i64 o', .slice A' la' ca', .slice B' lb' cb'] 91)
    rw [World.size_alloc] at this
    exact this
  have kP : Blk W (w.heap.size + 1 + 1) 91 #[.int .i64 n, .int .i64 o, .slice A la ca, .slice B lb cb, .int .i64 n', .int .i64 o', .slice A' la' ca', .slice B' lb' cb'] := by
    subst hW
    have := Blk.new ((w.alloc (.cells #[.int .i64 n, .int .i64 o, .slice A la ca, .slice B lb cb] 25)).alloc (.cells #[.int .i64 n', .int .i64 o', .slice A' la' ca', .slice B' lb' cb'] 25)) 91 #[.int .i64 n, .int .i64 o, .slice A la ca, .slice B lb cb, .int .i64 n', .int .i64 o', .slice A' la' ca', .slice B' lb' cb']
    rw [World.size_alloc, World.size_alloc] at this
    exact this
  have bW : Below w.heap.size w W := by
    subst hW
    exact (((Below.refl _ _).alloc (Nat.le_refl _) _).alloc (by simp) _).alloc (by simp; omega) _
  have KR := Lib.hid kR
  have KS := Lib.hid kS
  have KP := Lib.hid kP
  have BW := Lib.hid bW
  have IX := Lib.hid (hX.next bW)
  have IY := Lib.hid (hY.next bW)
  have IX' := Lib.hid (hX'.next bW)
  have IY' := Lib.hid (hY'.next bW)
  have HW := Lib.hid hW
  have x0 := KR.out.cell 0
  have x1 := KR.out.cell 1
  have x2 := KR.out.cell 2
  have x3 := KR.out.cell 3
  have y0 := KS.out.cell 0
  have y1 := KS.out.cell 1
  have y2 := KS.out.cell 2
  have y3 := KS.out.cell 3
  have p0 := KP.out.cell 0
  have p1 := KP.out.cell 1
  have p2 := KP.out.cell 2
  have p3 := KP.out.cell 3
  have p4 := KP.out.cell 4
  have p5 := KP.out.cell 5
  have p6 := KP.out.cell 6
  have p7 := KP.out.cell 7
  simp at x0 x1 x2 x3 y0 y1 y2 y3 p0 p1 p2 p3 p4 p5 p6 p7
  clear kR kS kP bW hW hX hY hX' hY'
  cases hp : prodB n o X Y n' o' X' Y'
  · have VP := Lib.hid hp
    have PV := Lib.hid (partV_no (a := a) (s := s) (show ¬ (prodB n o X Y n' o' X' Y' = true ∧ inB (n * n') a = true) by rw [hp]; simp))
    clear hp
    go_enter Try.func31, Try.ntmps31
    go_upto_region 2 with (fail)
    rw [HW.out]
    go_wp2_with (fail)
    refine (paValid_any n o A B la ca lb cb X Y n' o' A' B' la' ca' lb' cb' X' Y' W IX.out IY.out hla hlb hca hcb IX'.out IY'.out hla' hlb' hca' hcb').mono ?_
    rintro e1 w1 ⟨rfl, hb1⟩
    rw [VP.out]
    have KR1 := Lib.hid (KR.out.below hb1 KR.out.lt)
    have KS1 := Lib.hid (KS.out.below hb1 KS.out.lt)
    have KP1 := Lib.hid (KP.out.below hb1 KP.out.lt)
    have BW1 := Lib.hid (BW.out.trans (hb1.mono BW.out.size))
    clear hb1
    have x01 := KR1.out.cell 0
    have x11 := KR1.out.cell 1
    have x21 := KR1.out.cell 2
    have x31 := KR1.out.cell 3
    have y01 := KS1.out.cell 0
    have y11 := KS1.out.cell 1
    have y21 := KS1.out.cell 2
    have y31 := KS1.out.cell 3
    have p01 := KP1.out.cell 0
    have p11 := KP1.out.cell 1
    have p21 := KP1.out.cell 2
    have p31 := KP1.out.cell 3
    have p41 := KP1.out.cell 4
    have p51 := KP1.out.cell 5
    have p61 := KP1.out.cell 6
    have p71 := KP1.out.cell 7
    simp at x01 x11 x21 x31 y01 y11 y21 y31 p01 p11 p21 p31 p41 p51 p61 p71
    go_wp2_with (fail)
    go_ret
    exact ⟨ret_int PV.out.symm, BW1.out⟩
  · have VP := Lib.hid hp
    obtain ⟨g1, g2, g3, g4, _, _, _⟩ := prod_bounds hp
    obtain ⟨m1, m2⟩ := size_nums g1 g2 g3 g4
    by_cases h0 : 0 ≤ a
    · by_cases h1 : a < n * n'
      · have PV0 := partV_yes (a := a) (s := s) ⟨hp, inB_true ⟨h0, h1⟩⟩
        clear hp
        have a2 : a ≤ 256 := by omega
        cases s
        · have PV := Lib.hid (PV0.trans (if_neg (by simp)))
          clear PV0
          go_enter Try.func31, Try.ntmps31
          go_upto_region 2 with (fail)
          rw [HW.out]
          go_wp2_with (fail)
          refine (paValid_any n o A B la ca lb cb X Y n' o' A' B' la' ca' lb' cb' X' Y' W IX.out IY.out hla hlb hca hcb IX'.out IY'.out hla' hlb' hca' hcb').mono ?_
          rintro e1 w1 ⟨rfl, hb1⟩
          rw [VP.out]
          have KR1 := Lib.hid (KR.out.below hb1 KR.out.lt)
          have KS1 := Lib.hid (KS.out.below hb1 KS.out.lt)
          have KP1 := Lib.hid (KP.out.below hb1 KP.out.lt)
          have BW1 := Lib.hid (BW.out.trans (hb1.mono BW.out.size))
          clear hb1
          have x01 := KR1.out.cell 0
          have x11 := KR1.out.cell 1
          have x21 := KR1.out.cell 2
          have x31 := KR1.out.cell 3
          have y01 := KS1.out.cell 0
          have y11 := KS1.out.cell 1
          have y21 := KS1.out.cell 2
          have y31 := KS1.out.cell 3
          have p01 := KP1.out.cell 0
          have p11 := KP1.out.cell 1
          have p21 := KP1.out.cell 2
          have p31 := KP1.out.cell 3
          have p41 := KP1.out.cell 4
          have p51 := KP1.out.cell 5
          have p61 := KP1.out.cell 6
          have p71 := KP1.out.cell 7
          simp at x01 x11 x21 x31 y01 y11 y21 y31 p01 p11 p21 p31 p41 p51 p61 p71
          go_wp2_with (fail)
          refine (paSize_any n o A B la ca lb cb n' o' A' B' la' ca' lb' cb' w1 (by omega) g2 (by omega) g4).mono ?_
          rintro e2 w2 ⟨rfl, hb2⟩
          have KR2 := Lib.hid (KR1.out.below hb2 KR1.out.lt)
          have KS2 := Lib.hid (KS1.out.below hb2 KS1.out.lt)
          have KP2 := Lib.hid (KP1.out.below hb2 KP1.out.lt)
          have BW2 := Lib.hid (BW1.out.trans (hb2.mono BW1.out.size))
          clear hb2
          have x02 := KR2.out.cell 0
          have x12 := KR2.out.cell 1
          have x22 := KR2.out.cell 2
          have x32 := KR2.out.cell 3
          have y02 := KS2.out.cell 0
          have y12 := KS2.out.cell 1
          have y22 := KS2.out.cell 2
          have y32 := KS2.out.cell 3
          have p02 := KP2.out.cell 0
          have p12 := KP2.out.cell 1
          have p22 := KP2.out.cell 2
          have p32 := KP2.out.cell 3
          have p42 := KP2.out.cell 4
          have p52 := KP2.out.cell 5
          have p62 := KP2.out.cell 6
          have p72 := KP2.out.cell 7
          simp at x02 x12 x22 x32 y02 y12 y22 y32 p02 p12 p22 p32 p42 p52 p62 p72
          go_wp2_with (fail)
          refine (paElement_any n o A B la ca lb cb n' o' A' B' la' ca' lb' cb' a w2 h0 a2 g3).mono ?_
          rintro e3 w3 ⟨rfl, hb3⟩
          have KR3 := Lib.hid (KR2.out.below hb3 KR2.out.lt)
          have KS3 := Lib.hid (KS2.out.below hb3 KS2.out.lt)
          have KP3 := Lib.hid (KP2.out.below hb3 KP2.out.lt)
          have BW3 := Lib.hid (BW2.out.trans (hb3.mono BW2.out.size))
          clear hb3
          have x03 := KR3.out.cell 0
          have x13 := KR3.out.cell 1
          have x23 := KR3.out.cell 2
          have x33 := KR3.out.cell 3
          have y03 := KS3.out.cell 0
          have y13 := KS3.out.cell 1
          have y23 := KS3.out.cell 2
          have y33 := KS3.out.cell 3
          have p03 := KP3.out.cell 0
          have p13 := KP3.out.cell 1
          have p23 := KP3.out.cell 2
          have p33 := KP3.out.cell 3
          have p43 := KP3.out.cell 4
          have p53 := KP3.out.cell 5
          have p63 := KP3.out.cell 6
          have p73 := KP3.out.cell 7
          simp at x03 x13 x23 x33 y03 y13 y23 y33 p03 p13 p23 p33 p43 p53 p63 p73
          go_wp2_with (fail)
          go_ret
          exact ⟨ret_int PV.out.symm, BW3.out.alloc (by have := BW3.out.size; omega) _⟩
        · have PV := Lib.hid (PV0.trans (if_pos rfl))
          clear PV0
          go_enter Try.func31, Try.ntmps31
          go_upto_region 2 with (fail)
          rw [HW.out]
          go_wp2_with (fail)
          refine (paValid_any n o A B la ca lb cb X Y n' o' A' B' la' ca' lb' cb' X' Y' W IX.out IY.out hla hlb hca hcb IX'.out IY'.out hla' hlb' hca' hcb').mono ?_
          rintro e1 w1 ⟨rfl, hb1⟩
          rw [VP.out]
          have KR1 := Lib.hid (KR.out.below hb1 KR.out.lt)
          have KS1 := Lib.hid (KS.out.below hb1 KS.out.lt)
          have KP1 := Lib.hid (KP.out.below hb1 KP.out.lt)
          have BW1 := Lib.hid (BW.out.trans (hb1.mono BW.out.size))
          clear hb1
          have x01 := KR1.out.cell 0
          have x11 := KR1.out.cell 1
          have x21 := KR1.out.cell 2
          have x31 := KR1.out.cell 3
          have y01 := KS1.out.cell 0
          have y11 := KS1.out.cell 1
          have y21 := KS1.out.cell 2
          have y31 := KS1.out.cell 3
          have p01 := KP1.out.cell 0
          have p11 := KP1.out.cell 1
          have p21 := KP1.out.cell 2
          have p31 := KP1.out.cell 3
          have p41 := KP1.out.cell 4
          have p51 := KP1.out.cell 5
          have p61 := KP1.out.cell 6
          have p71 := KP1.out.cell 7
          simp at x01 x11 x21 x31 y01 y11 y21 y31 p01 p11 p21 p31 p41 p51 p61 p71
          go_wp2_with (fail)
          refine (paSize_any n o A B la ca lb cb n' o' A' B' la' ca' lb' cb' w1 (by omega) g2 (by omega) g4).mono ?_
          rintro e2 w2 ⟨rfl, hb2⟩
          have KR2 := Lib.hid (KR1.out.below hb2 KR1.out.lt)
          have KS2 := Lib.hid (KS1.out.below hb2 KS1.out.lt)
          have KP2 := Lib.hid (KP1.out.below hb2 KP1.out.lt)
          have BW2 := Lib.hid (BW1.out.trans (hb2.mono BW1.out.size))
          clear hb2
          have x02 := KR2.out.cell 0
          have x12 := KR2.out.cell 1
          have x22 := KR2.out.cell 2
          have x32 := KR2.out.cell 3
          have y02 := KS2.out.cell 0
          have y12 := KS2.out.cell 1
          have y22 := KS2.out.cell 2
          have y32 := KS2.out.cell 3
          have p02 := KP2.out.cell 0
          have p12 := KP2.out.cell 1
          have p22 := KP2.out.cell 2
          have p32 := KP2.out.cell 3
          have p42 := KP2.out.cell 4
          have p52 := KP2.out.cell 5
          have p62 := KP2.out.cell 6
          have p72 := KP2.out.cell 7
          simp at x02 x12 x22 x32 y02 y12 y22 y32 p02 p12 p22 p32 p42 p52 p62 p72
          go_wp2_with (fail)
          refine (paElement_any n o A B la ca lb cb n' o' A' B' la' ca' lb' cb' a w2 h0 a2 g3).mono ?_
          rintro e3 w3 ⟨rfl, hb3⟩
          have KR3 := Lib.hid (KR2.out.below hb3 KR2.out.lt)
          have KS3 := Lib.hid (KS2.out.below hb3 KS2.out.lt)
          have KP3 := Lib.hid (KP2.out.below hb3 KP2.out.lt)
          have BW3 := Lib.hid (BW2.out.trans (hb3.mono BW2.out.size))
          clear hb3
          have x03 := KR3.out.cell 0
          have x13 := KR3.out.cell 1
          have x23 := KR3.out.cell 2
          have x33 := KR3.out.cell 3
          have y03 := KS3.out.cell 0
          have y13 := KS3.out.cell 1
          have y23 := KS3.out.cell 2
          have y33 := KS3.out.cell 3
          have p03 := KP3.out.cell 0
          have p13 := KP3.out.cell 1
          have p23 := KP3.out.cell 2
          have p33 := KP3.out.cell 3
          have p43 := KP3.out.cell 4
          have p53 := KP3.out.cell 5
          have p63 := KP3.out.cell 6
          have p73 := KP3.out.cell 7
          simp at x03 x13 x23 x33 y03 y13 y23 y33 p03 p13 p23 p33 p43 p53 p63 p73
          go_wp2_with (fail)
          go_ret
          exact ⟨ret_int PV.out.symm, BW3.out.alloc (by have := BW3.out.size; omega) _⟩
      · have PV := Lib.hid (partV_no (a := a) (s := s) (show ¬ (prodB n o X Y n' o' X' Y' = true ∧ inB (n * n') a = true) from fun h => by have := of_decide_eq_true h.2; omega))
        clear hp
        go_enter Try.func31, Try.ntmps31
        go_upto_region 2 with (fail)
        rw [HW.out]
        go_wp2_with (fail)
        refine (paValid_any n o A B la ca lb cb X Y n' o' A' B' la' ca' lb' cb' X' Y' W IX.out IY.out hla hlb hca hcb IX'.out IY'.out hla' hlb' hca' hcb').mono ?_
        rintro e1 w1 ⟨rfl, hb1⟩
        rw [VP.out]
        have KR1 := Lib.hid (KR.out.below hb1 KR.out.lt)
        have KS1 := Lib.hid (KS.out.below hb1 KS.out.lt)
        have KP1 := Lib.hid (KP.out.below hb1 KP.out.lt)
        have BW1 := Lib.hid (BW.out.trans (hb1.mono BW.out.size))
        clear hb1
        have x01 := KR1.out.cell 0
        have x11 := KR1.out.cell 1
        have x21 := KR1.out.cell 2
        have x31 := KR1.out.cell 3
        have y01 := KS1.out.cell 0
        have y11 := KS1.out.cell 1
        have y21 := KS1.out.cell 2
        have y31 := KS1.out.cell 3
        have p01 := KP1.out.cell 0
        have p11 := KP1.out.cell 1
        have p21 := KP1.out.cell 2
        have p31 := KP1.out.cell 3
        have p41 := KP1.out.cell 4
        have p51 := KP1.out.cell 5
        have p61 := KP1.out.cell 6
        have p71 := KP1.out.cell 7
        simp at x01 x11 x21 x31 y01 y11 y21 y31 p01 p11 p21 p31 p41 p51 p61 p71
        go_wp2_with (fail)
        refine (paSize_any n o A B la ca lb cb n' o' A' B' la' ca' lb' cb' w1 (by omega) g2 (by omega) g4).mono ?_
        rintro e2 w2 ⟨rfl, hb2⟩
        have KR2 := Lib.hid (KR1.out.below hb2 KR1.out.lt)
        have KS2 := Lib.hid (KS1.out.below hb2 KS1.out.lt)
        have KP2 := Lib.hid (KP1.out.below hb2 KP1.out.lt)
        have BW2 := Lib.hid (BW1.out.trans (hb2.mono BW1.out.size))
        clear hb2
        have x02 := KR2.out.cell 0
        have x12 := KR2.out.cell 1
        have x22 := KR2.out.cell 2
        have x32 := KR2.out.cell 3
        have y02 := KS2.out.cell 0
        have y12 := KS2.out.cell 1
        have y22 := KS2.out.cell 2
        have y32 := KS2.out.cell 3
        have p02 := KP2.out.cell 0
        have p12 := KP2.out.cell 1
        have p22 := KP2.out.cell 2
        have p32 := KP2.out.cell 3
        have p42 := KP2.out.cell 4
        have p52 := KP2.out.cell 5
        have p62 := KP2.out.cell 6
        have p72 := KP2.out.cell 7
        simp at x02 x12 x22 x32 y02 y12 y22 y32 p02 p12 p22 p32 p42 p52 p62 p72
        go_wp2_with (fail)
        go_ret
        exact ⟨ret_int PV.out.symm, BW2.out⟩
    · have PV := Lib.hid (partV_no (a := a) (s := s) (show ¬ (prodB n o X Y n' o' X' Y' = true ∧ inB (n * n') a = true) from fun h => by have := of_decide_eq_true h.2; omega))
      clear hp
      go_enter Try.func31, Try.ntmps31
      go_upto_region 2 with (fail)
      rw [HW.out]
      go_wp2_with (fail)
      refine (paValid_any n o A B la ca lb cb X Y n' o' A' B' la' ca' lb' cb' X' Y' W IX.out IY.out hla hlb hca hcb IX'.out IY'.out hla' hlb' hca' hcb').mono ?_
      rintro e1 w1 ⟨rfl, hb1⟩
      rw [VP.out]
      have KR1 := Lib.hid (KR.out.below hb1 KR.out.lt)
      have KS1 := Lib.hid (KS.out.below hb1 KS.out.lt)
      have KP1 := Lib.hid (KP.out.below hb1 KP.out.lt)
      have BW1 := Lib.hid (BW.out.trans (hb1.mono BW.out.size))
      clear hb1
      have x01 := KR1.out.cell 0
      have x11 := KR1.out.cell 1
      have x21 := KR1.out.cell 2
      have x31 := KR1.out.cell 3
      have y01 := KS1.out.cell 0
      have y11 := KS1.out.cell 1
      have y21 := KS1.out.cell 2
      have y31 := KS1.out.cell 3
      have p01 := KP1.out.cell 0
      have p11 := KP1.out.cell 1
      have p21 := KP1.out.cell 2
      have p31 := KP1.out.cell 3
      have p41 := KP1.out.cell 4
      have p51 := KP1.out.cell 5
      have p61 := KP1.out.cell 6
      have p71 := KP1.out.cell 7
      simp at x01 x11 x21 x31 y01 y11 y21 y31 p01 p11 p21 p31 p41 p51 p61 p71
      go_wp2_with (fail)
      go_ret
      exact ⟨ret_int PV.out.symm, BW1.out⟩

end Go.Proofs.Ytihjnjcfiipcoaa


/- The drawing side: l2Small, l2Two: two rings. -/
namespace Go.Proofs.Ytihjnjcfiipcoaa
open Go.RowKit
set_option maxRecDepth 100000

theorem get_nn {L : List Int} {j : Nat} (h : ∀ x ∈ L, 0 ≤ x) : 0 ≤ L[j]?.getD 0 := by
  rcases Nat.lt_or_ge j L.length with hj | hj
  · rw [List.getElem?_eq_getElem hj]
    exact h _ (List.getElem_mem _)
  · rw [List.getElem?_eq_none hj]
    exact Int.le_refl _
theorem results_cell_cell {P : Program} {fn : Func} {p u : Tmp} {ty : TypeId} (h : fn.results = #[.cell p ty, .cell u ty]) (tmps : Array Value) (w : World) (g g' : Nat) (t : TypeId) (cs cs' : Array Value) (d : TypeDesc)
    (hp : tmps.getD p undef = .pointer (some ⟨g, 0, none⟩)) (hq : tmps.getD u undef = .pointer (some ⟨g', 0, none⟩)) (hg : Blk w g t cs) (hg' : Blk w g' t cs')
    (hu : P.underlying ty = some d) (hd : (match d with | .struct _ | .array _ _ => true | _ => false) = true) (hi : (P.info? ty).map (·.size) = some cs.size) (hi' : (P.info? ty).map (·.size) = some cs'.size) :
    (results fn tmps).run P w = .ok (.tuple #[.agg cs, .agg cs']) w := by
  have e : (results fn tmps).run P w = ((asAddr (tmps.getD p undef)).run P w).andThen fun a w₁ => ((loadVar ty a).run P w₁).andThen fun v w₂ => ((asAddr (tmps.getD u undef)).run P w₂).andThen fun a' w₃ => ((loadVar ty a').run P w₃).andThen fun v' w₄ => .ok (.tuple #[v, v']) w₄ := by
    simp only [results, h]
    simp [Sem.run_bind, Result.andThen]
  rw [e, hp, hq]
  simp [asAddr, run_loadVar_row w g t ty cs (0, 0) d hg hu hd hi, run_loadVar_row w g' t ty cs' (0, 0) d hg' hu hd hi']
theorem results_cells_two {P : Program} {fn : Func} {p u r s : Tmp} {ty : TypeId} (h : fn.results = #[.cell p ty, .cell u ty, .tmp r, .tmp s]) (tmps : Array Value) (w : World) (g g' : Nat) (t : TypeId) (cs cs' : Array Value) (d : TypeDesc) (x y : Value)
    (hp : tmps.getD p undef = .pointer (some ⟨g, 0, none⟩)) (hq : tmps.getD u undef = .pointer (some ⟨g', 0, none⟩)) (hr : tmps.getD r undef = x) (hs : tmps.getD s undef = y) (hg : Blk w g t cs) (hg' : Blk w g' t cs')
    (hu : P.underlying ty = some d) (hd : (match d with | .struct _ | .array _ _ => true | _ => false) = true) (hi : (P.info? ty).map (·.size) = some cs.size) (hi' : (P.info? ty).map (·.size) = some cs'.size) :
    (results fn tmps).run P w = .ok (.tuple #[.agg cs, .agg cs', x, y]) w := by
  have e : (results fn tmps).run P w = ((asAddr (tmps.getD p undef)).run P w).andThen fun a w₁ => ((loadVar ty a).run P w₁).andThen fun v w₂ => ((asAddr (tmps.getD u undef)).run P w₂).andThen fun a' w₃ => ((loadVar ty a').run P w₃).andThen fun v' w₄ => .ok (.tuple #[v, v', tmps.getD r undef, tmps.getD s undef]) w₄ := by
    simp only [results, h]
    simp [Sem.run_bind, Result.andThen]
  rw [e, hp, hq, hr, hs]
  simp [asAddr, run_loadVar_row w g t ty cs (0, 0) d hg hu hd hi, run_loadVar_row w g' t ty cs' (0, 0) d hg' hu hd hi']
/-- Two blocks are to hold rings. -/
def goal2 (b : Nat) (cs : Array Value) (b' : Nat) (cs' : Array Value) (k : Nat) : Option Obj := if k = b then some (.cells cs 25 (0, 0)) else if k = b' then some (.cells cs' 25 (0, 0)) else none
theorem goal2_fst {b b' : Nat} {cs cs' : Array Value} : goal2 b cs b' cs' b = some (.cells cs 25 (0, 0)) := if_pos rfl
theorem goal2_snd {b b' : Nat} {cs cs' : Array Value} (h : b' ≠ b) : goal2 b cs b' cs' b' = some (.cells cs' 25 (0, 0)) := (if_neg h).trans (if_pos rfl)
theorem goal2_none {b b' k : Nat} {cs cs' : Array Value} (h : k ≠ b) (h' : k ≠ b') : goal2 b cs b' cs' k = none := (if_neg h).trans (if_neg h')
structure TwoPhi (p q b : Nat) (cs : Array Value) (b' : Nat) (cs' : Array Value) (i : Nat) (v : Value) (w : World) : Prop where
  p : i = p → Blk w b 25 cs
  q : i = q → Blk w b' 25 cs'
def AnySh (_ : Nat) (_ : Value) : Prop := True

set_option maxHeartbeats 4000000 in
theorem l2Small_any (g k : Nat) (w : World) (hr : Rdr w g k) (hk : k ≤ 1125899906841000) :
    Calls Try.prog 134 #[.pointer (some ⟨g, 0, none⟩)] w fun e w' => ∃ v, e = .returned v ∧ AnyR w.heap.size w' v ∧ Wk g w w' ∧ Rdr w' g (k + 40) := by
  have hg := hr.lt
  obtain ⟨W, hW⟩ : ∃ W, w.alloc (.cells #[.int .i64 0, .int .i64 0, .slice none 0 0, .slice none 0 0] 25) = W := ⟨_, rfl⟩
  have hw : w.heap.size < W.heap.size := by subst hW; simp
  have bW : Below w.heap.size w W := by subst hW; exact (Below.refl _ _).alloc (Nat.le_refl _) _
  have K0 := Lib.hid (show Blk W w.heap.size 25 #[.int .i64 0, .int .i64 0, .slice none 0 0, .slice none 0 0] by subst hW; exact Blk.new w _ _)
  have X0 := Lib.hid (Below.wk (g := g) bW)
  have R0 := Lib.hid (hr.next bW)
  clear bW hr
  go_enter Try.func134, Try.ntmps134
  go_upto_region 1 with (fail)
  clear hW
  go_wp2_with (fail)
  have bA : Below W.heap.size W (W.alloc (.cells #[.int .i64 0, .int .i64 2, .int .i64 3, .int .i64 4, .int .i64 10, .int .i64 11, .int .i64 1, .int .i64 0] 3)) := (Below.refl _ _).alloc (Nat.le_refl _) _
  refine (num_any g k _ 8 _ _ [0, 2, 3, 4, 10, 11, 1, 0] _ (R0.out.next bA) (by omega) (ints_lit (w := W) (l := [0, 2, 3, 4, 10, 11, 1, 0]) (cs := #[.int .i64 0, .int .i64 2, .int .i64 3, .int .i64 4, .int .i64 10, .int .i64 11, .int .i64 1, .int .i64 0]) (T := 3) rfl) (fun a ha => by injection ha with ha; subst ha; show W.heap.size ≠ g; omega) (by omega) (by omega)).mono ?_
  rintro e w1 ⟨j, hj, rfl, hw1, hr1⟩
  obtain ⟨z, hz⟩ := Int.eq_ofNat_of_zero_le (get_nn (L := [0, 2, 3, 4, 10, 11, 1, 0]) (j := j) (by
    intro y hy
    simp only [List.mem_cons, List.not_mem_nil, or_false] at hy
    omega))
  rw [hz]
  have K1 := Lib.hid ((K0.out.next bA).wk hw1 (by omega))
  have X1 := Lib.hid ((X0.out.trans (Below.wk bA)).trans hw1)
  have R1 := Lib.hid hr1
  have S1 := Lib.hid (Nat.le_trans bA.size hw1.size)
  clear hw1 hr1 bA hz
  go_wp2_with (fail)
  refine (l1Known_any z w1).mono ?_
  rintro e w2 ⟨v, rfl, ⟨m, hF⟩, hb2⟩
  obtain ⟨n, o, A, B, q, ca, cb, X, Y, rfl, hX, hY, h1, h2, h3, h4⟩ := hF.any.data
  have hmx := AnyR.le hF.any
  have IX := Lib.hid hX.ints
  have IY := Lib.hid hY.ints
  have K2 := Lib.hid (K1.out.next hb2)
  have X2 := Lib.hid (X1.out.trans (Below.wk hb2))
  have R2 := Lib.hid (R1.out.next hb2)
  have S2 := Lib.hid (Nat.le_trans S1.out hb2.size)
  clear hb2 hF hX hY
  go_wp2_with (fail)
  refine (l1Bad_any g (k + 1) n o A B q ca cb X Y w2 R2.out (by omega) IX.out IY.out h1 h2 hmx).mono ?_
  rintro e w3 ⟨v3, rfl, hA, hw3, hr3⟩
  have F3 := hA
  obtain ⟨n2, o2, A2, B2, q2, ca2, cb2, X2', Y2', rfl, _, _, _⟩ := hA.data
  have F3 := Lib.hid F3
  have K3 := Lib.hid (K2.out.wk hw3 (by omega))
  have X3 := Lib.hid (X2.out.trans hw3)
  have R3 := Lib.hid hr3
  have ltw : w.heap.size < w2.heap.size := Nat.lt_of_lt_of_le hw S2.out
  clear hw3 hr3 hA
  have d0 := K3.out.cell 0
  have d1 := K3.out.cell 1
  have d2 := K3.out.cell 2
  have d3 := K3.out.cell 3
  have f0 := K3.out.frozen 0
  have f1 := K3.out.frozen 1
  have f2 := K3.out.frozen 2
  have f3 := K3.out.frozen 3
  simp at d0 d1 d2 d3
  go_wp2_with (fail)
  refine bodyPost_ret (v := .agg #[.int .i64 n2, .int .i64 o2, .slice A2 q2 ca2, .slice B2 q2 cb2]) ?_ rfl ⟨_, rfl, ?_, ?_, ?_⟩
  · exact results_cell_row Try.results134 _ _ w.heap.size 25 _ (0, 0) _ rfl (store4_blk K3.out) Try.underlying25 rfl (by kernel_rfl)
  · exact (F3.out.store ltw).lower (Nat.le_of_lt ltw)
  · exact X3.out.on (store4_below (Below.refl w.heap.size _) (Nat.le_refl _)) (Nat.le_refl _)
  · exact (R3.out.below (store4_below (Below.refl w.heap.size _) (Nat.le_refl _)) hg).more (by omega)

set_option maxHeartbeats 4000000 in
theorem l2Two_any (g k : Nat) (w : World) (hr : Rdr w g k) (hk : k ≤ 1125899906840000) :
    Calls Try.prog 88 #[.pointer (some ⟨g, 0, none⟩)] w fun e w' => ∃ v v', e = .returned (.tuple #[v, v']) ∧ AnyR w.heap.size w' v ∧ AnyR w.heap.size w' v' ∧ Wk g w w' ∧ Rdr w' g (k + 500) := by
  have hg := hr.lt
  have nK : w.heap.size ≠ g := by omega
  have nK' : w.heap.size + 1 ≠ g := by omega
  obtain ⟨W, hW⟩ : ∃ W, (w.alloc (.cells #[.int .i64 0, .int .i64 0, .slice none 0 0, .slice none 0 0] 25)).alloc (.cells #[.int .i64 0, .int .i64 0, .slice none 0 0, .slice none 0 0] 25) = W := ⟨_, rfl⟩
  have hs : W.heap.size = w.heap.size + 1 + 1 := by subst hW; simp
  have bW : Below w.heap.size w W := by subst hW; exact ((Below.refl _ _).alloc (Nat.le_refl _) _).alloc (by simp) _
  have kP : Blk W w.heap.size 25 #[.int .i64 0, .int .i64 0, .slice none 0 0, .slice none 0 0] := by subst hW; exact (Blk.new w _ _).alloc _
  have kZ : Blk W (w.heap.size + 1) 25 #[.int .i64 0, .int .i64 0, .slice none 0 0, .slice none 0 0] := by
    subst hW
    have := Blk.new (w.alloc (.cells #[.int .i64 0, .int .i64 0, .slice none 0 0, .slice none 0 0] 25)) 25 #[.int .i64 0, .int .i64 0, .slice none 0 0, .slice none 0 0]
    rw [World.size_alloc] at this
    exact this
  have K2 := Lib.hid kP
  have K3 := Lib.hid kZ
  have X0 := Lib.hid (Below.wk (g := g) bW)
  have R0 := Lib.hid (hr.next bW)
  have lD : g < W.heap.size := by omega
  clear bW hr kP kZ
  go_enter Try.func88, Try.ntmps88
  go_upto_region 1 with (fail)
  clear hW
  go_wp2_with (fail)
  refine (l2Small_any g k W R0.out (by omega)).mono ?_
  rintro e w1 ⟨v, rfl, hA, hw1, hr1⟩
  have FS1 := hA
  obtain ⟨ns, os, As, Bs, qs, cas, cbs, Xs, Ys, rfl, _, _, _⟩ := hA.data
  have K2a := K2.out.wk hw1 nK
  have K3a := K3.out.wk hw1 nK'
  have Xa := X0.out.trans hw1
  have s1 := hw1.size
  clear hA
  go_upto_region 2 with (fail)
  obtain ⟨V, hV⟩ : ∃ V, w1.alloc (.cells #[.int .i64 ns, .int .i64 os, .slice As qs cas, .slice Bs qs cbs] 25) = V := ⟨_, rfl⟩
  have bV : Below w1.heap.size w1 V := by subst hV; exact (Below.refl _ _).alloc (Nat.le_refl _) _
  obtain ⟨bS, hbS⟩ : ∃ b, b = w1.heap.size := ⟨_, rfl⟩
  have nS : bS ≠ g := by omega
  have lS : w.heap.size + 1 < bS := by omega
  have KS := Lib.hid (show Blk V bS 25 #[.int .i64 ns, .int .i64 os, .slice As qs cas, .slice Bs qs cbs] by subst hV hbS; exact Blk.new w1 _ _)
  have K2b := Lib.hid (K2a.next bV)
  have K3b := Lib.hid (K3a.next bV)
  have Xb := Lib.hid (Xa.trans (Below.wk bV))
  have Rb := Lib.hid (hr1.next bV)
  have FSb := Lib.hid (FS1.next bV)
  rw [← hbS, hV]
  have hVS : bS < V.heap.size := KS.out.lt
  clear hV bV hbS K2a K3a Xa hr1 FS1 hw1 s1
  go_wp2_with (fail)
  refine (pick_any g (k + 40) _ V Rb.out (by omega)).mono ?_
  rintro e w2 ⟨x, rfl, h0, h1, hw2, hr2⟩
  obtain ⟨m, hm⟩ := Int.eq_ofNat_of_zero_le (show 0 ≤ 2 + x by omega)
  have e2 : IntKind.i64.wrap (2 + x) = (m : Int) := by rw [← hm]; exact IntWalk.i64_in _ (by omega)
  have hm1 : 1 ≤ m := by omega
  have hm2 : m ≤ 16 := by omega
  have KS2 := Lib.hid (KS.out.wk hw2 nS)
  have K2c := Lib.hid (K2b.out.wk hw2 nK)
  have K3c := Lib.hid (K3b.out.wk hw2 nK')
  have Xc := Lib.hid (Xb.out.trans hw2)
  have Rc := Lib.hid hr2
  have FSc := Lib.hid (FSb.out.wk hw2 lD)
  have s2 := hw2.size
  have PVc := hw2
  clear hw2 hr2 hm h0 h1
  go_wp2_with (fail)
  refine (fit_int m _ rfl hm1 hm2 w2).mono ?_
  rintro e w3 ⟨v, rfl, hF, hb3⟩
  have hA := hF.any.lower (show W.heap.size ≤ w2.heap.size by omega)
  have FT3 := hA
  obtain ⟨nt, ot, At, Bt, qt, cat, cbt, Xt, Yt, rfl, _, _, _⟩ := hA.data
  have KS3 := KS2.out.next hb3
  have K2d := K2c.out.next hb3
  have K3d := K3c.out.next hb3
  have Xd := Xc.out.trans (Below.wk hb3)
  have Rd := Rc.out.next hb3
  have FSd := FSc.out.next hb3
  have s3 := hb3.size
  have PVd := PVc.trans (Below.wk hb3)
  clear hA hF
  go_upto_region 3 with (fail)
  obtain ⟨U, hU⟩ : ∃ V, w3.alloc (.cells #[.int .i64 nt, .int .i64 ot, .slice At qt cat, .slice Bt qt cbt] 25) = V := ⟨_, rfl⟩
  have bU : Below w3.heap.size w3 U := by subst hU; exact (Below.refl _ _).alloc (Nat.le_refl _) _
  obtain ⟨bT, hbT⟩ : ∃ b, b = w3.heap.size := ⟨_, rfl⟩
  have nT : bT ≠ g := by omega
  have lT : bS < bT := by omega
  have lV : V.heap.size ≤ bT := by omega
  have KTe := Lib.hid (show Blk U bT 25 #[.int .i64 nt, .int .i64 ot, .slice At qt cat, .slice Bt qt cbt] by subst hU hbT; exact Blk.new w3 _ _)
  have KSe := Lib.hid (KS3.next bU)
  have K2e := Lib.hid (K2d.next bU)
  have K3e := Lib.hid (K3d.next bU)
  have Xe := Lib.hid (Xd.trans (Below.wk bU))
  have Re := Lib.hid (Rd.next bU)
  have FSe := Lib.hid (FSd.next bU)
  have FTe := Lib.hid (FT3.next bU)
  have PVe := PVd.trans (Below.wk bU)
  rw [← hbT, hU]
  have hUT : bT < U.heap.size := KTe.out.lt
  clear hU bU hbT KS3 K2d K3d Xd Rd FSd FT3 hb3 s3 s2 e2 hm1 hm2 PVc PVd
  go_wp2_with (fail)
  refine (pick_any g (k + 41) _ U Re.out (by omega)).mono ?_
  rintro e w4 ⟨x, rfl, h0, h1, hw4, hr4⟩
  have KTf := Lib.hid (KTe.out.wk hw4 nT)
  have KSf := Lib.hid (KSe.out.wk hw4 nS)
  have K2f := Lib.hid (K2e.out.wk hw4 nK)
  have K3f := Lib.hid (K3e.out.wk hw4 nK')
  have Xf := Lib.hid (Xe.out.trans hw4)
  have Rf := Lib.hid hr4
  have FSf := Lib.hid (FSe.out.wk hw4 lD)
  have FTf := Lib.hid (FTe.out.wk hw4 lD)
  have PVf := Lib.hid (PVe.trans hw4)
  have s4 := hw4.size
  clear hw4 hr4 h0 h1 PVe
  by_cases hx : x = 0
  · have t1 : (x == 0) = true := by rw [hx]; rfl
    go_wp2_with (fail)
    refine (l2Small_any g (k + 42) w4 Rf.out (by omega)).mono ?_
    rintro e w5 ⟨v, rfl, hA, hw5, hr5⟩
    have KTg := Lib.hid (KTf.out.wk hw5 nT)
    have KSg := Lib.hid (KSf.out.wk hw5 nS)
    have K2g := Lib.hid (K2f.out.wk hw5 nK)
    have K3g := Lib.hid (K3f.out.wk hw5 nK')
    have Xg := Lib.hid (Xf.out.trans hw5)
    have FT5 := hA
    have PVg := PVf.out.trans hw5
    obtain ⟨nu, ou, Au, Bu, qu, cau, cbu, Xu, Yu, rfl, _, _, _⟩ := hA.data
    have d0 := KTg.out.cell 0
    have d1 := KTg.out.cell 1
    have d2 := KTg.out.cell 2
    have d3 := KTg.out.cell 3
    have f0 := KTg.out.frozen 0
    have f1 := KTg.out.frozen 1
    have f2 := KTg.out.frozen 2
    have f3 := KTg.out.frozen 3
    simp at d0 d1 d2 d3
    clear hA
    go_upto_region 5 with (fail)
    obtain ⟨Y, hY⟩ : ∃ Y, store4 w5 bT (.int .i64 nu) (.int .i64 ou) (.slice Au qu cau) (.slice Bu qu cbu) = Y := ⟨_, rfl⟩
    have bY : Below bT w5 Y := by subst hY; exact store4_below (Below.refl _ _) (Nat.le_refl _)
    have KTh := Lib.hid (show Blk Y bT 25 #[.int .i64 nu, .int .i64 ou, .slice Au qu cau, .slice Bu qu cbu] by subst hY; exact store4_blk KTg.out)
    have KSh := Lib.hid (show Blk Y bS 25 #[.int .i64 ns, .int .i64 os, .slice As qs cas, .slice Bs qs cbs] by subst hY; exact store4_farW KSg.out (by omega))
    have K2h := Lib.hid (show Blk Y w.heap.size 25 #[.int .i64 0, .int .i64 0, .slice none 0 0, .slice none 0 0] by subst hY; exact store4_farW K2g.out (by omega))
    have K3h := Lib.hid (show Blk Y (w.heap.size + 1) 25 #[.int .i64 0, .int .i64 0, .slice none 0 0, .slice none 0 0] by subst hY; exact store4_farW K3g.out (by omega))
    have Xh := Lib.hid (Xg.out.on bY (by omega))
    have Rh := Lib.hid (hr5.below bY (by omega))
    have PVh := PVg.on bY lV
    have FSh := Lib.hid (show AnyR W.heap.size Y (.agg #[.int .i64 ns, .int .i64 os, .slice As qs cas, .slice Bs qs cbs]) from FSb.out.wk PVh lD)
    have FTh := Lib.hid (show AnyR W.heap.size Y (.agg #[.int .i64 nu, .int .i64 ou, .slice Au qu cau, .slice Bu qu cbu]) by subst hY; exact (FT5.store (by omega)).lower (by omega))
    unfold store4 at hY
    rw [hY]
    clear hY bY d0 d1 d2 d3 f0 f1 f2 f3 KTg KSg K2g K3g Xg FT5 hr5 hw5 PVg PVh
    go_wp2_with (fail)
    refine (pick_any g (k + 82) _ _ Rh.out (by omega)).mono ?_
    rintro e w8 ⟨y, rfl, h0, h1, hw8, hr8⟩
    have KTZ := Lib.hid (KTh.out.wk hw8 nT)
    have KSZ := Lib.hid (KSh.out.wk hw8 nS)
    have K2Z := Lib.hid (K2h.out.wk hw8 nK)
    have K3Z := Lib.hid (K3h.out.wk hw8 nK')
    have XZ := Lib.hid (Xh.out.trans hw8)
    have RZ := Lib.hid (hr8.more (show _ ≤ k + 100 by omega))
    have FSZ := Lib.hid (FSh.out.wk hw8 lD)
    have FTZ := Lib.hid (FTh.out.wk hw8 lD)
    clear hw8 hr8 h0 h1
    by_cases hy : y = 0
    · have t2 : (y == 0) = true := by rw [hy]; rfl
      obtain ⟨Q, hQ⟩ : ∃ Q, store4 (store4 w8 w.heap.size (.int .i64 nu) (.int .i64 ou) (.slice Au qu cau) (.slice Bu qu cbu)) (w.heap.size + 1) (.int .i64 ns) (.int .i64 os) (.slice As qs cas) (.slice Bs qs cbs) = Q := ⟨_, rfl⟩
      have K9 := Lib.hid (show Blk Q w.heap.size 25 #[.int .i64 nu, .int .i64 ou, .slice Au qu cau, .slice Bu qu cbu] by subst hQ; exact store4_farW (store4_blk K2Z.out) (by omega))
      have L9 := Lib.hid (show Blk Q (w.heap.size + 1) 25 #[.int .i64 ns, .int .i64 os, .slice As qs cas, .slice Bs qs cbs] by subst hQ; exact store4_blk (store4_farW K3Z.out (by omega)))
      have bQ : Below w.heap.size w8 Q := by subst hQ; exact store4_below (store4_below (Below.refl _ _) (Nat.le_refl _)) (by omega)
      have FS9 := Lib.hid (show AnyR W.heap.size Q (.agg #[.int .i64 ns, .int .i64 os, .slice As qs cas, .slice Bs qs cbs]) by subst hQ; exact (FSZ.out.store (by omega)).store (by omega))
      have FT9 := Lib.hid (show AnyR W.heap.size Q (.agg #[.int .i64 nu, .int .i64 ou, .slice Au qu cau, .slice Bu qu cbu]) by subst hQ; exact (FTZ.out.store (by omega)).store (by omega))
      have X9 := Lib.hid (XZ.out.on bQ (Nat.le_refl _))
      have R9 := Lib.hid (RZ.out.below bQ hg)
      unfold store4 at hQ
      clear bQ
      have cKSZ0 := KSZ.out.cell 0
      have cKSZ1 := KSZ.out.cell 1
      have cKSZ2 := KSZ.out.cell 2
      have cKSZ3 := KSZ.out.cell 3
      have cKTZ0 := KTZ.out.cell 0
      have cKTZ1 := KTZ.out.cell 1
      have cKTZ2 := KTZ.out.cell 2
      have cKTZ3 := KTZ.out.cell 3
      have cK2Z0 := K2Z.out.cell 0
      have cK2Z1 := K2Z.out.cell 1
      have cK2Z2 := K2Z.out.cell 2
      have cK2Z3 := K2Z.out.cell 3
      have cK3Z0 := K3Z.out.cell 0
      have cK3Z1 := K3Z.out.cell 1
      have cK3Z2 := K3Z.out.cell 2
      have cK3Z3 := K3Z.out.cell 3
      have fK2Z0 := K2Z.out.frozen 0
      have fK2Z1 := K2Z.out.frozen 1
      have fK2Z2 := K2Z.out.frozen 2
      have fK2Z3 := K2Z.out.frozen 3
      have fK3Z0 := K3Z.out.frozen 0
      have fK3Z1 := K3Z.out.frozen 1
      have fK3Z2 := K3Z.out.frozen 2
      have fK3Z3 := K3Z.out.frozen 3
      simp at cKSZ0 cKSZ1 cKSZ2 cKSZ3 cKTZ0 cKTZ1 cKTZ2 cKTZ3 cK2Z0 cK2Z1 cK2Z2 cK2Z3 cK3Z0 cK3Z1 cK3Z2 cK3Z3
      go_wp2_with (fail)
      go_region
      try rw [hQ]
      clear hQ cKSZ0 cKSZ1 cKSZ2 cKSZ3 cKTZ0 cKTZ1 cKTZ2 cKTZ3 cK2Z0 cK2Z1 cK2Z2 cK2Z3 cK3Z0 cK3Z1 cK3Z2 cK3Z3 fK2Z0 fK2Z1 fK2Z2 fK2Z3 fK3Z0 fK3Z1 fK3Z2 fK3Z3
      go_wp2_with (fail)
      refine bodyPost_ret (v := .tuple #[.agg #[.int .i64 nu, .int .i64 ou, .slice Au qu cau, .slice Bu qu cbu], .agg #[.int .i64 ns, .int .i64 os, .slice As qs cas, .slice Bs qs cbs]]) ?_ rfl ⟨_, _, rfl, (FT9.out.next (Below.refl _ _).drew).lower (by omega), (FS9.out.next (Below.refl _ _).drew).lower (by omega), X9.out.drew, (R9.out.next (Below.refl _ _).drew).more (by omega)⟩
      exact results_cell_cell (fn := Try.f88) rfl _ _ w.heap.size (w.heap.size + 1) 25 _ _ _ rfl rfl (K9.out.next (Below.refl _ _).drew) (L9.out.next (Below.refl _ _).drew) Try.underlying25 rfl (by kernel_rfl) (by kernel_rfl)
    · have t2 : (y == 0) = false := by simp [hy]
      obtain ⟨Q, hQ⟩ : ∃ Q, store4 (store4 w8 w.heap.size (.int .i64 ns) (.int .i64 os) (.slice As qs cas) (.slice Bs qs cbs)) (w.heap.size + 1) (.int .i64 nu) (.int .i64 ou) (.slice Au qu cau) (.slice Bu qu cbu) = Q := ⟨_, rfl⟩
      have K9 := Lib.hid (show Blk Q w.heap.size 25 #[.int .i64 ns, .int .i64 os, .slice As qs cas, .slice Bs qs cbs] by subst hQ; exact store4_farW (store4_blk K2Z.out) (by omega))
      have L9 := Lib.hid (show Blk Q (w.heap.size + 1) 25 #[.int .i64 nu, .int .i64 ou, .slice Au qu cau, .slice Bu qu cbu] by subst hQ; exact store4_blk (store4_farW K3Z.out (by omega)))
      have bQ : Below w.heap.size w8 Q := by subst hQ; exact store4_below (store4_below (Below.refl _ _) (Nat.le_refl _)) (by omega)
      have FS9 := Lib.hid (show AnyR W.heap.size Q (.agg #[.int .i64 ns, .int .i64 os, .slice As qs cas, .slice Bs qs cbs]) by subst hQ; exact (FSZ.out.store (by omega)).store (by omega))
      have FT9 := Lib.hid (show AnyR W.heap.size Q (.agg #[.int .i64 nu, .int .i64 ou, .slice Au qu cau, .slice Bu qu cbu]) by subst hQ; exact (FTZ.out.store (by omega)).store (by omega))
      have X9 := Lib.hid (XZ.out.on bQ (Nat.le_refl _))
      have R9 := Lib.hid (RZ.out.below bQ hg)
      unfold store4 at hQ
      clear bQ
      have cKSZ0 := KSZ.out.cell 0
      have cKSZ1 := KSZ.out.cell 1
      have cKSZ2 := KSZ.out.cell 2
      have cKSZ3 := KSZ.out.cell 3
      have cKTZ0 := KTZ.out.cell 0
      have cKTZ1 := KTZ.out.cell 1
      have cKTZ2 := KTZ.out.cell 2
      have cKTZ3 := KTZ.out.cell 3
      have cK2Z0 := K2Z.out.cell 0
      have cK2Z1 := K2Z.out.cell 1
      have cK2Z2 := K2Z.out.cell 2
      have cK2Z3 := K2Z.out.cell 3
      have cK3Z0 := K3Z.out.cell 0
      have cK3Z1 := K3Z.out.cell 1
      have cK3Z2 := K3Z.out.cell 2
      have cK3Z3 := K3Z.out.cell 3
      have fK2Z0 := K2Z.out.frozen 0
      have fK2Z1 := K2Z.out.frozen 1
      have fK2Z2 := K2Z.out.frozen 2
      have fK2Z3 := K2Z.out.frozen 3
      have fK3Z0 := K3Z.out.frozen 0
      have fK3Z1 := K3Z.out.frozen 1
      have fK3Z2 := K3Z.out.frozen 2
      have fK3Z3 := K3Z.out.frozen 3
      simp at cKSZ0 cKSZ1 cKSZ2 cKSZ3 cKTZ0 cKTZ1 cKTZ2 cKTZ3 cK2Z0 cK2Z1 cK2Z2 cK2Z3 cK3Z0 cK3Z1 cK3Z2 cK3Z3
      go_wp2_with (fail)
      go_region
      try rw [hQ]
      clear hQ cKSZ0 cKSZ1 cKSZ2 cKSZ3 cKTZ0 cKTZ1 cKTZ2 cKTZ3 cK2Z0 cK2Z1 cK2Z2 cK2Z3 cK3Z0 cK3Z1 cK3Z2 cK3Z3 fK2Z0 fK2Z1 fK2Z2 fK2Z3 fK3Z0 fK3Z1 fK3Z2 fK3Z3
      go_wp2_with (fail)
      refine bodyPost_ret (v := .tuple #[.agg #[.int .i64 ns, .int .i64 os, .slice As qs cas, .slice Bs qs cbs], .agg #[.int .i64 nu, .int .i64 ou, .slice Au qu cau, .slice Bu qu cbu]]) ?_ rfl ⟨_, _, rfl, (FS9.out.next (Below.refl _ _).drew).lower (by omega), (FT9.out.next (Below.refl _ _).drew).lower (by omega), X9.out.drew, (R9.out.next (Below.refl _ _).drew).more (by omega)⟩
      exact results_cell_cell (fn := Try.f88) rfl _ _ w.heap.size (w.heap.size + 1) 25 _ _ _ rfl rfl (K9.out.next (Below.refl _ _).drew) (L9.out.next (Below.refl _ _).drew) Try.underlying25 rfl (by kernel_rfl) (by kernel_rfl)
  · have t1 : (x == 0) = false := by simp [hx]
    go_wp2_with (fail)
    refine (pick_any g (k + 42) _ _ Rf.out (by omega)).mono ?_
    rintro e w8 ⟨y, rfl, h0, h1, hw8, hr8⟩
    have KTZ := Lib.hid (KTf.out.wk hw8 nT)
    have KSZ := Lib.hid (KSf.out.wk hw8 nS)
    have K2Z := Lib.hid (K2f.out.wk hw8 nK)
    have K3Z := Lib.hid (K3f.out.wk hw8 nK')
    have XZ := Lib.hid (Xf.out.trans hw8)
    have RZ := Lib.hid (hr8.more (show _ ≤ k + 100 by omega))
    have FSZ := Lib.hid (FSf.out.wk hw8 lD)
    have FTZ := Lib.hid (FTf.out.wk hw8 lD)
    clear hw8 hr8 h0 h1
    by_cases hy : y = 0
    · have t2 : (y == 0) = true := by rw [hy]; rfl
      obtain ⟨Q, hQ⟩ : ∃ Q, store4 (store4 w8 w.heap.size (.int .i64 nt) (.int .i64 ot) (.slice At qt cat) (.slice Bt qt cbt)) (w.heap.size + 1) (.int .i64 ns) (.int .i64 os) (.slice As qs cas) (.slice Bs qs cbs) = Q := ⟨_, rfl⟩
      have K9 := Lib.hid (show Blk Q w.heap.size 25 #[.int .i64 nt, .int .i64 ot, .slice At qt cat, .slice Bt qt cbt] by subst hQ; exact store4_farW (store4_blk K2Z.out) (by omega))
      have L9 := Lib.hid (show Blk Q (w.heap.size + 1) 25 #[.int .i64 ns, .int .i64 os, .slice As qs cas, .slice Bs qs cbs] by subst hQ; exact store4_blk (store4_farW K3Z.out (by omega)))
      have bQ : Below w.heap.size w8 Q := by subst hQ; exact store4_below (store4_below (Below.refl _ _) (Nat.le_refl _)) (by omega)
      have FS9 := Lib.hid (show AnyR W.heap.size Q (.agg #[.int .i64 ns, .int .i64 os, .slice As qs cas, .slice Bs qs cbs]) by subst hQ; exact (FSZ.out.store (by omega)).store (by omega))
      have FT9 := Lib.hid (show AnyR W.heap.size Q (.agg #[.int .i64 nt, .int .i64 ot, .slice At qt cat, .slice Bt qt cbt]) by subst hQ; exact (FTZ.out.store (by omega)).store (by omega))
      have X9 := Lib.hid (XZ.out.on bQ (Nat.le_refl _))
      have R9 := Lib.hid (RZ.out.below bQ hg)
      unfold store4 at hQ
      clear bQ
      have cKSZ0 := KSZ.out.cell 0
      have cKSZ1 := KSZ.out.cell 1
      have cKSZ2 := KSZ.out.cell 2
      have cKSZ3 := KSZ.out.cell 3
      have cKTZ0 := KTZ.out.cell 0
      have cKTZ1 := KTZ.out.cell 1
      have cKTZ2 := KTZ.out.cell 2
      have cKTZ3 := KTZ.out.cell 3
      have cK2Z0 := K2Z.out.cell 0
      have cK2Z1 := K2Z.out.cell 1
      have cK2Z2 := K2Z.out.cell 2
      have cK2Z3 := K2Z.out.cell 3
      have cK3Z0 := K3Z.out.cell 0
      have cK3Z1 := K3Z.out.cell 1
      have cK3Z2 := K3Z.out.cell 2
      have cK3Z3 := K3Z.out.cell 3
      have fK2Z0 := K2Z.out.frozen 0
      have fK2Z1 := K2Z.out.frozen 1
      have fK2Z2 := K2Z.out.frozen 2
      have fK2Z3 := K2Z.out.frozen 3
      have fK3Z0 := K3Z.out.frozen 0
      have fK3Z1 := K3Z.out.frozen 1
      have fK3Z2 := K3Z.out.frozen 2
      have fK3Z3 := K3Z.out.frozen 3
      simp at cKSZ0 cKSZ1 cKSZ2 cKSZ3 cKTZ0 cKTZ1 cKTZ2 cKTZ3 cK2Z0 cK2Z1 cK2Z2 cK2Z3 cK3Z0 cK3Z1 cK3Z2 cK3Z3
      go_wp2_with (fail)
      go_region
      try rw [hQ]
      clear hQ cKSZ0 cKSZ1 cKSZ2 cKSZ3 cKTZ0 cKTZ1 cKTZ2 cKTZ3 cK2Z0 cK2Z1 cK2Z2 cK2Z3 cK3Z0 cK3Z1 cK3Z2 cK3Z3 fK2Z0 fK2Z1 fK2Z2 fK2Z3 fK3Z0 fK3Z1 fK3Z2 fK3Z3
      go_wp2_with (fail)
      refine bodyPost_ret (v := .tuple #[.agg #[.int .i64 nt, .int .i64 ot, .slice At qt cat, .slice Bt qt cbt], .agg #[.int .i64 ns, .int .i64 os, .slice As qs cas, .slice Bs qs cbs]]) ?_ rfl ⟨_, _, rfl, (FT9.out.next (Below.refl _ _).drew).lower (by omega), (FS9.out.next (Below.refl _ _).drew).lower (by omega), X9.out.drew, (R9.out.next (Below.refl _ _).drew).more (by omega)⟩
      exact results_cell_cell (fn := Try.f88) rfl _ _ w.heap.size (w.heap.size + 1) 25 _ _ _ rfl rfl (K9.out.next (Below.refl _ _).drew) (L9.out.next (Below.refl _ _).drew) Try.underlying25 rfl (by kernel_rfl) (by kernel_rfl)
    · have t2 : (y == 0) = false := by simp [hy]
      obtain ⟨Q, hQ⟩ : ∃ Q, store4 (store4 w8 w.heap.size (.int .i64 ns) (.int .i64 os) (.slice As qs cas) (.slice Bs qs cbs)) (w.heap.size + 1) (.int .i64 nt) (.int .i64 ot) (.slice At qt cat) (.slice Bt qt cbt) = Q := ⟨_, rfl⟩
      have K9 := Lib.hid (show Blk Q w.heap.size 25 #[.int .i64 ns, .int .i64 os, .slice As qs cas, .slice Bs qs cbs] by subst hQ; exact store4_farW (store4_blk K2Z.out) (by omega))
      have L9 := Lib.hid (show Blk Q (w.heap.size + 1) 25 #[.int .i64 nt, .int .i64 ot, .slice At qt cat, .slice Bt qt cbt] by subst hQ; exact store4_blk (store4_farW K3Z.out (by omega)))
      have bQ : Below w.heap.size w8 Q := by subst hQ; exact store4_below (store4_below (Below.refl _ _) (Nat.le_refl _)) (by omega)
      have FS9 := Lib.hid (show AnyR W.heap.size Q (.agg #[.int .i64 ns, .int .i64 os, .slice As qs cas, .slice Bs qs cbs]) by subst hQ; exact (FSZ.out.store (by omega)).store (by omega))
      have FT9 := Lib.hid (show AnyR W.heap.size Q (.agg #[.int .i64 nt, .int .i64 ot, .slice At qt cat, .slice Bt qt cbt]) by subst hQ; exact (FTZ.out.store (by omega)).store (by omega))
      have X9 := Lib.hid (XZ.out.on bQ (Nat.le_refl _))
      have R9 := Lib.hid (RZ.out.below bQ hg)
      unfold store4 at hQ
      clear bQ
      have cKSZ0 := KSZ.out.cell 0
      have cKSZ1 := KSZ.out.cell 1
      have cKSZ2 := KSZ.out.cell 2
      have cKSZ3 := KSZ.out.cell 3
      have cKTZ0 := KTZ.out.cell 0
      have cKTZ1 := KTZ.out.cell 1
      have cKTZ2 := KTZ.out.cell 2
      have cKTZ3 := KTZ.out.cell 3
      have cK2Z0 := K2Z.out.cell 0
      have cK2Z1 := K2Z.out.cell 1
      have cK2Z2 := K2Z.out.cell 2
      have cK2Z3 := K2Z.out.cell 3
      have cK3Z0 := K3Z.out.cell 0
      have cK3Z1 := K3Z.out.cell 1
      have cK3Z2 := K3Z.out.cell 2
      have cK3Z3 := K3Z.out.cell 3
      have fK2Z0 := K2Z.out.frozen 0
      have fK2Z1 := K2Z.out.frozen 1
      have fK2Z2 := K2Z.out.frozen 2
      have fK2Z3 := K2Z.out.frozen 3
      have fK3Z0 := K3Z.out.frozen 0
      have fK3Z1 := K3Z.out.frozen 1
      have fK3Z2 := K3Z.out.frozen 2
      have fK3Z3 := K3Z.out.frozen 3
      simp at cKSZ0 cKSZ1 cKSZ2 cKSZ3 cKTZ0 cKTZ1 cKTZ2 cKTZ3 cK2Z0 cK2Z1 cK2Z2 cK2Z3 cK3Z0 cK3Z1 cK3Z2 cK3Z3
      go_wp2_with (fail)
      go_region
      try rw [hQ]
      clear hQ cKSZ0 cKSZ1 cKSZ2 cKSZ3 cKTZ0 cKTZ1 cKTZ2 cKTZ3 cK2Z0 cK2Z1 cK2Z2 cK2Z3 cK3Z0 cK3Z1 cK3Z2 cK3Z3 fK2Z0 fK2Z1 fK2Z2 fK2Z3 fK3Z0 fK3Z1 fK3Z2 fK3Z3
      go_wp2_with (fail)
      refine bodyPost_ret (v := .tuple #[.agg #[.int .i64 ns, .int .i64 os, .slice As qs cas, .slice Bs qs cbs], .agg #[.int .i64 nt, .int .i64 ot, .slice At qt cat, .slice Bt qt cbt]]) ?_ rfl ⟨_, _, rfl, (FS9.out.next (Below.refl _ _).drew).lower (by omega), (FT9.out.next (Below.refl _ _).drew).lower (by omega), X9.out.drew, (R9.out.next (Below.refl _ _).drew).more (by omega)⟩
      exact results_cell_cell (fn := Try.f88) rfl _ _ w.heap.size (w.heap.size + 1) 25 _ _ _ rfl rfl (K9.out.next (Below.refl _ _).drew) (L9.out.next (Below.refl _ _).drew) Try.underlying25 rfl (by kernel_rfl) (by kernel_rfl)

end Go.Proofs.Ytihjnjcfiipcoaa


/- The drawing side: two rings, and numbers. -/
namespace Go.Proofs.Ytihjnjcfiipcoaa
open Go.RowKit
set_option maxRecDepth 100000

theorem ints_blk {w : World} {l : List Int} {cs : Array Value} {b : Nat} {T : TypeId} (h : Blk w b T cs) (hc : cs = (l.map (Value.int .i64)).toArray) : Ints w w.heap.size (some ⟨b, 0, none⟩) l.length l := by
  subst hc
  refine ⟨rfl, fun _ => ⟨b, 0, rfl, h.lt, fun k x hx => ?_⟩⟩
  rw [h.cell]
  simp [hx]

/-- A flag (simp would take an existential over Bool apart). -/
def BoolV (z : Value) : Prop := ∃ b : Bool, z = .bool b
/-- What the last statement of DrawPartOf draws. -/
structure PartPhi (D b : Nat) (cs : Array Value) (b' : Nat) (cs' : Array Value) (i : Nat) (v : Value) (w : World) : Prop where
  e : i = 4 ∨ i = 8 → ∃ x : Int, v = .int .i64 x ∧ Wrd x
  l : i = 5 → ∃ (y : Int) (b5 : Nat), v = .slice (some ⟨b5, 0, none⟩) 6 6 ∧ Wrd y ∧ D ≤ b5 ∧ Blk w b5 3 #[.int .i64 y, .int .i64 0, .int .i64 1, .int .i64 5, .int .i64 (-1), .int .i64 16]
  n : i = 6 → ∃ x : Int, v = .int .i64 x ∧ Wrd x
  p : i = 10 → Blk w b 25 cs
  q : i = 11 → Blk w b' 25 cs'
structure PartSh (i : Nat) (v : Value) : Prop where
  e : i = 4 ∨ i = 6 ∨ i = 8 → ∃ x : Int, v = .int .i64 x
  l : i = 5 → ∃ b5 : Nat, v = .slice (some ⟨b5, 0, none⟩) 6 6
def part0 (i : Nat) : Value := if i = 5 then .slice (some ⟨0, 0, none⟩) 6 6 else .int .i64 0
theorem PartSh_zero (i : Nat) : PartSh i (part0 i) := ⟨fun h => ⟨0, if_neg (by omega)⟩, fun h => ⟨0, if_pos h⟩⟩
theorem PartPhi.sh {D b b' : Nat} {cs cs' : Array Value} {i : Nat} {v : Value} {w : World} (h : PartPhi D b cs b' cs' i v w) : PartSh i v := ⟨fun e => by
  rcases e with e | e | e
  · obtain ⟨x, hx, _⟩ := h.e (.inl e); exact ⟨x, hx⟩
  · obtain ⟨x, hx, _⟩ := h.n e; exact ⟨x, hx⟩
  · obtain ⟨x, hx, _⟩ := h.e (.inr e); exact ⟨x, hx⟩, fun e => by
  obtain ⟨y, b5, hx, _⟩ := h.l e; exact ⟨b5, hx⟩⟩
theorem PartPhi.stable {g D b b' : Nat} {cs cs' : Array Value} {i : Nat} {v : Value} {w w' : World} (h : PartPhi D b cs b' cs' i v w) (hw : WkT g (goal2 b cs b' cs') w w') (nb : b ≠ g) (nb' : b' ≠ g) (hbb : b' ≠ b) (hg : g < D) (hb : b < D) (hb' : b' < D) : PartPhi D b cs b' cs' i v w' :=
  ⟨h.e, fun e => by
    obtain ⟨y, b5, h1, h2, h3, h4⟩ := h.l e
    exact ⟨y, b5, h1, h2, h3, WkT.blk h4 hw (by omega) (goal2_none (by omega) (by omega))⟩, h.n, fun e => WkT.done (h.p e) hw nb goal2_fst, fun e => WkT.done (h.q e) hw nb' (goal2_snd hbb)⟩

structure PairPhi (b : Nat) (cs : Array Value) (b' : Nat) (cs' : Array Value) (i : Nat) (v : Value) (w : World) : Prop where
  n : i = 5 → ∃ x : Int, v = .int .i64 x ∧ Wrd x
  p : i = 6 → Blk w b 25 cs
  q : i = 7 → Blk w b' 25 cs'
structure PairSh (i : Nat) (v : Value) : Prop where
  n : i = 5 → ∃ x : Int, v = .int .i64 x ∧ Wrd x
theorem PairSh_zero (i : Nat) : PairSh i (.int .i64 0) := ⟨fun _ => ⟨0, rfl, by decide, by decide⟩⟩

set_option maxHeartbeats 4000000 in
theorem drawProductRing_any (A : Option Addr) (n c : Nat) (w : World) (hb : Byts w w.heap.size A n) (hn : n ≤ 1048576) (hc : n ≤ c) (hc2 : c ≤ 9223372036854775807) :
    Calls Try.prog 28 #[.slice A n c] w fun e w' => ∃ v v', e = .returned (.tuple #[v, v']) ∧ AnyR w.heap.size w' v ∧ AnyR w.heap.size w' v' ∧ Below w.heap.size w w' := by
  obtain ⟨W, hW⟩ : ∃ W, (w.alloc (.cells #[.int .i64 0, .int .i64 0, .slice none 0 0, .slice none 0 0] 25)).alloc (.cells #[.int .i64 0, .int .i64 0, .slice none 0 0, .slice none 0 0] 25) = W := ⟨_, rfl⟩
  have hs : W.heap.size = w.heap.size + 1 + 1 := by subst hW; simp
  have bW : Below w.heap.size w W := by subst hW; exact ((Below.refl _ _).alloc (Nat.le_refl _) _).alloc (by simp) _
  have kP : Blk W w.heap.size 25 #[.int .i64 0, .int .i64 0, .slice none 0 0, .slice none 0 0] := by subst hW; exact (Blk.new w _ _).alloc _
  have kZ : Blk W (w.heap.size + 1) 25 #[.int .i64 0, .int .i64 0, .slice none 0 0, .slice none 0 0] := by
    subst hW
    have := Blk.new (w.alloc (.cells #[.int .i64 0, .int .i64 0, .slice none 0 0, .slice none 0 0] 25)) 25 #[.int .i64 0, .int .i64 0, .slice none 0 0, .slice none 0 0]
    rw [World.size_alloc] at this
    exact this
  have K0 := Lib.hid kP
  have L0 := Lib.hid kZ
  have HB := Lib.hid (hb.grow bW)
  have B0 := Lib.hid bW
  clear bW kP kZ
  go_enter Try.func28, Try.ntmps28
  go_upto_region 1 with (fail)
  clear hW
  go_wp2_with (fail)
  refine (l13Open_any A n c W HB.out (by omega) hc hc2).mono ?_
  rintro e w1 ⟨rfl, hb1, hr1, hlt1⟩
  obtain ⟨g, hg⟩ : ∃ g, W.heap.size = g := ⟨_, rfl⟩
  rw [hg] at hr1 hlt1 ⊢
  have hgw : w.heap.size + 1 < g := by omega
  have K1 := Lib.hid (K0.out.below hb1 (by omega))
  have L1 := Lib.hid (L0.out.below hb1 (by omega))
  have B1 := Lib.hid (B0.out.trans (hb1.mono (by omega)))
  have R1 := Lib.hid hr1
  clear hb1 hr1 hg hs
  have nK : w.heap.size ≠ g := by omega
  have nK' : w.heap.size + 1 ≠ g := by omega
  have X1 := Lib.hid (Below.wk (g := g) B1.out)
  go_wp2_with (fail)
  refine (l2Two_any g 0 w1 R1.out (by omega)).mono ?_
  rintro e w2 ⟨vs, vt, rfl, hA, hB, hw2, hr2⟩
  have FS2 := hA
  have FT2 := hB
  obtain ⟨ns, os, As, Bs, qs, cas, cbs, Xs, Ys, rfl, _, _, _⟩ := hA.data
  obtain ⟨nt, ot, At, Bt, qt, cat, cbt, Xt, Yt, rfl, _, _, _⟩ := hB.data
  have lD : g < w1.heap.size := R1.out.lt
  have lK : w.heap.size + 1 < w1.heap.size := L1.out.lt
  have K2 := Lib.hid (K1.out.wk hw2 nK)
  have L2 := Lib.hid (L1.out.wk hw2 nK')
  have X2 := Lib.hid (X1.out.trans hw2)
  have S2 := hw2.size
  clear hA hB hw2
  have cK20 := K2.out.cell 0
  have cK21 := K2.out.cell 1
  have cK22 := K2.out.cell 2
  have cK23 := K2.out.cell 3
  have fK20 := K2.out.frozen 0
  have fK21 := K2.out.frozen 1
  have fK22 := K2.out.frozen 2
  have fK23 := K2.out.frozen 3
  have cL20 := L2.out.cell 0
  have cL21 := L2.out.cell 1
  have cL22 := L2.out.cell 2
  have cL23 := L2.out.cell 3
  have fL20 := L2.out.frozen 0
  have fL21 := L2.out.frozen 1
  have fL22 := L2.out.frozen 2
  have fL23 := L2.out.frozen 3
  simp at cK20 cK21 cK22 cK23 cL20 cL21 cL22 cL23
  obtain ⟨Q, hQ⟩ : ∃ Q, store4 (store4 w2 w.heap.size (.int .i64 ns) (.int .i64 os) (.slice As qs cas) (.slice Bs qs cbs)) (w.heap.size + 1) (.int .i64 nt) (.int .i64 ot) (.slice At qt cat) (.slice Bt qt cbt) = Q := ⟨_, rfl⟩
  have K9 := Lib.hid (show Blk Q w.heap.size 25 #[.int .i64 ns, .int .i64 os, .slice As qs cas, .slice Bs qs cbs] by subst hQ; exact store4_farW (store4_blk K2.out) (by omega))
  have L9 := Lib.hid (show Blk Q (w.heap.size + 1) 25 #[.int .i64 nt, .int .i64 ot, .slice At qt cat, .slice Bt qt cbt] by subst hQ; exact store4_blk (store4_farW L2.out (by omega)))
  have bQ : Below w.heap.size w2 Q := by subst hQ; exact store4_below (store4_below (Below.refl _ _) (Nat.le_refl _)) (by omega)
  have FS9 := Lib.hid (show AnyR w1.heap.size Q (.agg #[.int .i64 ns, .int .i64 os, .slice As qs cas, .slice Bs qs cbs]) by subst hQ; exact (FS2.store (by omega)).store (by omega))
  have FT9 := Lib.hid (show AnyR w1.heap.size Q (.agg #[.int .i64 nt, .int .i64 ot, .slice At qt cat, .slice Bt qt cbt]) by subst hQ; exact (FT2.store (by omega)).store (by omega))
  have X9 := Lib.hid ((X2.out.below (by omega) (Nat.le_refl _)).trans bQ)
  unfold store4 at hQ
  clear bQ
  go_wp2_with (fail)
  try rw [hQ]
  refine bodyPost_ret (v := .tuple #[.agg #[.int .i64 ns, .int .i64 os, .slice As qs cas, .slice Bs qs cbs], .agg #[.int .i64 nt, .int .i64 ot, .slice At qt cat, .slice Bt qt cbt]]) ?_ rfl ⟨_, _, rfl, FS9.out.lower (by omega), FT9.out.lower (by omega), X9.out⟩
  exact results_cell_cell (fn := Try.f28) rfl _ _ w.heap.size (w.heap.size + 1) 25 _ _ _ rfl rfl K9.out L9.out Try.underlying25 rfl (by kernel_rfl) (by kernel_rfl)

set_option maxHeartbeats 4000000 in
theorem drawPartOf_any (A : Option Addr) (n c : Nat) (w : World) (hb : Byts w w.heap.size A n) (hn : n ≤ 1048576) (hc : n ≤ c) (hc2 : c ≤ 9223372036854775807) :
    Calls Try.prog 35 #[.slice A n c] w fun e w' => ∃ (v v' z : Value) (a : Int), e = .returned (.tuple #[v, v', .int .i64 a, z]) ∧ BoolV z ∧ Wrd a ∧ AnyR w.heap.size w' v ∧ AnyR w.heap.size w' v' ∧ Below w.heap.size w w' := by
  obtain ⟨W, hW⟩ : ∃ W, (w.alloc (.cells #[.int .i64 0, .int .i64 0, .slice none 0 0, .slice none 0 0] 25)).alloc (.cells #[.int .i64 0, .int .i64 0, .slice none 0 0, .slice none 0 0] 25) = W := ⟨_, rfl⟩
  have hs : W.heap.size = w.heap.size + 1 + 1 := by subst hW; simp
  have bW : Below w.heap.size w W := by subst hW; exact ((Below.refl _ _).alloc (Nat.le_refl _) _).alloc (by simp) _
  have kP : Blk W w.heap.size 25 #[.int .i64 0, .int .i64 0, .slice none 0 0, .slice none 0 0] := by subst hW; exact (Blk.new w _ _).alloc _
  have kZ : Blk W (w.heap.size + 1) 25 #[.int .i64 0, .int .i64 0, .slice none 0 0, .slice none 0 0] := by
    subst hW
    have := Blk.new (w.alloc (.cells #[.int .i64 0, .int .i64 0, .slice none 0 0, .slice none 0 0] 25)) 25 #[.int .i64 0, .int .i64 0, .slice none 0 0, .slice none 0 0]
    rw [World.size_alloc] at this
    exact this
  have K0 := Lib.hid kP
  have L0 := Lib.hid kZ
  have HB := Lib.hid (hb.grow bW)
  have B0 := Lib.hid bW
  clear bW kP kZ
  go_enter Try.func35, Try.ntmps35
  go_upto_region 1 with (fail)
  clear hW
  go_wp2_with (fail)
  refine (l13Open_any A n c W HB.out (by omega) hc hc2).mono ?_
  rintro e w1 ⟨rfl, hb1, hr1, hlt1⟩
  obtain ⟨g, hg⟩ : ∃ g, W.heap.size = g := ⟨_, rfl⟩
  rw [hg] at hr1 hlt1 ⊢
  have hgw : w.heap.size + 1 < g := by omega
  have K1 := Lib.hid (K0.out.below hb1 (by omega))
  have L1 := Lib.hid (L0.out.below hb1 (by omega))
  have B1 := Lib.hid (B0.out.trans (hb1.mono (by omega)))
  have R1 := Lib.hid hr1
  clear hb1 hr1 hg hs
  have nK : w.heap.size ≠ g := by omega
  have nK' : w.heap.size + 1 ≠ g := by omega
  have X1 := Lib.hid (Below.wk (g := g) B1.out)
  go_wp2_with (fail)
  refine (l2Two_any g 0 w1 R1.out (by omega)).mono ?_
  rintro e w2 ⟨vs, vt, rfl, hA, hB, hw2, hr2⟩
  have FS2 := hA
  have FT2 := hB
  obtain ⟨ns, os, As, Bs, qs, cas, cbs, Xs, Ys, rfl, _, _, _⟩ := hA.data
  obtain ⟨nt, ot, At, Bt, qt, cat, cbt, Xt, Yt, rfl, _, _, _⟩ := hB.data
  have lD : g < w1.heap.size := R1.out.lt
  have lK : w.heap.size + 1 < w1.heap.size := L1.out.lt
  have K2 := Lib.hid (K1.out.wk hw2 nK)
  have L2 := Lib.hid (L1.out.wk hw2 nK')
  have X2 := Lib.hid (X1.out.trans hw2)
  have S2 := hw2.size
  clear hA hB hw2
  go_upto_region 3 with (fail)
  obtain ⟨V, hV⟩ : ∃ V, (w2.alloc (.cells #[.int .i64 ns, .int .i64 os, .slice As qs cas, .slice Bs qs cbs] 25)).alloc (.cells #[.int .i64 nt, .int .i64 ot, .slice At qt cat, .slice Bt qt cbt] 25) = V := ⟨_, rfl⟩
  have bV : Below w2.heap.size w2 V := by subst hV; exact ((Below.refl _ _).alloc (Nat.le_refl _) _).alloc (by simp) _
  have kX : Blk V w2.heap.size 25 #[.int .i64 ns, .int .i64 os, .slice As qs cas, .slice Bs qs cbs] := by subst hV; exact (Blk.new w2 _ _).alloc _
  have kZ : Blk V (w2.heap.size + 1) 25 #[.int .i64 nt, .int .i64 ot, .slice At qt cat, .slice Bt qt cbt] := by
    subst hV
    have := Blk.new (w2.alloc (.cells #[.int .i64 ns, .int .i64 os, .slice As qs cas, .slice Bs qs cbs] 25)) 25 #[.int .i64 nt, .int .i64 ot, .slice At qt cat, .slice Bt qt cbt]
    rw [World.size_alloc] at this
    exact this
  obtain ⟨bz, hbz⟩ : ∃ b, b = w2.heap.size + 1 := ⟨_, rfl⟩
  obtain ⟨bx, hbx⟩ : ∃ b, b = w2.heap.size := ⟨_, rfl⟩
  rw [← hbz] at kZ
  rw [← hbx] at kX
  have nX : bx ≠ g := by omega
  have nZ : bz ≠ g := by omega
  have nXK : bx ≠ w.heap.size := by omega
  have nXK' : bx ≠ w.heap.size + 1 := by omega
  have nZK : bz ≠ w.heap.size := by omega
  have nZK' : bz ≠ w.heap.size + 1 := by omega
  have KX := Lib.hid kX
  have KZ := Lib.hid kZ
  have K3 := Lib.hid (K2.out.next bV)
  have L3 := Lib.hid (L2.out.next bV)
  have X3 := Lib.hid (X2.out.trans (Below.wk bV))
  have R3 := Lib.hid (hr2.next bV)
  have FS3 := Lib.hid (FS2.next bV)
  have FT3 := Lib.hid (FT2.next bV)
  have lVV : w1.heap.size ≤ V.heap.size := Nat.le_trans S2 bV.size
  rw [← hbz, ← hbx, hV]
  clear hV bV hbx hbz kX kZ K2 L2 X2 hr2 FS2 FT2 S2
  refine wp_region_makersR (WkT g (goal2 w.heap.size #[.int .i64 ns, .int .i64 os, .slice As qs cas, .slice Bs qs cbs] (w.heap.size + 1) #[.int .i64 nt, .int .i64 ot, .slice At qt cat, .slice Bt qt cbt])) (RdG g (500 + 1400)) 13 (fun i => i == 4 || i == 5 || i == 6 || i == 8 || i == 10 || i == 11) (PartPhi w1.heap.size w.heap.size #[.int .i64 ns, .int .i64 os, .slice As qs cas, .slice Bs qs cbs] (w.heap.size + 1) #[.int .i64 nt, .int .i64 ot, .slice At qt cat, .slice Bt qt cbt]) PartSh part0 probe (by kernel_rfl) (by kernel_rfl)
    (fun w => WkT.refl w) (fun _ _ _ h h' => h.trans h') (fun _ _ h => h.less) (WkT.of (Wk.refl g _).drew) ⟨500, by omega, (R3.out.next (Below.refl _ _).drew).more (by omega)⟩ (fun _ _ _ _ h hw => h.stable hw nK nK' (by omega) lD (by omega) lK) (fun _ _ _ _ h => h.sh) (fun i _ => PartSh_zero i) ?_
  intro W2 hW2 vs2 hvs2
  obtain ⟨y4, e4⟩ := (hvs2 4 rfl).e (.inl rfl)
  obtain ⟨b5, e5⟩ := (hvs2 5 rfl).l rfl
  obtain ⟨y6, e6⟩ := (hvs2 6 rfl).e (.inr (.inl rfl))
  obtain ⟨y8, e8⟩ := (hvs2 8 rfl).e (.inr (.inr rfl))
  have cW : ∃ x, extCR (WkT g (goal2 w.heap.size #[.int .i64 ns, .int .i64 os, .slice As qs cas, .slice Bs qs cbs] (w.heap.size + 1) #[.int .i64 nt, .int .i64 ot, .slice At qt cat, .slice Bt qt cbt])) W2 x := ⟨W2, extCR_of (WkT.refl W2)⟩
  have KX4 := WkT.blk KX.out hW2 nX (goal2_none nXK nXK')
  have x0 := KX4.allT (T := (goal2 w.heap.size #[.int .i64 ns, .int .i64 os, .slice As qs cas, .slice Bs qs cbs] (w.heap.size + 1) #[.int .i64 nt, .int .i64 ot, .slice At qt cat, .slice Bt qt cbt])) nX (goal2_none nXK nXK') 0
  have x1 := KX4.allT (T := (goal2 w.heap.size #[.int .i64 ns, .int .i64 os, .slice As qs cas, .slice Bs qs cbs] (w.heap.size + 1) #[.int .i64 nt, .int .i64 ot, .slice At qt cat, .slice Bt qt cbt])) nX (goal2_none nXK nXK') 1
  have x2 := KX4.allT (T := (goal2 w.heap.size #[.int .i64 ns, .int .i64 os, .slice As qs cas, .slice Bs qs cbs] (w.heap.size + 1) #[.int .i64 nt, .int .i64 ot, .slice At qt cat, .slice Bt qt cbt])) nX (goal2_none nXK nXK') 2
  have x3 := KX4.allT (T := (goal2 w.heap.size #[.int .i64 ns, .int .i64 os, .slice As qs cas, .slice Bs qs cbs] (w.heap.size + 1) #[.int .i64 nt, .int .i64 ot, .slice At qt cat, .slice Bt qt cbt])) nX (goal2_none nXK nXK') 3
  have KZ4 := WkT.blk KZ.out hW2 nZ (goal2_none nZK nZK')
  have z0 := KZ4.allT (T := (goal2 w.heap.size #[.int .i64 ns, .int .i64 os, .slice As qs cas, .slice Bs qs cbs] (w.heap.size + 1) #[.int .i64 nt, .int .i64 ot, .slice At qt cat, .slice Bt qt cbt])) nZ (goal2_none nZK nZK') 0
  have z1 := KZ4.allT (T := (goal2 w.heap.size #[.int .i64 ns, .int .i64 os, .slice As qs cas, .slice Bs qs cbs] (w.heap.size + 1) #[.int .i64 nt, .int .i64 ot, .slice At qt cat, .slice Bt qt cbt])) nZ (goal2_none nZK nZK') 1
  have z2 := KZ4.allT (T := (goal2 w.heap.size #[.int .i64 ns, .int .i64 os, .slice As qs cas, .slice Bs qs cbs] (w.heap.size + 1) #[.int .i64 nt, .int .i64 ot, .slice At qt cat, .slice Bt qt cbt])) nZ (goal2_none nZK nZK') 2
  have z3 := KZ4.allT (T := (goal2 w.heap.size #[.int .i64 ns, .int .i64 os, .slice As qs cas, .slice Bs qs cbs] (w.heap.size + 1) #[.int .i64 nt, .int .i64 ot, .slice At qt cat, .slice Bt qt cbt])) nZ (goal2_none nZK nZK') 3
  simp at x0 x1 x2 x3 z0 z1 z2 z3
  simp only [List.take_succ_cons, List.take_zero, List.drop_succ_cons, List.drop_zero]
  refine wpV_quietR cW 4 0 _ _ (by decide) (by decide) (fun o ho => plain_noEnter (List.all_eq_true.1 (by rfl) o ho)) ?_
  simp only [List.take_succ_cons, List.take_zero, List.drop_succ_cons, List.drop_zero]
  repeat (go_big_quiet_step (fail))
  refine wpQuiet_nil ?_
  refine wpV_make_R rfl rfl (fun x fu hx hI _ => ?_) ?_
  · obtain ⟨jj, hj1, hj2⟩ := hI
    unfold makesAtR
    go_simp
    refine ⟨rfl, (pick_any g jj _ x hj2 (by omega)).mono ?_⟩
    rintro _ x' ⟨z, rfl, h0, h1, hw', hr'⟩
    exact ⟨_, rfl, WkT.of hw', ⟨jj + 1, by omega, hr'⟩, ⟨fun _ => ⟨z, rfl, by unfold Wrd; omega⟩, fun e => absurd e (by decide), fun e => absurd e (by decide), fun e => absurd e (by decide), fun e => absurd e (by decide)⟩⟩
  rw [e4]
  go_simp
  refine wpV_make_R rfl rfl (fun x fu hx hI hd => ?_) ?_
  · obtain ⟨jj, hj1, hj2⟩ := hI
    have hsx : w1.heap.size ≤ x.heap.size := by
      obtain ⟨ux, rfl⟩ := hx
      exact Nat.le_trans lVV (hW2.trans (extR_rel _ _ ux)).size
    obtain ⟨z, hz, hz'⟩ := (hd ⟨4, .data⟩ (by simp) rfl rfl).e (.inl rfl)
    rw [e4] at hz
    injection hz with _ hz
    subst hz
    unfold makesAtR
    go_simp
    exact ⟨WkT.of (Below.wk ((Below.refl _ _).alloc (Nat.le_refl _) _)), ⟨jj, by omega, hj2.next ((Below.refl _ _).alloc (Nat.le_refl _) _)⟩, ⟨fun e => absurd e (by decide), fun _ => ⟨_, _, rfl, hz', hsx, Blk.new x _ _⟩, fun e => absurd e (by decide), fun e => absurd e (by decide), fun e => absurd e (by decide)⟩⟩
  rw [e5]
  go_simp
  refine wpV_make_R rfl rfl (fun x fu hx hI hd => ?_) ?_
  · obtain ⟨jj, hj1, hj2⟩ := hI
    obtain ⟨y, b5', h5, hy, hD5, hB5⟩ := (hd ⟨5, .data⟩ (by simp) rfl rfl).l rfl
    rw [e5] at h5
    injection h5 with h5
    injection h5 with h5
    injection h5 with h5
    subst h5
    unfold makesAtR
    go_simp
    refine ⟨rfl, (num_any g jj _ 6 6 _ [y, 0, 1, 5, -1, 16] x hj2 (by omega) (ints_blk (l := [y, 0, 1, 5, -1, 16]) hB5 rfl) (fun a ha => by injection ha with ha; subst ha; show b5 ≠ g; omega) (by omega) (by omega)).mono ?_⟩
    rintro _ x' ⟨j, hj, rfl, hw', hr'⟩
    have hx : Wrd ([y, 0, 1, 5, -1, 16][j]?.getD 0) := wrd_get (by
      intro y' hy'
      simp only [List.mem_cons, List.not_mem_nil, or_false] at hy'
      unfold Wrd at *
      omega)
    exact ⟨_, rfl, WkT.of hw', ⟨jj + 1, by omega, hr'⟩, ⟨fun e => absurd e (by decide), fun e => absurd e (by decide), fun _ => ⟨_, rfl, hx⟩, fun e => absurd e (by decide), fun e => absurd e (by decide)⟩⟩
  rw [e6]
  go_simp
  refine wpV_quietR cW 1 _ _ _ (by decide) (by decide) (fun o ho => plain_noEnter (List.all_eq_true.1 (by rfl) o ho)) ?_
  simp only [List.take_succ_cons, List.take_zero, List.drop_succ_cons, List.drop_zero]
  repeat (go_big_quiet_step (fail))
  refine wpQuiet_nil ?_
  refine wpV_make_R rfl rfl (fun x fu hx hI _ => ?_) ?_
  · obtain ⟨jj, hj1, hj2⟩ := hI
    unfold makesAtR
    go_simp
    refine ⟨rfl, (pick_any g jj _ x hj2 (by omega)).mono ?_⟩
    rintro _ x' ⟨z, rfl, h0, h1, hw', hr'⟩
    exact ⟨_, rfl, WkT.of hw', ⟨jj + 1, by omega, hr'⟩, ⟨fun _ => ⟨z, rfl, by unfold Wrd; omega⟩, fun e => absurd e (by decide), fun e => absurd e (by decide), fun e => absurd e (by decide), fun e => absurd e (by decide)⟩⟩
  rw [e8]
  go_simp
  refine wpV_quietR cW 1 _ _ _ (by decide) (by decide) (fun o ho => plain_noEnter (List.all_eq_true.1 (by rfl) o ho)) ?_
  simp only [List.take_succ_cons, List.take_zero, List.drop_succ_cons, List.drop_zero]
  repeat (go_big_quiet_step (fail))
  refine wpQuiet_nil ?_
  refine wpV_make_R rfl rfl (fun x fu hx hI _ => ?_) ?_
  · obtain ⟨ux, rfl⟩ := hx
    obtain ⟨jj, hj1, hj2⟩ := hI
    rcases WkT.goal K3.out (hW2.trans (extR_rel _ _ ux)) nK goal2_fst with hz | hz
    all_goals
      unfold makesAtR
      rw [run_store4 _ _ rfl rfl rfl hz]
      exact ⟨WkT.store hz goal2_fst, ⟨jj, by omega, hj2.store hz (noByte4 _ _ _ _ _ _ _ _) nK⟩, ⟨fun e => absurd e (by decide), fun e => absurd e (by decide), fun e => absurd e (by decide), fun _ => store4_blk hz, fun e => absurd e (by decide)⟩⟩
  go_simp
  refine wpV_make_R rfl rfl (fun x fu hx hI _ => ?_) ?_
  · obtain ⟨ux, rfl⟩ := hx
    obtain ⟨jj, hj1, hj2⟩ := hI
    rcases WkT.goal L3.out (hW2.trans (extR_rel _ _ ux)) nK' (goal2_snd (by omega)) with hz | hz
    all_goals
      unfold makesAtR
      rw [run_store4 _ _ rfl rfl rfl hz]
      exact ⟨WkT.store hz (goal2_snd (by omega)), ⟨jj, by omega, hj2.store hz (noByte4 _ _ _ _ _ _ _ _) nK'⟩, ⟨fun e => absurd e (by decide), fun e => absurd e (by decide), fun e => absurd e (by decide), fun e => absurd e (by decide), fun _ => store4_blk hz⟩⟩
  go_simp
  refine wpV_quietR cW 1 _ _ _ (by decide) (by decide) (fun o ho => plain_noEnter (List.all_eq_true.1 (by rfl) o ho)) ?_
  simp only [List.take_succ_cons, List.take_zero, List.drop_succ_cons, List.drop_zero]
  repeat (go_big_quiet_step (fail))
  refine wpQuiet_nil ?_
  refine wpV_nilR ?_
  intro w9 hw9 hI9 hf9
  obtain ⟨y6', e6', hy6⟩ := (hf9 6 (by omega) (by decide)).n rfl
  rw [e6] at e6'
  injection e6' with _ e6'
  subst e6'
  have H6 := Lib.hid hy6
  have K9 := Lib.hid ((hf9 10 (by omega) (by decide)).p rfl)
  have L9 := Lib.hid ((hf9 11 (by omega) (by decide)).q rfl)
  have X9 := Lib.hid (X3.out.onT hw9 (fun k hk => goal2_none (by omega) (by omega)))
  have FS9 := Lib.hid (FS3.out.wkT hw9 lD (fun k hk => goal2_none (by omega) (by omega)))
  have FT9 := Lib.hid (FT3.out.wkT hw9 lD (fun k hk => goal2_none (by omega) (by omega)))
  clear hw9 hI9 hvs2 hf9 x0 x1 x2 x3 z0 z1 z2 z3 cW hW2 KX4 KZ4 hy6 e4 e5 e6 e8
  go_wp2_with (fail)
  refine bodyPost_ret (v := .tuple #[.agg #[.int .i64 ns, .int .i64 os, .slice As qs cas, .slice Bs qs cbs], .agg #[.int .i64 nt, .int .i64 ot, .slice At qt cat, .slice Bt qt cbt], .int .i64 y6, .bool (y8 == 0)]) ?_ rfl ⟨_, _, _, _, rfl, ⟨_, rfl⟩, H6.out, FS9.out.lower (by omega), FT9.out.lower (by omega), X9.out.below (by omega) (Nat.le_refl _)⟩
  exact results_cells_two (fn := Try.f35) rfl _ _ w.heap.size (w.heap.size + 1) 25 _ _ _ _ _ rfl rfl rfl rfl K9.out L9.out Try.underlying25 rfl (by kernel_rfl) (by kernel_rfl)

set_option maxHeartbeats 4000000 in
theorem drawPairOf_any (A : Option Addr) (n c : Nat) (w : World) (hb : Byts w w.heap.size A n) (hn : n ≤ 1048576) (hc : n ≤ c) (hc2 : c ≤ 9223372036854775807) :
    Calls Try.prog 37 #[.slice A n c] w fun e w' => ∃ (v v' : Value) (a b : Int), e = .returned (.tuple #[v, v', .int .i64 a, .int .i64 b]) ∧ Wrd a ∧ Wrd b ∧ AnyR w.heap.size w' v ∧ AnyR w.heap.size w' v' ∧ Below w.heap.size w w' := by
  obtain ⟨W, hW⟩ : ∃ W, (w.alloc (.cells #[.int .i64 0, .int .i64 0, .slice none 0 0, .slice none 0 0] 25)).alloc (.cells #[.int .i64 0, .int .i64 0, .slice none 0 0, .slice none 0 0] 25) = W := ⟨_, rfl⟩
  have hs : W.heap.size = w.heap.size + 1 + 1 := by subst hW; simp
  have bW : Below w.heap.size w W := by subst hW; exact ((Below.refl _ _).alloc (Nat.le_refl _) _).alloc (by simp) _
  have kP : Blk W w.heap.size 25 #[.int .i64 0, .int .i64 0, .slice none 0 0, .slice none 0 0] := by subst hW; exact (Blk.new w _ _).alloc _
  have kZ : Blk W (w.heap.size + 1) 25 #[.int .i64 0, .int .i64 0, .slice none 0 0, .slice none 0 0] := by
    subst hW
    have := Blk.new (w.alloc (.cells #[.int .i64 0, .int .i64 0, .slice none 0 0, .slice none 0 0] 25)) 25 #[.int .i64 0, .int .i64 0, .slice none 0 0, .slice none 0 0]
    rw [World.size_alloc] at this
    exact this
  have K0 := Lib.hid kP
  have L0 := Lib.hid kZ
  have HB := Lib.hid (hb.grow bW)
  have B0 := Lib.hid bW
  clear bW kP kZ
  go_enter Try.func37, Try.ntmps37
  go_upto_region 1 with (fail)
  clear hW
  go_wp2_with (fail)
  refine (l13Open_any A n c W HB.out (by omega) hc hc2).mono ?_
  rintro e w1 ⟨rfl, hb1, hr1, hlt1⟩
  obtain ⟨g, hg⟩ : ∃ g, W.heap.size = g := ⟨_, rfl⟩
  rw [hg] at hr1 hlt1 ⊢
  have hgw : w.heap.size + 1 < g := by omega
  have K1 := Lib.hid (K0.out.below hb1 (by omega))
  have L1 := Lib.hid (L0.out.below hb1 (by omega))
  have B1 := Lib.hid (B0.out.trans (hb1.mono (by omega)))
  have R1 := Lib.hid hr1
  clear hb1 hr1 hg hs
  have nK : w.heap.size ≠ g := by omega
  have nK' : w.heap.size + 1 ≠ g := by omega
  have X1 := Lib.hid (Below.wk (g := g) B1.out)
  go_wp2_with (fail)
  refine (l2Two_any g 0 w1 R1.out (by omega)).mono ?_
  rintro e w2 ⟨vs, vt, rfl, hA, hB, hw2, hr2⟩
  have FS2 := hA
  have FT2 := hB
  obtain ⟨ns, os, As, Bs, qs, cas, cbs, Xs, Ys, rfl, _, _, _⟩ := hA.data
  obtain ⟨nt, ot, At, Bt, qt, cat, cbt, Xt, Yt, rfl, _, _, _⟩ := hB.data
  have lD : g < w1.heap.size := R1.out.lt
  have lK : w.heap.size + 1 < w1.heap.size := L1.out.lt
  have K2 := Lib.hid (K1.out.wk hw2 nK)
  have L2 := Lib.hid (L1.out.wk hw2 nK')
  have X2 := Lib.hid (X1.out.trans hw2)
  have S2 := hw2.size
  clear hA hB hw2
  go_upto_region 3 with (fail)
  obtain ⟨V, hV⟩ : ∃ V, (w2.alloc (.cells #[.int .i64 ns, .int .i64 os, .slice As qs cas, .slice Bs qs cbs] 25)).alloc (.cells #[.int .i64 nt, .int .i64 ot, .slice At qt cat, .slice Bt qt cbt] 25) = V := ⟨_, rfl⟩
  have bV : Below w2.heap.size w2 V := by subst hV; exact ((Below.refl _ _).alloc (Nat.le_refl _) _).alloc (by simp) _
  have kX : Blk V w2.heap.size 25 #[.int .i64 ns, .int .i64 os, .slice As qs cas, .slice Bs qs cbs] := by subst hV; exact (Blk.new w2 _ _).alloc _
  have kZ : Blk V (w2.heap.size + 1) 25 #[.int .i64 nt, .int .i64 ot, .slice At qt cat, .slice Bt qt cbt] := by
    subst hV
    have := Blk.new (w2.alloc (.cells #[.int .i64 ns, .int .i64 os, .slice As qs cas, .slice Bs qs cbs] 25)) 25 #[.int .i64 nt, .int .i64 ot, .slice At qt cat, .slice Bt qt cbt]
    rw [World.size_alloc] at this
    exact this
  obtain ⟨bz, hbz⟩ : ∃ b, b = w2.heap.size + 1 := ⟨_, rfl⟩
  obtain ⟨bx, hbx⟩ : ∃ b, b = w2.heap.size := ⟨_, rfl⟩
  rw [← hbz] at kZ
  rw [← hbx] at kX
  have nX : bx ≠ g := by omega
  have nZ : bz ≠ g := by omega
  have nXK : bx ≠ w.heap.size := by omega
  have nXK' : bx ≠ w.heap.size + 1 := by omega
  have nZK : bz ≠ w.heap.size := by omega
  have nZK' : bz ≠ w.heap.size + 1 := by omega
  have KX := Lib.hid kX
  have KZ := Lib.hid kZ
  have K3 := Lib.hid (K2.out.next bV)
  have L3 := Lib.hid (L2.out.next bV)
  have X3 := Lib.hid (X2.out.trans (Below.wk bV))
  have R3 := Lib.hid (hr2.next bV)
  have FS3 := Lib.hid (FS2.next bV)
  have FT3 := Lib.hid (FT2.next bV)
  have lVV : w1.heap.size ≤ V.heap.size := Nat.le_trans S2 bV.size
  rw [← hbz, ← hbx, hV]
  clear hV bV hbx hbz kX kZ K2 L2 X2 hr2 FS2 FT2 S2
  have c0 := KX.out.cell 0
  have c1 := KX.out.cell 1
  have c2 := KX.out.cell 2
  have c3 := KX.out.cell 3
  simp at c0 c1 c2 c3
  go_wp2_with (fail)
  refine (l1Element_any g 500 ns os As Bs qs cas qs cbs V (R3.out.more (by omega)) (by omega)).mono ?_
  rintro e w4 ⟨a, rfl, ha, hw4, hr4⟩
  have Ha := Lib.hid ha
  have K4 := Lib.hid (K3.out.wk hw4 nK)
  have L4 := Lib.hid (L3.out.wk hw4 nK')
  have X4 := Lib.hid (X3.out.trans hw4)
  have R4 := Lib.hid hr4
  have FS4 := Lib.hid (FS3.out.wk hw4 lD)
  have FT4 := Lib.hid (FT3.out.wk hw4 lD)
  have KY := Lib.hid (KX.out.wk hw4 nX)
  have KU := Lib.hid (KZ.out.wk hw4 nZ)
  clear hw4 hr4 ha c0 c1 c2 c3
  go_upto_region 4 with (fail)
  refine wp_region_makersR (WkT g (goal2 w.heap.size #[.int .i64 ns, .int .i64 os, .slice As qs cas, .slice Bs qs cbs] (w.heap.size + 1) #[.int .i64 nt, .int .i64 ot, .slice At qt cat, .slice Bt qt cbt])) (RdG g (502 + 1000)) 9 (fun i => i == 5 || i == 6 || i == 7) (PairPhi w.heap.size #[.int .i64 ns, .int .i64 os, .slice As qs cas, .slice Bs qs cbs] (w.heap.size + 1) #[.int .i64 nt, .int .i64 ot, .slice At qt cat, .slice Bt qt cbt]) PairSh (fun _ => .int .i64 0) probe (by kernel_rfl) (by kernel_rfl)
    (fun w => WkT.refl w) (fun _ _ _ h h' => h.trans h') (fun _ _ h => h.less) (WkT.of (Wk.refl g _).drew) ⟨502, by omega, R4.out.next (Below.refl _ _).drew⟩ (fun _ _ _ _ h hw => ⟨h.n, fun e => WkT.done (h.p e) hw nK goal2_fst, fun e => WkT.done (h.q e) hw nK' (goal2_snd (by omega))⟩) (fun _ _ _ _ h => ⟨h.n⟩) (fun i _ => PairSh_zero i) ?_
  intro W2 hW2 vs2 hvs2
  obtain ⟨y5, e5, hy5⟩ := (hvs2 5 rfl).n rfl
  have cW : ∃ x, extCR (WkT g (goal2 w.heap.size #[.int .i64 ns, .int .i64 os, .slice As qs cas, .slice Bs qs cbs] (w.heap.size + 1) #[.int .i64 nt, .int .i64 ot, .slice At qt cat, .slice Bt qt cbt])) W2 x := ⟨W2, extCR_of (WkT.refl W2)⟩
  have KX4 := WkT.blk KY.out hW2 nX (goal2_none nXK nXK')
  have x0 := KX4.allT (T := (goal2 w.heap.size #[.int .i64 ns, .int .i64 os, .slice As qs cas, .slice Bs qs cbs] (w.heap.size + 1) #[.int .i64 nt, .int .i64 ot, .slice At qt cat, .slice Bt qt cbt])) nX (goal2_none nXK nXK') 0
  have x1 := KX4.allT (T := (goal2 w.heap.size #[.int .i64 ns, .int .i64 os, .slice As qs cas, .slice Bs qs cbs] (w.heap.size + 1) #[.int .i64 nt, .int .i64 ot, .slice At qt cat, .slice Bt qt cbt])) nX (goal2_none nXK nXK') 1
  have x2 := KX4.allT (T := (goal2 w.heap.size #[.int .i64 ns, .int .i64 os, .slice As qs cas, .slice Bs qs cbs] (w.heap.size + 1) #[.int .i64 nt, .int .i64 ot, .slice At qt cat, .slice Bt qt cbt])) nX (goal2_none nXK nXK') 2
  have x3 := KX4.allT (T := (goal2 w.heap.size #[.int .i64 ns, .int .i64 os, .slice As qs cas, .slice Bs qs cbs] (w.heap.size + 1) #[.int .i64 nt, .int .i64 ot, .slice At qt cat, .slice Bt qt cbt])) nX (goal2_none nXK nXK') 3
  have KZ4 := WkT.blk KU.out hW2 nZ (goal2_none nZK nZK')
  have z0 := KZ4.allT (T := (goal2 w.heap.size #[.int .i64 ns, .int .i64 os, .slice As qs cas, .slice Bs qs cbs] (w.heap.size + 1) #[.int .i64 nt, .int .i64 ot, .slice At qt cat, .slice Bt qt cbt])) nZ (goal2_none nZK nZK') 0
  have z1 := KZ4.allT (T := (goal2 w.heap.size #[.int .i64 ns, .int .i64 os, .slice As qs cas, .slice Bs qs cbs] (w.heap.size + 1) #[.int .i64 nt, .int .i64 ot, .slice At qt cat, .slice Bt qt cbt])) nZ (goal2_none nZK nZK') 1
  have z2 := KZ4.allT (T := (goal2 w.heap.size #[.int .i64 ns, .int .i64 os, .slice As qs cas, .slice Bs qs cbs] (w.heap.size + 1) #[.int .i64 nt, .int .i64 ot, .slice At qt cat, .slice Bt qt cbt])) nZ (goal2_none nZK nZK') 2
  have z3 := KZ4.allT (T := (goal2 w.heap.size #[.int .i64 ns, .int .i64 os, .slice As qs cas, .slice Bs qs cbs] (w.heap.size + 1) #[.int .i64 nt, .int .i64 ot, .slice At qt cat, .slice Bt qt cbt])) nZ (goal2_none nZK nZK') 3
  simp at x0 x1 x2 x3 z0 z1 z2 z3
  simp only [List.take_succ_cons, List.take_zero, List.drop_succ_cons, List.drop_zero]
  refine wpV_quietR cW 5 0 _ _ (by decide) (by decide) (fun o ho => plain_noEnter (List.all_eq_true.1 (by rfl) o ho)) ?_
  simp only [List.take_succ_cons, List.take_zero, List.drop_succ_cons, List.drop_zero]
  repeat (go_big_quiet_step (fail))
  refine wpQuiet_nil ?_
  refine wpV_make_R rfl rfl (fun x fu hx hI _ => ?_) ?_
  · obtain ⟨jj, hj1, hj2⟩ := hI
    unfold makesAtR
    go_simp
    refine ⟨rfl, (l1Element_any g jj nt ot At Bt qt cat qt cbt x hj2 (by omega)).mono ?_⟩
    rintro _ x' ⟨z, rfl, hz, hw', hr'⟩
    exact ⟨_, rfl, WkT.of hw', ⟨jj + 2, by omega, hr'⟩, ⟨fun _ => ⟨z, rfl, hz⟩, fun e => absurd e (by decide), fun e => absurd e (by decide)⟩⟩
  rw [e5]
  go_simp
  refine wpV_make_R rfl rfl (fun x fu hx hI _ => ?_) ?_
  · obtain ⟨ux, rfl⟩ := hx
    obtain ⟨jj, hj1, hj2⟩ := hI
    rcases WkT.goal K4.out (hW2.trans (extR_rel _ _ ux)) nK goal2_fst with hz | hz
    all_goals
      unfold makesAtR
      rw [run_store4 _ _ rfl rfl rfl hz]
      exact ⟨WkT.store hz goal2_fst, ⟨jj, by omega, hj2.store hz (noByte4 _ _ _ _ _ _ _ _) nK⟩, ⟨fun e => absurd e (by decide), fun _ => store4_blk hz, fun e => absurd e (by decide)⟩⟩
  go_simp
  refine wpV_make_R rfl rfl (fun x fu hx hI _ => ?_) ?_
  · obtain ⟨ux, rfl⟩ := hx
    obtain ⟨jj, hj1, hj2⟩ := hI
    rcases WkT.goal L4.out (hW2.trans (extR_rel _ _ ux)) nK' (goal2_snd (by omega)) with hz | hz
    all_goals
      unfold makesAtR
      rw [run_store4 _ _ rfl rfl rfl hz]
      exact ⟨WkT.store hz (goal2_snd (by omega)), ⟨jj, by omega, hj2.store hz (noByte4 _ _ _ _ _ _ _ _) nK'⟩, ⟨fun e => absurd e (by decide), fun e => absurd e (by decide), fun _ => store4_blk hz⟩⟩
  go_simp
  refine wpV_quietR cW 1 _ _ _ (by decide) (by decide) (fun o ho => plain_noEnter (List.all_eq_true.1 (by rfl) o ho)) ?_
  simp only [List.take_succ_cons, List.take_zero, List.drop_succ_cons, List.drop_zero]
  repeat (go_big_quiet_step (fail))
  refine wpQuiet_nil ?_
  refine wpV_nilR ?_
  intro w9 hw9 hI9 hf9
  have H5 := Lib.hid hy5
  have K9 := Lib.hid ((hf9 6 (by omega) (by decide)).p rfl)
  have L9 := Lib.hid ((hf9 7 (by omega) (by decide)).q rfl)
  have X9 := Lib.hid (X4.out.onT hw9 (fun k hk => goal2_none (by omega) (by omega)))
  have FS9 := Lib.hid (FS4.out.wkT hw9 lD (fun k hk => goal2_none (by omega) (by omega)))
  have FT9 := Lib.hid (FT4.out.wkT hw9 lD (fun k hk => goal2_none (by omega) (by omega)))
  clear hw9 hI9 hvs2 hf9 x0 x1 x2 x3 z0 z1 z2 z3 cW hW2 KX4 KZ4 hy5 e5
  go_wp2_with (fail)
  refine bodyPost_ret (v := .tuple #[.agg #[.int .i64 ns, .int .i64 os, .slice As qs cas, .slice Bs qs cbs], .agg #[.int .i64 nt, .int .i64 ot, .slice At qt cat, .slice Bt qt cbt], .int .i64 a, .int .i64 y5]) ?_ rfl ⟨_, _, _, _, rfl, Ha.out, H5.out, FS9.out.lower (by omega), FT9.out.lower (by omega), X9.out.below (by omega) (Nat.le_refl _)⟩
  exact results_cells_two (fn := Try.f37) rfl _ _ w.heap.size (w.heap.size + 1) 25 _ _ _ _ _ rfl rfl rfl rfl K9.out L9.out Try.underlying25 rfl (by kernel_rfl) (by kernel_rfl)


end Go.Proofs.Ytihjnjcfiipcoaa


/- Parts and pairs: plain facts, and the calls by what they need. -/
namespace Go.Proofs.Ytihjnjcfiipcoaa
open Go.RowKit

section
variable {n o n' o' : Int} {X Y X' Y' : List Int}
theorem part_nn {a : Int} {s : Bool} (h : 0 ≤ partV n o X Y n' o' X' Y' a s) : prodB n o X Y n' o' X' Y' = true ∧ inB (n * n') a = true := by
  by_cases hc : prodB n o X Y n' o' X' Y' = true ∧ inB (n * n') a = true
  · exact hc
  · rw [partV_no hc] at h; omega
theorem pair_nn {a b : Int} (h : 0 ≤ pairV n o X Y n' o' X' Y' a b) : prodB n o X Y n' o' X' Y' = true ∧ inB n a = true ∧ inB n' b = true := by
  by_cases hc : prodB n o X Y n' o' X' Y' = true ∧ inB n a = true ∧ inB n' b = true
  · exact hc
  · rw [pairV_no hc] at h; omega
theorem inB_iff {n a : Int} : inB n a = true ↔ 0 ≤ a ∧ a < n := by unfold inB; exact decide_eq_true_iff
/-- Both parts make the element again. -/
theorem part_back {a : Int} {s : Bool} (h : 0 ≤ partV n o X Y n' o' X' Y' a s) : pairV n o X Y n' o' X' Y' (partV n o X Y n' o' X' Y' a false) (partV n o X Y n' o' X' Y' a true) = a := by
  have hc := part_nn h
  obtain ⟨h1, h2, h3, h4, _⟩ := prod_bounds hc.1
  obtain ⟨h5, h6⟩ := inB_iff.1 hc.2
  rw [partV_yes hc, partV_yes hc]
  simp only [Bool.false_eq_true, if_false, if_true]
  have hq : (0 : Int) < n' := by omega
  have k1 : 0 ≤ a / n' := Int.ediv_nonneg h5 (by omega)
  have k2 : a / n' < n := (Int.ediv_lt_iff_lt_mul hq).2 h6
  have k3 : 0 ≤ a % n' := Int.emod_nonneg _ (by omega)
  have k4 : a % n' < n' := Int.emod_lt_of_pos _ hq
  rw [pairV_yes ⟨hc.1, inB_iff.2 ⟨k1, k2⟩, inB_iff.2 ⟨k3, k4⟩⟩, Int.mul_comm]
  exact Int.mul_ediv_add_emod a n'
/-- An element that is made has these parts. -/
theorem pair_parts {a b : Int} (h : 0 ≤ pairV n o X Y n' o' X' Y' a b) : partV n o X Y n' o' X' Y' (pairV n o X Y n' o' X' Y' a b) false = a ∧ partV n o X Y n' o' X' Y' (pairV n o X Y n' o' X' Y' a b) true = b := by
  have hc := pair_nn h
  obtain ⟨h1, h2, h3, h4, _⟩ := prod_bounds hc.1
  obtain ⟨a0, a1⟩ := inB_iff.1 hc.2.1
  obtain ⟨b0, b1⟩ := inB_iff.1 hc.2.2
  rw [pairV_yes hc] at h ⊢
  have hq : (0 : Int) < n' := by omega
  have hin : inB (n * n') (a * n' + b) = true := inB_iff.2 ⟨h, by
    have : (a + 1) * n' ≤ n * n' := Int.mul_le_mul_of_nonneg_right (by omega) (by omega)
    rw [Int.add_mul] at this
    omega⟩
  rw [partV_yes ⟨hc.1, hin⟩, partV_yes ⟨hc.1, hin⟩]
  simp only [Bool.false_eq_true, if_false, if_true]
  constructor
  · rw [Int.add_comm, Int.add_mul_ediv_right _ _ (by omega), Int.ediv_eq_zero_of_lt b0 b1, Int.zero_add]
  · rw [Int.add_comm, Int.add_mul_emod_self_right, Int.emod_eq_of_lt b0 b1]
end

section
variable {n o n' o' : Int} {A B A' B' : Option Addr} {la ca lb cb la' ca' lb' cb' : Nat} {X Y X' Y' : List Int} {w : World}
theorem c_part (h : RIn w A la ca B lb cb X Y) (h' : RIn w A' la' ca' B' lb' cb' X' Y') (a : Int) (s : Bool) {x : Int} (hx : partV n o X Y n' o' X' Y' a s = x) :
    Calls Try.prog 31 #[.agg #[.int .i64 n, .int .i64 o, .slice A la ca, .slice B lb cb], .agg #[.int .i64 n', .int .i64 o', .slice A' la' ca', .slice B' lb' cb'], .int .i64 a, .bool s] w fun e w' => e = .returned (.int .i64 x) ∧ Below w.heap.size w w' := by
  subst hx
  exact partOf_any n o A B la ca lb cb X Y n' o' A' B' la' ca' lb' cb' X' Y' a s w h.hX h.hY h.hla h.hlb h.hca h.hcb h'.hX h'.hY h'.hla h'.hlb h'.hca h'.hcb
theorem cs_part (h : RIn w A la ca B lb cb X Y) (h' : RIn w A' la' ca' B' lb' cb' X' Y') (a : Int) (s : Bool) {x : Int} (hx : partV n o X Y n' o' X' Y' a s = x) :
    Calls Try.prog 36 #[.agg #[.int .i64 n, .int .i64 o, .slice A la ca, .slice B lb cb], .agg #[.int .i64 n', .int .i64 o', .slice A' la' ca', .slice B' lb' cb'], .int .i64 a, .bool s] w fun e w' => e = .returned (.int .i64 x) ∧ Below w.heap.size w w' := by
  subst hx
  exact spartOf_any n o A B la ca lb cb X Y n' o' A' B' la' ca' lb' cb' X' Y' a s w h.hX h.hY h.hla h.hlb h.hca h.hcb h'.hX h'.hY h'.hla h'.hlb h'.hca h'.hcb
theorem c_pair (h : RIn w A la ca B lb cb X Y) (h' : RIn w A' la' ca' B' lb' cb' X' Y') (a b : Int) {x : Int} (hx : pairV n o X Y n' o' X' Y' a b = x) :
    Calls Try.prog 32 #[.agg #[.int .i64 n, .int .i64 o, .slice A la ca, .slice B lb cb], .agg #[.int .i64 n', .int .i64 o', .slice A' la' ca', .slice B' lb' cb'], .int .i64 a, .int .i64 b] w fun e w' => e = .returned (.int .i64 x) ∧ Below w.heap.size w w' := by
  subst hx
  exact pairOf_any n o A B la ca lb cb X Y n' o' A' B' la' ca' lb' cb' X' Y' a b w h.hX h.hY h.hla h.hlb h.hca h.hcb h'.hX h'.hY h'.hla h'.hlb h'.hca h'.hcb
theorem cs_pair (h : RIn w A la ca B lb cb X Y) (h' : RIn w A' la' ca' B' lb' cb' X' Y') (a b : Int) {x : Int} (hx : pairV n o X Y n' o' X' Y' a b = x) :
    Calls Try.prog 38 #[.agg #[.int .i64 n, .int .i64 o, .slice A la ca, .slice B lb cb], .agg #[.int .i64 n', .int .i64 o', .slice A' la' ca', .slice B' lb' cb'], .int .i64 a, .int .i64 b] w fun e w' => e = .returned (.int .i64 x) ∧ Below w.heap.size w w' := by
  subst hx
  exact spairOf_any n o A B la ca lb cb X Y n' o' A' B' la' ca' lb' cb' X' Y' a b w h.hX h.hY h.hla h.hlb h.hca h.hcb h'.hX h'.hY h'.hla h'.hlb h'.hca h'.hcb
end

end Go.Proofs.Ytihjnjcfiipcoaa
