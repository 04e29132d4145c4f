/- PairOf of the reading side. -/
import Derived.Test.YtplligjoegjngaaG7
namespace Go.Proofs.Ytplligjoegjngaa
open Go.RowKit
set_option maxRecDepth 100000

/-- What PairOf returns. -/
noncomputable def pairV (n o : Int) (X Y : List Int) (n' o' : Int) (X' Y' : List Int) (a b : Int) : Int := if prodB n o X Y n' o' X' Y' = true ∧ inB n a = true ∧ inB n' b = true then a * n' + b else -1
theorem pairV_no {n o : Int} {X Y : List Int} {n' o' : Int} {X' Y' : List Int} {a b : Int} (h : ¬ (prodB n o X Y n' o' X' Y' = true ∧ inB n a = true ∧ inB n' b = true)) : pairV n o X Y n' o' X' Y' a b = -1 := if_neg h
theorem pairV_yes {n o : Int} {X Y : List Int} {n' o' : Int} {X' Y' : List Int} {a b : Int} (h : prodB n o X Y n' o' X' Y' = true ∧ inB n a = true ∧ inB n' b = true) : pairV n o X Y n' o' X' Y' a b = a * n' + b := if_pos h
theorem prod_bounds {n o : Int} {X Y : List Int} {n' o' : Int} {X' Y' : List Int} (h : prodB n o X Y n' o' X' Y' = true) : 1 ≤ n ∧ n ≤ 16 ∧ 1 ≤ n' ∧ n' ≤ 16 ∧ validB n o X Y = true ∧ validB n' o' X' Y' = true ∧ n * n' ≤ 16 := by
  unfold prodB at h
  rw [Bool.and_eq_true, Bool.and_eq_true, decide_eq_true_eq] at h
  obtain ⟨⟨h1, h2⟩, h3⟩ := h
  have g1 := h1
  have g2 := h2
  unfold validB at g1 g2
  rw [Bool.and_eq_true] at g1 g2
  obtain ⟨m, e, rfl, rfl, hm, hm', _⟩ := fits_data g1.1
  obtain ⟨q, f, rfl, rfl, hq, hq', _⟩ := fits_data g2.1
  exact ⟨by omega, by omega, by omega, by omega, h1, h2, h3⟩

theorem pair_nums {a b q : Int} (h0 : 0 ≤ a) (h1 : a ≤ 16) (q0 : 1 ≤ q) (q1 : q ≤ 16) (b0 : 0 ≤ b) (b1 : b ≤ 16) : 0 ≤ a * q ∧ a * q ≤ 256 ∧ 0 ≤ a * q + b ∧ a * q + b ≤ 300 := by
  have e1 : 0 ≤ a * q := Int.mul_nonneg h0 (by omega)
  have e2 : a * q ≤ 16 * 16 := Int.mul_le_mul h1 q1 (by omega) (by omega)
  omega

set_option maxHeartbeats 1000000 in
theorem spairOf_any (n o : Int) (A B : Option Addr) (la ca lb cb : Nat) (X Y : List Int) (n' o' : Int) (A' B' : Option Addr) (la' ca' lb' cb' : Nat) (X' Y' : List Int) (a b : Int) (w : World) (hX : Ints w w.heap.size A la X) (hY : Ints w w.heap.size B lb Y) (hla : la ≤ 9223372036854775807) (hlb : lb ≤ 9223372036854775807) (hca : la ≤ ca) (hcb : lb ≤ cb) (hX' : Ints w w.heap.size A' la' X') (hY' : Ints w w.heap.size B' lb' Y') (hla' : la' ≤ 9223372036854775807) (hlb' : lb' ≤ 9223372036854775807) (hca' : la' ≤ ca') (hcb' : lb' ≤ cb') :
    Calls Try.prog 35 #[.agg #[.int .i64 n, .int .i64 o, .slice A la ca, .slice B lb cb], .agg #[.int .i64 n', .int .i64 o', .slice A' la' ca', .slice B' lb' cb'], .int .i64 a, .int .i64 b] w fun e w' => e = .returned (.int .i64 (pairV n o X Y n' o' X' Y' a b)) ∧ Below w.heap.size w w' := by
  obtain ⟨W, hW⟩ : ∃ W, (w.alloc (.cells #[.int .i64 n, .int .i64 o, .slice A la ca, .slice B lb cb] 24)).alloc (.cells #[.int .i64 n', .int .i64 o', .slice A' la' ca', .slice B' lb' cb'] 24) = W := ⟨_, rfl⟩
  have kR : Blk W w.heap.size 24 #[.int .i64 n, .int .i64 o, .slice A la ca, .slice B lb cb] := by
    subst hW; exact (Blk.new w _ _).alloc _
  have kS : Blk W (w.heap.size + 1) 24 #[.int .i64 n', .int .i64 o', .slice A' la' ca', .slice B' lb' cb'] := by
    subst hW
    have := Blk.new (w.alloc (.cells #[.int .i64 n, .int .i64 o, .slice A la ca, .slice B lb cb] 24)) 24 #[.int .i64 n', .int .i64 o', .slice A' la' ca', .slice B' lb' cb']
    rw [World.size_alloc] at this
    exact this
  have bW : Below w.heap.size w W := by
    subst hW
    exact ((Below.refl _ _).alloc (Nat.le_refl _) _).alloc (by simp) _
  have KR := Lib.hid kR
  have KS := Lib.hid kS
  have BW := Lib.hid bW
  have x0 := kR.cell 0
  have x1 := kR.cell 1
  have x2 := kR.cell 2
  have x3 := kR.cell 3
  have y0 := kS.cell 0
  have y1 := kS.cell 1
  have y2 := kS.cell 2
  have y3 := kS.cell 3
  simp at x0 x1 x2 x3 y0 y1 y2 y3
  have IX := Lib.hid (hX.next bW)
  have IY := Lib.hid (hY.next bW)
  have IX' := Lib.hid (hX'.next bW)
  have IY' := Lib.hid (hY'.next bW)
  have HW := Lib.hid hW
  clear kR kS bW hW hX hY hX' hY'
  go_enter Try.func35, Try.ntmps35
  go_upto_region 1 with (fail)
  rw [HW.out]
  go_wp2_with (fail)
  refine (sproduct_any n o A B la ca lb cb X Y n' o' A' B' la' ca' lb' cb' X' Y' W IX.out IY.out hla hlb hca hcb IX'.out IY'.out hla' hlb' hca' hcb').mono ?_
  rintro e1 w1 ⟨v1, rfl, ⟨C1, l1, k1, C2, l2, k2, rfl, _⟩, hb1⟩
  have KR1 := Lib.hid (KR.out.below hb1 KR.out.lt)
  have KS1 := Lib.hid (KS.out.below hb1 KS.out.lt)
  have BW1 := Lib.hid (BW.out.trans (hb1.mono BW.out.size))
  clear hb1 x0 x1 x2 x3 y0 y1 y2 y3
  go_upto_region 2 with (fail)
  obtain ⟨V, hV⟩ : ∃ V, w1.alloc (.cells #[.int .i64 (prN n o X Y n' o' X' Y'), .int .i64 (prO n o X Y n' o' X' Y'), .slice C1 l1 k1, .slice C2 l2 k2] 24) = V := ⟨_, rfl⟩
  have bV : Below w1.heap.size w1 V := by subst hV; exact (Below.refl _ _).alloc (Nat.le_refl _) _
  rw [hV]
  clear hV
  have kR := KR1.out.below bV KR1.out.lt
  have kS := KS1.out.below bV KS1.out.lt
  have KR2 := Lib.hid kR
  have KS2 := Lib.hid kS
  have BV := Lib.hid (BW1.out.trans (bV.mono BW1.out.size))
  have x0 := kR.cell 0
  have y0 := kS.cell 0
  simp at x0 y0
  clear kR kS bV
  cases hp : prodB n o X Y n' o' X' Y'
  · have PV := Lib.hid (pairV_no (a := a) (b := b) (show ¬ (prodB n o X Y n' o' X' Y' = true ∧ inB n a = true ∧ inB n' b = true) by rw [hp]; simp))
    go_wp2_with (fail)
    go_ret
    exact ⟨ret_int PV.out.symm, BV.out⟩
  · obtain ⟨g1, g2, g3, g4, _, _, _⟩ := prod_bounds hp
    have HH := Lib.hid (show wrap64 (n - 1) = n - 1 from IntWalk.wrap64_in _ (by omega))
    have HH' := Lib.hid (show wrap64 (n' - 1) = n' - 1 from IntWalk.wrap64_in _ (by omega))
    obtain ⟨V1, hV1⟩ : ∃ V1, V.alloc (.cells #[.int .i64 a] 3) = V1 := ⟨_, rfl⟩
    have bV1 : Below V.heap.size V V1 := by subst hV1; exact (Below.refl _ _).alloc (Nat.le_refl _) _
    have HE := Lib.hid (show Ints V1 (V.heap.size + 1) (some ⟨V.heap.size, 0, none⟩) 1 [a] by subst hV1; exact ints_one)
    have KR3 := Lib.hid (KR2.out.below bV1 KR2.out.lt)
    have KS3 := Lib.hid (KS2.out.below bV1 KS2.out.lt)
    have BV1 := Lib.hid (BV.out.trans (bV1.mono BV.out.size))
    have xx := KR3.out.cell 0
    have yy := KS3.out.cell 0
    simp at xx yy
    have HV1 := Lib.hid hV1
    clear bV1 hV1
    cases ha : inB n a
    · have PV := Lib.hid (pairV_no (a := a) (b := b) (show ¬ (prodB n o X Y n' o' X' Y' = true ∧ inB n a = true ∧ inB n' b = true) by rw [ha]; simp))
      have EL := Lib.hid (show elB (n - 1) [a] = false by rw [elB_one, ha])
      go_wp2_with (fail)
      rw [HV1.out]
      refine (l1Elements_any n _ _ 1 1 [a] V1 _ HH.out HE.out (by omega)).mono ?_
      rintro e2 w2 ⟨rfl, rfl⟩
      rw [EL.out]
      go_wp2_with (fail)
      go_ret
      exact ⟨ret_int PV.out.symm, BV1.out⟩
    · have EL := Lib.hid (show elB (n - 1) [a] = true by rw [elB_one, ha])
      obtain ⟨V2, hV2⟩ : ∃ V2, V1.alloc (.cells #[.int .i64 b] 3) = V2 := ⟨_, rfl⟩
      have bV2 : Below V1.heap.size V1 V2 := by subst hV2; exact (Below.refl _ _).alloc (Nat.le_refl _) _
      have HF := Lib.hid (show Ints V2 (V1.heap.size + 1) (some ⟨V1.heap.size, 0, none⟩) 1 [b] by subst hV2; exact ints_one)
      have KS4 := Lib.hid (KS3.out.below bV2 KS3.out.lt)
      have BV2 := Lib.hid (BV1.out.trans (bV2.mono BV1.out.size))
      have yz := KS4.out.cell 0
      simp at yz
      have HV2 := Lib.hid hV2
      clear bV2 hV2
      cases hb : inB n' b
      · have PV := Lib.hid (pairV_no (a := a) (b := b) (show ¬ (prodB n o X Y n' o' X' Y' = true ∧ inB n a = true ∧ inB n' b = true) by rw [hb]; simp))
        have EM := Lib.hid (show elB (n' - 1) [b] = false by rw [elB_one, hb])
        go_wp2_with (fail)
        rw [HV1.out]
        refine (l1Elements_any n _ _ 1 1 [a] V1 _ HH.out HE.out (by omega)).mono ?_
        rintro e2 w2 ⟨rfl, rfl⟩
        rw [EL.out]
        go_wp2_with (fail)
        rw [HV2.out]
        refine (l1Elements_any n' _ _ 1 1 [b] V2 _ HH'.out HF.out (by omega)).mono ?_
        rintro e3 w3 ⟨rfl, rfl⟩
        rw [EM.out]
        go_wp2_with (fail)
        go_ret
        exact ⟨ret_int PV.out.symm, BV2.out⟩
      · have PV := Lib.hid (pairV_yes (a := a) (b := b) ⟨hp, ha, hb⟩)
        have EM := Lib.hid (show elB (n' - 1) [b] = true by rw [elB_one, hb])
        have ha' := of_decide_eq_true ha
        have hb' := of_decide_eq_true hb
        obtain ⟨r1, r2, r3, r4⟩ := pair_nums ha'.1 (by omega) g3 g4 hb'.1 (by omega)
        go_wp2_with (fail)
        rw [HV1.out]
        refine (l1Elements_any n _ _ 1 1 [a] V1 _ HH.out HE.out (by omega)).mono ?_
        rintro e2 w2 ⟨rfl, rfl⟩
        rw [EL.out]
        go_wp2_with (fail)
        rw [HV2.out]
        refine (l1Elements_any n' _ _ 1 1 [b] V2 _ HH'.out HF.out (by omega)).mono ?_
        rintro e3 w3 ⟨rfl, rfl⟩
        rw [EM.out]
        go_wp2_with (fail)
        go_ret
        exact ⟨ret_int PV.out.symm, BV2.out⟩

end Go.Proofs.Ytplligjoegjngaa
