
/- When there is a ring of polynomials, by both sides. -/
import Derived.Test.YtocoegekdamlbaaJ3
namespace Go.Proofs.Ytocoegekdamlbaa
open Go.RowKit
set_option maxRecDepth 100000

/-- There is a ring of polynomials over a ring by a polynomial. -/
noncomputable def towB (n o : Int) (X Y Z : List Int) : Bool := validB n o X Y && (decide (1 ≤ Z.length) && (decide (Z.length ≤ 4) && (allB n Z && decide (n.toNat ^ Z.length ≤ 16))))
section
variable {n o : Int} {X Y Z : List Int}
theorem towB_v (h : validB n o X Y = false) : towB n o X Y Z = false := by unfold towB; rw [h]; rfl
theorem towB_1 (h : ¬ 1 ≤ Z.length) : towB n o X Y Z = false := by unfold towB; rw [decide_eq_false h]; simp
theorem towB_4 (h : ¬ Z.length ≤ 4) : towB n o X Y Z = false := by unfold towB; rw [decide_eq_false h]; simp
theorem towB_a (h : allB n Z = false) : towB n o X Y Z = false := by unfold towB; rw [h]; simp
theorem towB_s (h : ¬ n.toNat ^ Z.length ≤ 16) : towB n o X Y Z = false := by unfold towB; rw [decide_eq_false h]; simp
theorem towB_yes (h1 : validB n o X Y = true) (h2 : 1 ≤ Z.length) (h3 : Z.length ≤ 4) (h4 : allB n Z = true) (h5 : n.toNat ^ Z.length ≤ 16) : towB n o X Y Z = true := by
  unfold towB; rw [h1, decide_eq_true h2, decide_eq_true h3, h4, decide_eq_true h5]; rfl
theorem towB_data (h : towB n o X Y Z = true) : validB n o X Y = true ∧ 1 ≤ Z.length ∧ Z.length ≤ 4 ∧ allB n Z = true ∧ n.toNat ^ Z.length ≤ 16 := by
  unfold towB at h
  simp only [Bool.and_eq_true, decide_eq_true_iff] at h
  exact h
theorem valid_size (h : validB n o X Y = true) : ∃ m : Nat, n = m ∧ 1 ≤ m ∧ m ≤ 16 := by
  unfold validB at h
  rw [Bool.and_eq_true] at h
  obtain ⟨m, e, h1, h2, h3, h4, _⟩ := fits_data h.1
  exact ⟨m, h1, h3, h4⟩
end

set_option maxHeartbeats 4000000 in
theorem tvalid_any (n o : Int) (A B F : Option Addr) (la ca lb cb lf cf : Nat) (X Y Z : List Int) (w : World) (hX : Ints w w.heap.size A la X) (hY : Ints w w.heap.size B lb Y) (hF : Ints w w.heap.size F lf Z) (hla : la ≤ 9223372036854775807) (hlb : lb ≤ 9223372036854775807) (hlf : lf ≤ 9223372036854775807) (hca : la ≤ ca) (hcb : lb ≤ cb) :
    Calls Try.prog 53 #[.agg (towV n o A B F la ca lb cb lf cf)] w fun e' w' => e' = .returned (.bool (towB n o X Y Z)) ∧ Below w.heap.size w w' := by
  have hZ := hF.1
  obtain ⟨W, hW⟩ : ∃ W, w.alloc (.cells (towV n o A B F la ca lb cb lf cf) 50) = W := ⟨_, rfl⟩
  have k0 : Blk W w.heap.size 50 (towV n o A B F la ca lb cb lf cf) := by subst hW; exact Blk.new w _ _
  have b0 : Below w.heap.size w W := by subst hW; exact (Below.refl _ _).alloc (Nat.le_refl _) _
  have HX := Lib.hid hX
  have HY := Lib.hid hY
  have HF := Lib.hid hF
  have K0 := Lib.hid k0
  have B0 := Lib.hid b0
  have HW := Lib.hid hW
  have HH := Lib.hid (show wrap64 (n - 1) = hiOf n from rfl)
  have hs0 := k0.lt
  obtain ⟨c0, c1, c2, c3, c4⟩ := blk5 k0
  clear hX hY hF k0 b0 hW
  cases hv : validB n o X Y
  · have hz := Lib.hid (towB_v (Z := Z) hv)
    go_enter Try.func53, Try.ntmps53
    go_wp2_with (fail)
    rw [HW.out]
    go_wp2_with (first
      | (go_at_call 65; (with_reducible refine (valid_any _ _ _ _ _ _ _ _ X Y _ (HX.out.next B0.out) (HY.out.next B0.out) hla hlb hca hcb).mono ?_); rintro e1 w1 ⟨rfl, hb1⟩; have K1 := Lib.hid (K0.out.next hb1); have B1 := Lib.hid (below_step B0.out hb1); clear hb1; clear c0 c1 c2 c3 c4; obtain ⟨c0, c1, c2, c3, c4⟩ := blk5 K1.out)
      | fail)
    go_ret
    exact ⟨ret_bool hz.out.symm, B1.out⟩
  · obtain ⟨m, rfl, hm, hm'⟩ := valid_size hv
    by_cases h1 : 1 ≤ lf
    rotate_left
    · have hz := Lib.hid (towB_1 (n := m) (o := o) (X := X) (Y := Y) (Z := Z) (by omega))
      have tq : ¬ (1 : Int) ≤ (lf : Int) := by omega
      have tr : (lf : Int) < 1 := by omega
      have tl : lf = 0 := by omega
      subst tl
      go_enter Try.func53, Try.ntmps53
      go_wp2_with (fail)
      rw [HW.out]
      go_wp2_with (first
        | (go_at_call 65; (with_reducible refine (valid_any _ _ _ _ _ _ _ _ X Y _ (HX.out.next B0.out) (HY.out.next B0.out) hla hlb hca hcb).mono ?_); rintro e1 w1 ⟨rfl, hb1⟩; have K1 := Lib.hid (K0.out.next hb1); have B1 := Lib.hid (below_step B0.out hb1); clear hb1; clear c0 c1 c2 c3 c4; obtain ⟨c0, c1, c2, c3, c4⟩ := blk5 K1.out)
        | fail)
      go_ret
      exact ⟨ret_bool hz.out.symm, B1.out⟩
    by_cases h4 : lf ≤ 4
    rotate_left
    · have hz := Lib.hid (towB_4 (n := m) (o := o) (X := X) (Y := Y) (Z := Z) (by omega))
      have tp : (1 : Int) ≤ (lf : Int) := by omega
      have tq : ¬ (lf : Int) ≤ 4 := by omega
      have tr : (4 : Int) < (lf : Int) := by omega
      go_enter Try.func53, Try.ntmps53
      go_wp2_with (fail)
      rw [HW.out]
      go_wp2_with (first
        | (go_at_call 65; (with_reducible refine (valid_any _ _ _ _ _ _ _ _ X Y _ (HX.out.next B0.out) (HY.out.next B0.out) hla hlb hca hcb).mono ?_); rintro e1 w1 ⟨rfl, hb1⟩; have K1 := Lib.hid (K0.out.next hb1); have B1 := Lib.hid (below_step B0.out hb1); clear hb1; clear c0 c1 c2 c3 c4; obtain ⟨c0, c1, c2, c3, c4⟩ := blk5 K1.out)
        | fail)
      go_ret
      exact ⟨ret_bool hz.out.symm, B1.out⟩
    have hl4 : lf ≤ 4 := h4
    have tp : (1 : Int) ≤ (lf : Int) := by omega
    have tq : (lf : Int) ≤ 4 := by omega
    cases ha : allB m Z
    · have hz := Lib.hid (towB_a (o := o) (X := X) (Y := Y) ha)
      go_enter Try.func53, Try.ntmps53
      go_wp2_with (fail)
      rw [HW.out]
      go_wp2_with (first
        | (go_at_call 65; (with_reducible refine (valid_any _ _ _ _ _ _ _ _ X Y _ (HX.out.next B0.out) (HY.out.next B0.out) hla hlb hca hcb).mono ?_); rintro e1 w1 ⟨rfl, hb1⟩; have K1 := Lib.hid (K0.out.next hb1); have B1 := Lib.hid (below_step B0.out hb1); clear hb1; clear c0 c1 c2 c3 c4; obtain ⟨c0, c1, c2, c3, c4⟩ := blk5 K1.out)
        | (go_at_call 83; (with_reducible refine (hasAll_any _ _ _ _ _ _ _ _ _ _ _ Z _ (HF.out.next B1.out) hlf).mono ?_); rintro e2 w2 ⟨rfl, hb2⟩; have K2 := Lib.hid (K1.out.next hb2); have B2 := Lib.hid (below_step B1.out hb2); clear hb2; clear c0 c1 c2 c3 c4; obtain ⟨c0, c1, c2, c3, c4⟩ := blk5 K2.out)
        | fail)
      go_ret
      exact ⟨ret_bool hz.out.symm, B2.out⟩
    by_cases hz16 : m ^ lf ≤ 16
    · have hz := Lib.hid (towB_yes hv (by omega) (by omega) ha (by rw [Int.toNat_natCast, hZ]; exact hz16))
      obtain ⟨q, hq⟩ : ∃ q, m ^ lf = q := ⟨_, rfl⟩
      have tz : (q : Int) ≤ 16 := by omega
      have HQ := Lib.hid hq
      clear hz16
      go_enter Try.func53, Try.ntmps53
      go_wp2_with (fail)
      rw [HW.out]
      go_wp2_with (first
        | (go_at_call 65; (with_reducible refine (valid_any _ _ _ _ _ _ _ _ X Y _ (HX.out.next B0.out) (HY.out.next B0.out) hla hlb hca hcb).mono ?_); rintro e1 w1 ⟨rfl, hb1⟩; have K1 := Lib.hid (K0.out.next hb1); have B1 := Lib.hid (below_step B0.out hb1); clear hb1; clear c0 c1 c2 c3 c4; obtain ⟨c0, c1, c2, c3, c4⟩ := blk5 K1.out)
        | (go_at_call 83; (with_reducible refine (hasAll_any _ _ _ _ _ _ _ _ _ _ _ Z _ (HF.out.next B1.out) hlf).mono ?_); rintro e2 w2 ⟨rfl, hb2⟩; have K2 := Lib.hid (K1.out.next hb2); have B2 := Lib.hid (below_step B1.out hb2); clear hb2; clear c0 c1 c2 c3 c4; obtain ⟨c0, c1, c2, c3, c4⟩ := blk5 K2.out)
        | fail)
      refine (tsize_any m o A B F la ca lb cb lf cf _ hm' hl4).mono ?_
      rintro e3 w3 ⟨rfl, hb3⟩
      rw [HQ.out]
      have B3 := Lib.hid (below_step B2.out hb3)
      go_wp2
      go_ret
      exact ⟨ret_bool hz.out.symm, B3.out⟩
    · have hz := Lib.hid (towB_s (n := m) (o := o) (X := X) (Y := Y) (Z := Z) (by rw [Int.toNat_natCast, hZ]; exact hz16))
      obtain ⟨q, hq⟩ : ∃ q, m ^ lf = q := ⟨_, rfl⟩
      have tz : ¬ (q : Int) ≤ 16 := by omega
      have tz2 : (16 : Int) < (q : Int) := by omega
      have HQ := Lib.hid hq
      clear hz16
      go_enter Try.func53, Try.ntmps53
      go_wp2_with (fail)
      rw [HW.out]
      go_wp2_with (first
        | (go_at_call 65; (with_reducible refine (valid_any _ _ _ _ _ _ _ _ X Y _ (HX.out.next B0.out) (HY.out.next B0.out) hla hlb hca hcb).mono ?_); rintro e1 w1 ⟨rfl, hb1⟩; have K1 := Lib.hid (K0.out.next hb1); have B1 := Lib.hid (below_step B0.out hb1); clear hb1; clear c0 c1 c2 c3 c4; obtain ⟨c0, c1, c2, c3, c4⟩ := blk5 K1.out)
        | (go_at_call 83; (with_reducible refine (hasAll_any _ _ _ _ _ _ _ _ _ _ _ Z _ (HF.out.next B1.out) hlf).mono ?_); rintro e2 w2 ⟨rfl, hb2⟩; have K2 := Lib.hid (K1.out.next hb2); have B2 := Lib.hid (below_step B1.out hb2); clear hb2; clear c0 c1 c2 c3 c4; obtain ⟨c0, c1, c2, c3, c4⟩ := blk5 K2.out)
        | fail)
      refine (tsize_any m o A B F la ca lb cb lf cf _ hm' hl4).mono ?_
      rintro e3 w3 ⟨rfl, hb3⟩
      rw [HQ.out]
      have B3 := Lib.hid (below_step B2.out hb3)
      go_wp2
      go_ret
      exact ⟨ret_bool (by rw [hz.out]; exact decide_eq_false (by omega)), B3.out⟩

set_option maxHeartbeats 4000000 in
theorem l2Tower_any (n o : Int) (A B F : Option Addr) (la ca lb cb lf cf : Nat) (X Y Z : List Int) (w : World) (hX : Ints w w.heap.size A la X) (hY : Ints w w.heap.size B lb Y) (hF : Ints w w.heap.size F lf Z) (hla : la ≤ 9223372036854775807) (hlb : lb ≤ 9223372036854775807) (hlf : lf ≤ 9223372036854775807) (hca : la ≤ ca) (hcb : lb ≤ cb) :
    Calls Try.prog 49 #[.agg #[.int .i64 n, .int .i64 o, .slice A la ca, .slice B lb cb], .slice F lf cf] w fun e' w' => e' = .returned (.bool (towB n o X Y Z)) ∧ Below w.heap.size w w' := by
  have hZ := hF.1
  obtain ⟨W, hW⟩ : ∃ W, w.alloc (.cells #[.int .i64 n, .int .i64 o, .slice A la ca, .slice B lb cb] 28) = W := ⟨_, rfl⟩
  have k0 : Blk W w.heap.size 28 #[.int .i64 n, .int .i64 o, .slice A la ca, .slice B lb cb] := by subst hW; exact Blk.new w _ _
  have b0 : Below w.heap.size w W := by subst hW; exact (Below.refl _ _).alloc (Nat.le_refl _) _
  have HX := Lib.hid hX
  have HY := Lib.hid hY
  have HF := Lib.hid hF
  have K0 := Lib.hid k0
  have B0 := Lib.hid b0
  have HW := Lib.hid hW
  have HH := Lib.hid (show wrap64 (n - 1) = hiOf n from rfl)
  have hs0 := k0.lt
  obtain ⟨c0, c1, c2, c3⟩ := blk4 k0
  clear hX hY hF k0 b0 hW
  cases hv : validB n o X Y
  · have hz := Lib.hid (towB_v (Z := Z) hv)
    go_enter Try.func49, Try.ntmps49
    go_wp2_with (fail)
    rw [HW.out]
    go_wp2_with (first
      | (go_at_call 57; (with_reducible refine (specValid_any _ _ _ _ _ _ _ _ X Y _ (HX.out.next B0.out) (HY.out.next B0.out) hla hlb hca hcb).mono ?_); rintro e1 w1 ⟨rfl, hb1⟩; have K1 := Lib.hid (K0.out.next hb1); have B1 := Lib.hid (below_step B0.out hb1); clear hb1; clear c0 c1 c2 c3; obtain ⟨c0, c1, c2, c3⟩ := blk4 K1.out)
      | fail)
    go_ret
    exact ⟨ret_bool hz.out.symm, B1.out⟩
  · obtain ⟨m, rfl, hm, hm'⟩ := valid_size hv
    by_cases h1 : 1 ≤ lf
    rotate_left
    · have hz := Lib.hid (towB_1 (n := m) (o := o) (X := X) (Y := Y) (Z := Z) (by omega))
      have tq : inC (lf : Int) 1 4 = false := inC_false (by omega)
      go_enter Try.func49, Try.ntmps49
      go_wp2_with (fail)
      rw [HW.out]
      go_wp2_with (first
        | (go_at_call 57; (with_reducible refine (specValid_any _ _ _ _ _ _ _ _ X Y _ (HX.out.next B0.out) (HY.out.next B0.out) hla hlb hca hcb).mono ?_); rintro e1 w1 ⟨rfl, hb1⟩; have K1 := Lib.hid (K0.out.next hb1); have B1 := Lib.hid (below_step B0.out hb1); clear hb1; clear c0 c1 c2 c3; obtain ⟨c0, c1, c2, c3⟩ := blk4 K1.out)
        | (go_at_call 82; (with_reducible refine (l1In_any _ _ _ _).mono ?_); rintro e5 w5 ⟨rfl, rfl⟩)
        | fail)
      go_ret
      exact ⟨ret_bool hz.out.symm, B1.out⟩
    by_cases h4 : lf ≤ 4
    rotate_left
    · have hz := Lib.hid (towB_4 (n := m) (o := o) (X := X) (Y := Y) (Z := Z) (by omega))
      have tq : inC (lf : Int) 1 4 = false := inC_false (by omega)
      go_enter Try.func49, Try.ntmps49
      go_wp2_with (fail)
      rw [HW.out]
      go_wp2_with (first
        | (go_at_call 57; (with_reducible refine (specValid_any _ _ _ _ _ _ _ _ X Y _ (HX.out.next B0.out) (HY.out.next B0.out) hla hlb hca hcb).mono ?_); rintro e1 w1 ⟨rfl, hb1⟩; have K1 := Lib.hid (K0.out.next hb1); have B1 := Lib.hid (below_step B0.out hb1); clear hb1; clear c0 c1 c2 c3; obtain ⟨c0, c1, c2, c3⟩ := blk4 K1.out)
        | (go_at_call 82; (with_reducible refine (l1In_any _ _ _ _).mono ?_); rintro e5 w5 ⟨rfl, rfl⟩)
        | fail)
      go_ret
      exact ⟨ret_bool hz.out.symm, B1.out⟩
    have hl4 : lf ≤ 4 := h4
    have tq : inC (lf : Int) 1 4 = true := inC_true (by omega)
    cases ha : allB m Z
    · have hz := Lib.hid (towB_a (o := o) (X := X) (Y := Y) ha)
      have he : elB (hiOf m) Z = false := by rw [hi_valid hv, elB_allB]; exact ha
      go_enter Try.func49, Try.ntmps49
      go_wp2_with (fail)
      rw [HW.out]
      go_wp2_with (first
        | (go_at_call 57; (with_reducible refine (specValid_any _ _ _ _ _ _ _ _ X Y _ (HX.out.next B0.out) (HY.out.next B0.out) hla hlb hca hcb).mono ?_); rintro e1 w1 ⟨rfl, hb1⟩; have K1 := Lib.hid (K0.out.next hb1); have B1 := Lib.hid (below_step B0.out hb1); clear hb1; clear c0 c1 c2 c3; obtain ⟨c0, c1, c2, c3⟩ := blk4 K1.out)
        | (go_at_call 82; (with_reducible refine (l1In_any _ _ _ _).mono ?_); rintro e5 w5 ⟨rfl, rfl⟩)
        | (go_at_call 50; (with_reducible refine (l1Elements_any _ _ _ _ _ Z _ _ HH.out (HF.out.next B1.out) hlf).mono ?_); rintro e2 w2 ⟨rfl, rfl⟩)
        | fail)
      go_ret
      exact ⟨ret_bool hz.out.symm, B1.out⟩
    have he : elB (hiOf m) Z = true := by rw [hi_valid hv, elB_allB]; exact ha
    by_cases hz16 : m ^ lf ≤ 16
    · have hz := Lib.hid (towB_yes hv (by omega) (by omega) ha (by rw [Int.toNat_natCast, hZ]; exact hz16))
      obtain ⟨q, hq⟩ : ∃ q, min (m ^ lf) 17 = q := ⟨_, rfl⟩
      have tz : (q : Int) ≤ 16 := by omega
      have HQ := Lib.hid hq
      clear hz16
      go_enter Try.func49, Try.ntmps49
      go_wp2_with (fail)
      rw [HW.out]
      go_wp2_with (first
        | (go_at_call 57; (with_reducible refine (specValid_any _ _ _ _ _ _ _ _ X Y _ (HX.out.next B0.out) (HY.out.next B0.out) hla hlb hca hcb).mono ?_); rintro e1 w1 ⟨rfl, hb1⟩; have K1 := Lib.hid (K0.out.next hb1); have B1 := Lib.hid (below_step B0.out hb1); clear hb1; clear c0 c1 c2 c3; obtain ⟨c0, c1, c2, c3⟩ := blk4 K1.out)
        | (go_at_call 82; (with_reducible refine (l1In_any _ _ _ _).mono ?_); rintro e5 w5 ⟨rfl, rfl⟩)
        | (go_at_call 50; (with_reducible refine (l1Elements_any _ _ _ _ _ Z _ _ HH.out (HF.out.next B1.out) hlf).mono ?_); rintro e2 w2 ⟨rfl, rfl⟩)
        | fail)
      refine (l2Size_any m o A B F la ca lb cb lf cf _ hm hm' hlf).mono ?_
      rintro e3 w3 ⟨rfl, hb2⟩
      rw [HQ.out]
      have B2 := Lib.hid (below_step B1.out hb2)
      go_wp2
      go_ret
      exact ⟨ret_bool hz.out.symm, B2.out⟩
    · have hz := Lib.hid (towB_s (n := m) (o := o) (X := X) (Y := Y) (Z := Z) (by rw [Int.toNat_natCast, hZ]; exact hz16))
      obtain ⟨q, hq⟩ : ∃ q, min (m ^ lf) 17 = q := ⟨_, rfl⟩
      have tz : ¬ (q : Int) ≤ 16 := by omega
      have tz2 : (16 : Int) < (q : Int) := by omega
      have HQ := Lib.hid hq
      clear hz16
      go_enter Try.func49, Try.ntmps49
      go_wp2_with (fail)
      rw [HW.out]
      go_wp2_with (first
        | (go_at_call 57; (with_reducible refine (specValid_any _ _ _ _ _ _ _ _ X Y _ (HX.out.next B0.out) (HY.out.next B0.out) hla hlb hca hcb).mono ?_); rintro e1 w1 ⟨rfl, hb1⟩; have K1 := Lib.hid (K0.out.next hb1); have B1 := Lib.hid (below_step B0.out hb1); clear hb1; clear c0 c1 c2 c3; obtain ⟨c0, c1, c2, c3⟩ := blk4 K1.out)
        | (go_at_call 82; (with_reducible refine (l1In_any _ _ _ _).mono ?_); rintro e5 w5 ⟨rfl, rfl⟩)
        | (go_at_call 50; (with_reducible refine (l1Elements_any _ _ _ _ _ Z _ _ HH.out (HF.out.next B1.out) hlf).mono ?_); rintro e2 w2 ⟨rfl, rfl⟩)
        | fail)
      refine (l2Size_any m o A B F la ca lb cb lf cf _ hm hm' hlf).mono ?_
      rintro e3 w3 ⟨rfl, hb2⟩
      rw [HQ.out]
      have B2 := Lib.hid (below_step B1.out hb2)
      go_wp2
      go_ret
      exact ⟨ret_bool (by rw [hz.out]; exact decide_eq_false (by omega)), B2.out⟩

end Go.Proofs.Ytocoegekdamlbaa
