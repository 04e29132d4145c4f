
/- When there is a renaming, by the program; RenameRing of the program. -/
import Derived.Test.YtocoegekdamlbaaZ2
namespace Go.Proofs.Ytocoegekdamlbaa
open Go.RowKit
set_option maxRecDepth 100000

/-- There is a renaming of a ring by numbers. -/
noncomputable def rnB (n o : Int) (X Y Z : List Int) : Bool := validB n o X Y && @decide (NamesOk n.toNat Z) (Classical.propDecidable _)
section
variable {n o : Int} {X Y Z : List Int}
theorem rnB_v (h : validB n o X Y = false) : rnB n o X Y Z = false := by unfold rnB; rw [h]; rfl
theorem rnB_n (h : ¬ NamesOk n.toNat Z) : rnB n o X Y Z = false := by unfold rnB; rw [@decide_eq_false _ (Classical.propDecidable _) h]; simp
theorem rnB_yes (h1 : validB n o X Y = true) (h2 : NamesOk n.toNat Z) : rnB n o X Y Z = true := by unfold rnB; rw [h1, @decide_eq_true _ (Classical.propDecidable _) h2]; rfl
theorem rnB_data (h : rnB n o X Y Z = true) : validB n o X Y = true ∧ NamesOk n.toNat Z := by
  unfold rnB at h
  rw [Bool.and_eq_true] at h
  exact ⟨h.1, @of_decide_eq_true _ (Classical.propDecidable _) h.2⟩
theorem valid_sizeR (h : validB n o X Y = true) : ∃ m : Nat, n = m ∧ 1 ≤ m ∧ m ≤ 16 := by
  unfold validB at h
  rw [Bool.and_eq_true] at h
  obtain ⟨m, e, h1, h2, h3, h4, _⟩ := fits_data h.1
  exact ⟨m, h1, h3, h4⟩
end

set_option maxHeartbeats 4000000 in
theorem rnValid_any (n o : Int) (A B F : Option Addr) (la ca lb cb lf cf : Nat) (X Y Z : List Int) (w : World) (hX : Ints w w.heap.size A la X) (hY : Ints w w.heap.size B lb Y) (hF : Ints w w.heap.size F lf Z) (hla : la ≤ 9223372036854775807) (hlb : lb ≤ 9223372036854775807) (hlf : lf ≤ 9223372036854775807) (hca : la ≤ ca) (hcb : lb ≤ cb) :
    Calls Try.prog 60 #[.agg (rnV n o A B F la ca lb cb lf cf)] w fun e' w' => e' = .returned (.bool (rnB n o X Y Z)) ∧ Below w.heap.size w w' := by
  have hZ := hF.1
  obtain ⟨W, hW⟩ : ∃ W, w.alloc (.cells (rnV n o A B F la ca lb cb lf cf) 59) = W := ⟨_, rfl⟩
  have k0 : Blk W w.heap.size 59 (rnV n o A B F la ca lb cb lf cf) := by subst hW; exact Blk.new w _ _
  have b0 : Below w.heap.size w W := by subst hW; exact (Below.refl _ _).alloc (Nat.le_refl _) _
  have HX := Lib.hid (hX.next b0)
  have HY := Lib.hid (hY.next b0)
  have HF := Lib.hid (hF.next b0)
  have K0 := Lib.hid k0
  have B0 := Lib.hid b0
  have HW := Lib.hid hW
  have hs0 := k0.lt
  obtain ⟨c0, c1, c2, c3, c4⟩ := blk5r k0
  clear hX hY hF k0 b0 hW
  cases hv : validB n o X Y
  · have hz := Lib.hid (rnB_v (Z := Z) hv)
    have HV := Lib.hid hv
    clear hv
    go_enter Try.func60, Try.ntmps60
    go_upto_region 1 with (fail)
    rw [HW.out]
    go_wp2_with (first
      | (go_at_call 65; (with_reducible refine (valid_any _ _ _ _ _ _ _ _ X Y _ HX.out HY.out hla hlb hca hcb).mono ?_); rintro e1 w1 ⟨rfl, hb1⟩; rw [HV.out]; have B1 := Lib.hid (below_step B0.out hb1); clear hb1))
    go_ret
    exact ⟨ret_bool hz.out.symm, B1.out⟩
  · obtain ⟨m, rfl, hm, hm'⟩ := valid_sizeR hv
    by_cases hl : lf = m
    rotate_left
    · have hz := Lib.hid (rnB_n (n := m) (o := o) (X := X) (Y := Y) (Z := Z) (fun h => hl (by rw [← hZ, h.length, Int.toNat_natCast])))
      have HV := Lib.hid hv
      have tq : ((lf : Int) != (m : Int)) = true := by rw [bne_iff_ne]; omega
      clear hv
      go_enter Try.func60, Try.ntmps60
      go_upto_region 1 with (fail)
      rw [HW.out]
      go_wp2_with (first
        | (go_at_call 65; (with_reducible refine (valid_any _ _ _ _ _ _ _ _ X Y _ HX.out HY.out hla hlb hca hcb).mono ?_); rintro e1 w1 ⟨rfl, hb1⟩; rw [HV.out]; have K1 := Lib.hid (K0.out.next hb1); have B1 := Lib.hid (below_step B0.out hb1); clear hb1; clear c0 c1 c2 c3 c4; obtain ⟨c0, c1, c2, c3, c4⟩ := blk5r K1.out))
      go_ret
      exact ⟨ret_bool hz.out.symm, B1.out⟩
    subst hl
    obtain ⟨z, hz0⟩ : ∃ z, Z[0]?.getD 0 = z := ⟨_, rfl⟩
    obtain ⟨gb, off, rfl, hbb, hc0⟩ := HF.out.at_ (k := 0) (show 0 < lf by omega)
    rw [hz0, Nat.add_zero] at hc0
    by_cases hzz : z = 0
    rotate_left
    · have hz := Lib.hid (rnB_n (n := lf) (o := o) (X := X) (Y := Y) (Z := Z) (fun h => hzz (by rw [← hz0, h.2])))
      have HV := Lib.hid hv
      have tq : ((lf : Int) != (lf : Int)) = false := by simp
      have tz : (z != 0) = true := by rw [bne_iff_ne]; exact hzz
      have HC := Lib.hid hc0
      have hlz : 0 < lf := hm
      clear hv hc0 hz0
      go_enter Try.func60, Try.ntmps60
      go_upto_region 1 with (fail)
      rw [HW.out]
      go_wp2_with (first
        | (go_at_call 65; (with_reducible refine (valid_any _ _ _ _ _ _ _ _ X Y _ HX.out HY.out hla hlb hca hcb).mono ?_); rintro e1 w1 ⟨rfl, hb1⟩; rw [HV.out]; have K1 := Lib.hid (K0.out.next hb1); have B1 := Lib.hid (below_step B0.out hb1); have HC1 := (hb1.cell (p := ⟨gb, off, none⟩) hbb).trans HC.out; clear hb1; clear c0 c1 c2 c3 c4; obtain ⟨c0, c1, c2, c3, c4⟩ := blk5r K1.out))
      go_ret
      exact ⟨ret_bool hz.out.symm, B1.out⟩
    subst hzz
    have HV := Lib.hid hv
    have tq : ((lf : Int) != (lf : Int)) = false := by simp
    have tz : ((0 : Int) != 0) = false := by simp
    have HC := Lib.hid hc0
    have hlz : 0 < lf := hm
    have HZ0 := Lib.hid hz0
    have HZL := Lib.hid hZ
    clear hv hc0 hz0
    go_enter Try.func60, Try.ntmps60
    go_upto_region 1 with (fail)
    rw [HW.out]
    go_wp2_with (first
      | (go_at_call 65; (with_reducible refine (valid_any _ _ _ _ _ _ _ _ X Y _ HX.out HY.out hla hlb hca hcb).mono ?_); rintro e1 w1 ⟨rfl, hb1⟩; rw [HV.out]; have K1 := Lib.hid (K0.out.next hb1); have B1 := Lib.hid (below_step B0.out hb1); have HC1 := (hb1.cell (p := ⟨gb, off, none⟩) hbb).trans HC.out; have HF1 := Lib.hid (HF.out.next hb1); clear hb1; clear c0 c1 c2 c3 c4; obtain ⟨c0, c1, c2, c3, c4⟩ := blk5r K1.out))
    go_loop [27] (fun i => ∃ k : Nat, k ≤ lf ∧ i = .int .i64 k ∧ Hid (∀ j : Nat, j < k → (j : Int) ∈ Z)) (fun i => lf - (intOf i).toNat)
    case atStart => exact ⟨0, Nat.zero_le _, rfl, Lib.hid (fun j hj => absurd hj (by omega))⟩
    case round =>
      obtain ⟨k, hk, rfl, hup⟩ := hrel
      by_cases hlt : k < lf
      · by_cases hmem : (k : Int) ∈ Z
        · have hb : hasB Z (k : Int) = true := decide_eq_true hmem
          have HM := Lib.hid hmem
          clear hmem
          go_wp2_with (go_at_call 87; refine (contains_any _ _ _ Z _ _ _ HF1.out hlf).mono ?_; rintro e2 w2 ⟨rfl, rfl⟩)
          go_round
          case rel => exact ⟨k + 1, by omega, by go_num, Lib.hid fun j hj => by
            rcases Nat.lt_or_eq_of_le (Nat.le_of_lt_succ hj) with h | h
            · exact hup.out j h
            · subst h; exact HM.out⟩
          case measure => simp [intOf]; omega
        · have hb : hasB Z (k : Int) = false := decide_eq_false hmem
          have hz := Lib.hid (rnB_n (n := lf) (o := o) (X := X) (Y := Y) (Z := Z) (fun h => hmem (h.onto (by rw [Int.toNat_natCast]; exact hlt))))
          clear hmem
          go_wp2_with (go_at_call 87; refine (contains_any _ _ _ Z _ _ _ HF1.out hlf).mono ?_; rintro e2 w2 ⟨rfl, rfl⟩)
          go_ret
          exact ⟨ret_bool hz.out.symm, B1.out⟩
      · have hkk : k = lf := by omega
        subst hkk
        have hz := Lib.hid (rnB_yes (o := o) (X := X) (Y := Y) HV.out (names_of_onto (m := ((k : Int)).toNat) (Z := Z) (by rw [Int.toNat_natCast]; exact HZL.out) HZ0.out (fun a ha => hup.out a (by rw [Int.toNat_natCast] at ha; exact ha))))
        go_wp2
        go_ret
        exact ⟨ret_bool hz.out.symm, B1.out⟩

end Go.Proofs.Ytocoegekdamlbaa
