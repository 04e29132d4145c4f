
import Derived.Test.YtlcpbdbdiahmjaaLEN
import Derived.Test.YtlcpbdbdiahmjaaMB
import Derived.Test.YtlcpbdbdiahmjaaNG
import Derived.Test.YtlcpbdbdiahmjaaNH
/- What FnEval wants: values of sums and of products, and that both are polynomials. No program in sight. -/
namespace Go.Proofs.Ytlcpbdbdiahmjaa
open Go.RowKit
set_option maxRecDepth 100000

section
variable {m e : Nat} {X Y L K : List Int}
/-- The first coefficients, zeros at the end being left out, make a polynomial. -/
theorem polB_lst {F : Nat → Nat} {l : Nat} (hv : validB m e X Y = true) (h8 : tlN F l ≤ 8) (hF : ∀ i, i < l → F i < m) : polB m e X Y (lstF F (tlN F l)) = true := by
  have hl := tl_le (F := F) l
  refine polB_yes hv (by rw [lstF_len]; exact h8) (allB_true fun j hj => ?_) ?_
  · rw [lstF_len] at hj
    rw [lstF_get hj]
    have := hF j (by omega)
    exact inB_true (by simp; omega)
  · unfold lastB
    rw [lstF_len]
    refine decide_eq_true ?_
    rcases Nat.eq_zero_or_pos (tlN F l) with h | h
    · exact .inl h
    · refine .inr ?_
      rw [lstF_get (by omega)]
      have := tl_last (F := F) l (by omega)
      simp
      exact this
/-- The value of such a list. -/
theorem RTab.at_lst {S P : Nat → Nat} (R : RTab m S P e) {F : Nat → Nat} {l a : Nat} (ha : a < m) (hF : ∀ i, i < l → F i < m) : atN m S P (tabOf (lstF F (tlN F l))) (lstF F (tlN F l)).length a = atN m S P F l a := by
  rw [lstF_len, at_congr (G := F) (fun i hi => lstF_tab hi), R.at_trim ha hF]
/-- What FnEval asks. -/
theorem eval_law (hok : twoB m e X Y L K = true) (_hm' : m ≤ 16) :
    (∀ y : Nat, y < m → ∃ a b s p : Nat, a < m ∧ b < m ∧ evaV m e X Y L y = (a : Int) ∧ evaV m e X Y K y = (b : Int) ∧ tabOf X (a * m + b) = s ∧ tabOf Y (a * m + b) = p ∧ evaV m e X Y (padL m e X Y L K) y = (s : Int) ∧ (pmuB m e X Y L K = true → evaV m e X Y (pmuL m e X Y L K) y = (p : Int)))
    ∧ polB m e X Y (padL m e X Y L K) = true ∧ (pmuB m e X Y L K = true → polB m e X Y (pmuL m e X Y L K) = true)
    ∧ (padL m e X Y L K).length ≤ max L.length K.length ∧ (0 < L.length → 0 < K.length → (pmuL m e X Y L K).length < L.length + K.length) := by
  obtain ⟨h1, h2⟩ := two_data hok
  obtain ⟨hv, l8, _⟩ := pol_data h1
  obtain ⟨_, k8, _⟩ := pol_data h2
  obtain ⟨_, _, fF, fG, _, _⟩ := two_facts hok rfl rfl
  have R := rtab_of_valid hv
  have eS : padL m e X Y L K = lstF (sumF m X L K) (sumK m X L K) := padL_yes hok
  have fS : ∀ i, i < max L.length K.length → sumF m X L K i < m := fun i _ => by
    unfold sumF; rw [Int.toNat_natCast]; exact add_lt R.hm R.sl fF fG (Nat.le_refl _) i
  have fP : ∀ i, i < L.length + K.length → mulG m X Y L K i < m := fun i _ => by
    unfold mulG; rw [Int.toNat_natCast]; exact mul_lt R.hm R.sl R.pl fF fG _ (Nat.le_refl _) i
  have vS : polB m e X Y (padL m e X Y L K) = true := by
    rw [eS]
    have := tl_le (F := sumF m X L K) (max L.length K.length)
    exact polB_lst hv (by omega) fS
  have vP : pmuB m e X Y L K = true → polB m e X Y (pmuL m e X Y L K) = true := fun hp => by
    rw [pmuL_yes hp]
    have h8 : mulK m X Y L K ≤ 8 := by
      unfold pmuB at hp; rw [Bool.and_eq_true, decide_eq_true_eq] at hp; exact hp.2
    exact polB_lst hv h8 fP
  refine ⟨fun y hy => ?_, vS, vP, ?_, fun hl hk => ?_⟩
  · have iny : inB m (y : Int) = true := inB_true (by omega)
    have ha := at_lt R.hm R.sl R.pl fF hy
    have hb := at_lt R.hm R.sl R.pl fG hy
    refine ⟨_, _, _, _, ha, hb, evaV_yes h1 iny, evaV_yes h2 iny, rfl, rfl, ?_, fun hp => ?_⟩
    · rw [evaV_yes vS iny, eS]
      have := R.at_lst hy fS
      unfold sumK
      rw [this]
      unfold sumF
      rw [Int.toNat_natCast, R.at_add hy fF fG]
    · rw [evaV_yes (vP hp) iny, pmuL_yes hp]
      have := R.at_lst hy fP
      unfold mulK
      rw [this]
      unfold mulG
      rw [Int.toNat_natCast, R.at_mul hy fF fG]
  · rw [eS, lstF_len]
    exact tl_le _
  · cases hp : pmuB m e X Y L K
    · rw [pmuL_no hp]; simp; omega
    · rw [pmuL_yes hp, lstF_len]
      exact mul_short hl hk
end

end Go.Proofs.Ytlcpbdbdiahmjaa

