
import Derived.Test.YtlcpbdbdiahmjaaLEO
import Derived.Test.YtlcpbdbdiahmjaaNH
/- What FnDerive wants: coefficients of sums, derivatives and of products by a polynomial of one or two coefficients. No program in sight. -/
namespace Go.Proofs.Ytlcpbdbdiahmjaa
open Go.RowKit
set_option maxRecDepth 100000

section
variable {m e : Nat} {S P : Nat → Nat} {X Y L K : List Int}
/-- The coefficient of such a list, wherever. -/
theorem tab_lst {F : Nat → Nat} {l : Nat} (i : Nat) : tabOf (lstF F (tlN F l)) i = if i < l then F i else 0 := by
  rcases Nat.lt_or_ge i (tlN F l) with h | h
  · have := tl_le (F := F) l
    rw [lstF_tab h, if_pos (by omega)]
  · have h0 : tabOf (lstF F (tlN F l)) i = 0 := by
      unfold tabOf
      rw [List.getElem?_eq_none (by rw [lstF_len]; exact h)]
      rfl
    rw [h0]
    by_cases hl : i < l
    · rw [if_pos hl, tl_above l i h hl]
    · rw [if_neg hl]
theorem tab_out {Z : List Int} {i : Nat} (h : Z.length ≤ i) : tabOf Z i = 0 := by
  unfold tabOf
  rw [List.getElem?_eq_none h]
  rfl
/-- Polynomials with the same coefficients are one. -/
theorem pol_ext (h1 : polB m e X Y L = true) (h2 : polB m e X Y K = true) (h : ∀ i, tabOf L i = tabOf K i) : L = K := by
  obtain ⟨_, _, _, a1, a2⟩ := pol_data h1
  obtain ⟨_, _, _, b1, b2⟩ := pol_data h2
  have la : L.length ≠ 0 → tabOf L (L.length - 1) ≠ 0 := fun h0 => by
    have := tl_last (F := tabOf L) L.length (by rw [a2]; exact h0)
    rw [a2] at this
    exact this
  have lb : K.length ≠ 0 → tabOf K (K.length - 1) ≠ 0 := fun h0 => by
    have := tl_last (F := tabOf K) K.length (by rw [b2]; exact h0)
    rw [b2] at this
    exact this
  have hl : L.length = K.length := by
    rcases Nat.lt_trichotomy L.length K.length with c | c | c
    · exact absurd ((h _).symm.trans (tab_out (by omega))) (lb (by omega))
    · exact c
    · exact absurd ((h _).trans (tab_out (by omega))) (la (by omega))
  rw [← a1, ← b1, hl]
  exact lstF_congr fun i _ => h i
theorem tab_lt (h : polB m e X Y L = true) (i : Nat) : tabOf L i < m := by
  obtain ⟨hv, _, a, _, _⟩ := pol_data h
  rcases Nat.lt_or_ge i L.length with c | c
  · simpa using (a i c).2
  · rw [tab_out c]; exact (rtab_of_valid hv).hm
end

end Go.Proofs.Ytlcpbdbdiahmjaa

