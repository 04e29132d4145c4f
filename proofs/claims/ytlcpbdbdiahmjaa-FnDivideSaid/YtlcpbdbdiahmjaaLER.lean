
import Derived.Test.YtlcpbdbdiahmjaaLEP
/- What FnDerive asks. No program in sight. -/
namespace Go.Proofs.Ytlcpbdbdiahmjaa
open Go.RowKit
set_option maxRecDepth 100000

section
variable {m e : Nat} {X Y L K : List Int}
theorem RTab.tab_ext {S P : Nat → Nat} (R : RTab m S P e) (h1 : polB m e X Y L = true) (h2 : polB m e X Y K = true) (h : ∀ i, R.q (tabOf L i) = R.q (tabOf K i)) : L = K :=
  pol_ext h1 h2 fun i => R.q_inj (tab_lt h1 i) (tab_lt h2 i) (h i)
theorem ex_tab (i : Nat) : exF (tabOf L) L.length i = tabOf L i := by
  unfold exF
  by_cases c : i < L.length
  · rw [if_pos c]
  · rw [if_neg c, tab_out (by omega)]
theorem q_pad (R : RTab m (tabOf X) (tabOf Y) e) (h : twoB m e X Y L K = true) (i : Nat) : R.q (tabOf (padL m e X Y L K) i) = R.A (R.q (tabOf L i)) (R.q (tabOf K i)) := by
  obtain ⟨h1, h2⟩ := two_data h
  rw [padL_yes h]
  unfold sumK
  rw [tab_lst]
  by_cases c : i < max L.length K.length
  · rw [if_pos c]
    unfold sumF
    rw [Int.toNat_natCast]
    unfold addF
    rw [ex_tab]
    by_cases d : i < K.length
    · rw [if_pos d, R.qS (tab_lt h1 i) (tab_lt h2 i)]
    · rw [if_neg d, tab_out (Z := K) (by omega), R.q0, R.A0]
  · rw [if_neg c, tab_out (Z := K) (by omega), tab_out (Z := L) (by omega), R.q0, R.A0]
theorem pmu_fits (h1 : polB m e X Y L = true) (h2 : polB m e X Y K = true) (h : L.length + K.length ≤ 9) : pmuB m e X Y L K = true := by
  obtain ⟨_, a8, _⟩ := pol_data h1
  obtain ⟨_, b8, _⟩ := pol_data h2
  have hl : mulK m X Y L K ≤ L.length + K.length := tl_le _
  have h8 : mulK m X Y L K ≤ 8 := by
    by_cases c : L.length + K.length ≤ 8
    · omega
    · have : mulK m X Y L K < L.length + K.length := mul_short (by omega) (by omega)
      omega
  unfold pmuB
  rw [two_yes h1 h2, decide_eq_true h8]
  rfl
end

end Go.Proofs.Ytlcpbdbdiahmjaa

