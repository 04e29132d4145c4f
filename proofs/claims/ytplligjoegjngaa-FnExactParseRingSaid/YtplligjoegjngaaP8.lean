/- The program's ParseRing. -/
import Derived.Test.YtplligjoegjngaaP7
import Derived.Test.YtplligjoegjngaaC4
namespace Go.Proofs.Ytplligjoegjngaa
open Go.RowKit
set_option maxRecDepth 100000

def NoSize (s : ByteArray) (k : Nat) : Prop := ∀ j : Nat, j < k → ∀ o X Y, ¬ IsText s j o X Y
theorem w_le {k : Nat} (hk : k ≤ 16) : k * (k + 1) ≤ 272 ∧ (k : Int) * ((k : Int) + 1) = ((k * (k + 1) : Nat) : Int) := by
  have : k * (k + 1) ≤ 16 * 17 := Nat.mul_le_mul hk (by omega)
  exact ⟨by omega, by simp⟩

theorem text_size {s : ByteArray} {k : Nat} {o : Int} {X Y : List Int} (h : IsText s k o X Y) : s.size = 1 + 2 * (k * (k + 1)) := by
  obtain ⟨m, e, h1, _, t⟩ := text_data h
  have : k = m := by omega
  subst this
  exact t.size
theorem no_zero {s : ByteArray} : NoSize s 1 := by
  intro j hj o X Y h
  obtain ⟨m, e, h1, _, t⟩ := text_data h
  have := t.hm
  omega
theorem no_step {s : ByteArray} {k : Nat} (h : NoSize s k) (hk : ∀ o X Y, ¬ IsText s k o X Y) : NoSize s (k + 1) := by
  intro j hj
  rcases Nat.lt_succ_iff_lt_or_eq.1 hj with h1 | rfl
  · exact h j h1
  · exact hk
theorem no_all {s : ByteArray} (h : NoSize s 17) : ∀ n o X Y, ¬ IsText s n o X Y := by
  intro n o X Y g
  obtain ⟨m, e, rfl, _, t⟩ := text_data g
  exact h m (by have := t.hm'; omega) o X Y g

end Go.Proofs.Ytplligjoegjngaa
