
import Derived.Test.YtajoimopahibcaaGreatLEF
import Derived.Test.YtajoimopahibcaaGreatNA
/- Plain facts: prime and maximal ideals, ideals above one, radicals. No program in sight. -/
namespace Go.Proofs.YtajoimopahibcaaGreat
open Go.RowKit

section
variable {m e : Nat} {S P : Nat → Nat} {p q : Nat → Bool}
theorem prime_iff : primeB m P p = true ↔ wholeB m p = false ∧ ∀ x y, x < m → y < m → p x = false → p y = false → p (P (x * m + y)) = false := by
  unfold primeB
  rw [Bool.and_eq_true, propB_iff, Bool.not_eq_true']
end
end Go.Proofs.YtajoimopahibcaaGreat

