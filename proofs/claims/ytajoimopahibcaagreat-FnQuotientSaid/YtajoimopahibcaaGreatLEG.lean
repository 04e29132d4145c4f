
import Derived.Test.YtajoimopahibcaaGreatLEF
import Derived.Test.YtajoimopahibcaaGreatNA
/- Plain facts: prime and maximal ideals, ideals above one, radicals. No program in sight. -/
namespace Go.Proofs.YtajoimopahibcaaGreat
open Go.RowKit

section
variable {m e : Nat} {S P : Nat → Nat} {p q : Nat → Bool}
theorem max_iff : maxB m S P p = true ↔ wholeB m p = false ∧ ∀ x, x < m → p x = false → wholeB m (opsB m S p (mulB m P x)) = true := by
  unfold maxB
  rw [Bool.and_eq_true, propB_iff, Bool.not_eq_true']
/-- An ideal with One is the whole ring. -/
theorem RTab.whole_one (R : RTab m S P e) (hp : Idl m S P p) (h : p e = true) : wholeB m p = true := whole_iff.2 fun x hx => by
  have := hp.t e x h hx
  rwa [R.Mcs R.he hx, R.M11 hx] at this
theorem not_whole_iff : wholeB m p = false ↔ ∃ x, x < m ∧ p x = false := by
  rw [← Bool.not_eq_true, whole_iff]
  constructor
  · intro h
    refine Classical.byContradiction fun hc => h fun x hx => ?_
    cases hpx : p x with
    | true => rfl
    | false => exact absurd ⟨x, hx, hpx⟩ hc
  · rintro ⟨x, hx, hpx⟩ h
    rw [h x hx] at hpx
    cases hpx

end
end Go.Proofs.YtajoimopahibcaaGreat

