
import Derived.Test.YtajoimopahibcaaGreatMQ
/- Plain facts: the number of elements of a sum of two ideals times that of their meet is the product of theirs. No program in sight. -/
namespace Go.Proofs.YtajoimopahibcaaGreat
open Go.RowKit

section
variable {m e : Nat} {S P : Nat → Nat} {p q : Nat → Bool}
theorem meet_idl (hp : Idl m S P p) (hq : Idl m S P q) : Idl m S P (fun i => p i && q i) where
  lt := fun i h => by rw [Bool.and_eq_true] at h; exact hp.lt i h.1
  z := by rw [hp.z, hq.z]; rfl
  s := fun i j hi hj => by
    rw [Bool.and_eq_true] at hi hj ⊢
    exact ⟨hp.s i j hi.1 hj.1, hq.s i j hi.2 hj.2⟩
  t := fun i j hi hj => by
    rw [Bool.and_eq_true] at hi ⊢
    exact ⟨hp.t i j hi.1 hj, hq.t i j hi.2 hj⟩
end
end Go.Proofs.YtajoimopahibcaaGreat

