
import Derived.Test.YtajoimopahibcaaGreatLEK
import Derived.Test.YtajoimopahibcaaGreatMV
import Derived.Test.YtajoimopahibcaaGreatMG
import Derived.Test.YtajoimopahibcaaGreatLEA
/- Plain facts: the classes by an ideal have as many elements as it, and the quotient is a field if and only if the ideal is maximal. No program in sight. -/
namespace Go.Proofs.YtajoimopahibcaaGreat
open Go.RowKit

section
variable {m e : Nat} {S P : Nat → Nat} {p : Nat → Bool}
theorem RTab.nam_zero_iff (R : RTab m S P e) (hp : Idl m S P p) {x : Nat} (hx : x < m) : namK m S p m x = 0 ↔ p x = true := by
  constructor
  · intro h
    obtain ⟨b, hb, hb2⟩ := cos_iff.1 (R.cos_nam hp R.hm hx (by rw [R.nam_zero hp, h]))
    rw [R.Acs R.hm (hp.lt b hb), R.A00 (hp.lt b hb)] at hb2
    exact hb2 ▸ hb
  · intro h
    rw [← R.nam_zero hp]
    exact (R.nam_eq hp R.hm (cos_iff.2 ⟨x, h, by rw [R.Acs R.hm hx, R.A00 hx]⟩)).symm
/-- A product of classes, as the quotient's table has it. -/
theorem RTab.quo_look (R : RTab m S P e) (hp : Idl m S P p) {T : Nat → Nat} (hT : ∀ u v, u < m → v < m → quoF m S p T (namK m S p m u * qN m S p + namK m S p m v) = namK m S p m (T (u * m + v))) {u v : Nat} (hu : u < m) (hv : v < m) :
    tabOf (numL (qN m S p * qN m S p) (quoF m S p T)) (namK m S p m u * qN m S p + namK m S p m v) = namK m S p m (T (u * m + v)) := by
  have h1 := R.nam_lt' hp hu
  have h2 := R.nam_lt' hp hv
  rw [numL_tab, hT u v hu hv]
  have : (namK m S p m u + 1) * qN m S p ≤ qN m S p * qN m S p := Nat.mul_le_mul_right _ h1
  rw [Nat.succ_mul] at this
  omega
end
section
variable {m e : Nat} {X Y L : List Int}
end
end Go.Proofs.YtajoimopahibcaaGreat

