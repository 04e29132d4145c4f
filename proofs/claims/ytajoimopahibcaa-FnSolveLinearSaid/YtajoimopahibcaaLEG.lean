
import Derived.Test.YtajoimopahibcaaLEF
import Derived.Test.YtajoimopahibcaaNA
/- Plain facts: prime and maximal ideals, ideals above one, radicals. No program in sight. -/
namespace Go.Proofs.Ytajoimopahibcaa
open Go.RowKit

section
variable {m e : Nat} {S P : Nat → Nat} {p q : Nat → Bool}
/-- An ideal with One is the whole ring. -/
theorem RTab.whole_one (R : RTab m S P e) (hp : Idl m S P p) (h : p e = true) : wholeB m p = true := whole_iff.2 fun x hx => by
  have := hp.t e x h hx
  rwa [R.Mcs R.he hx, R.M11 hx] at this
end
end Go.Proofs.Ytajoimopahibcaa

