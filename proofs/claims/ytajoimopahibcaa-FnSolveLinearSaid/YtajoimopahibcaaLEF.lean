
import Derived.Test.YtajoimopahibcaaLEE
/- Plain facts: sums, meets, products and quotients of two ideals. No program in sight. -/
namespace Go.Proofs.Ytajoimopahibcaa
open Go.RowKit

section
variable {m e : Nat} {S P : Nat → Nat} {p q r : Nat → Bool}
end

section
variable {m e : Nat} {X Y L K : List Int} {p q : Nat → Bool}
theorem sum_at (hv : validB m e X Y = true) (hp : Idl m (tabOf X) (tabOf Y) p) (hq : Idl m (tabOf X) (tabOf Y) q) : sumL m e X Y (lstP m p) (lstP m q) = lstP m (opsB m (tabOf X) p q) := by
  unfold sumL
  rw [fromL_yes (two_yes (isId_of hv hp) (isId_of hv hq)), setL_lst hp.lt, setL_lst hq.lt, Int.toNat_natCast]
end
end Go.Proofs.Ytajoimopahibcaa

