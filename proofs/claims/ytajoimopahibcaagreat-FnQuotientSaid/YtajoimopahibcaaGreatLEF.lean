
import Derived.Test.YtajoimopahibcaaGreatLEE
/- Plain facts: sums, meets, products and quotients of two ideals. No program in sight. -/
namespace Go.Proofs.YtajoimopahibcaaGreat
open Go.RowKit

section
variable {m e : Nat} {S P : Nat → Nat} {p q r : Nat → Bool}
end

section
variable {m e : Nat} {X Y L K : List Int} {p q : Nat → Bool}
end
end Go.Proofs.YtajoimopahibcaaGreat

