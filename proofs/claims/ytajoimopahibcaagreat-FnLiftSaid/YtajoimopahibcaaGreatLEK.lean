
import Derived.Test.YtajoimopahibcaaGreatLEJ
import Derived.Test.YtajoimopahibcaaGreatMT
/- What FnPush wants: pushed ideals and the quotient of the quotient, as lists. -/
namespace Go.Proofs.YtajoimopahibcaaGreat
open Go.RowKit

section
variable {m e : Nat} {X Y L K : List Int} {p : Nat → Bool}
theorem quN_at (h : isIdB m e X Y L = true) (hp : setL L = p) : quN m e X Y L = ((qN m (tabOf X) p : Nat) : Int) ∧ quO m e X Y L = ((namK m (tabOf X) p m e : Nat) : Int) ∧
    quS m e X Y L = numL (qN m (tabOf X) p * qN m (tabOf X) p) (quoF m (tabOf X) p (tabOf X)) ∧ quP m e X Y L = numL (qN m (tabOf X) p * qN m (tabOf X) p) (quoF m (tabOf X) p (tabOf Y)) := by
  unfold quN quO quS quP
  rw [if_pos h, if_pos h, if_pos h, if_pos h, Int.toNat_natCast, Int.toNat_natCast, hp]
  exact ⟨rfl, rfl, rfl, rfl⟩
end
end Go.Proofs.YtajoimopahibcaaGreat

