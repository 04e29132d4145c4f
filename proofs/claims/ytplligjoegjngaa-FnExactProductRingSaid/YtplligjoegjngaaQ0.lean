/- Small lemmas for laws of two rings. -/
import Derived.Test.YtplligjoegjngaaC2
import Derived.Test.YtplligjoegjngaaB8
namespace Go.Proofs.Ytplligjoegjngaa

theorem szRq_yes {l : Int} {la lb : Nat} (h : (la : Int) + lb ≤ l) : szR l la lb = l - la - lb := if_pos h
theorem szRq_no {l : Int} {la lb : Nat} (h : ¬ (la : Int) + lb ≤ l) : szR l la lb = -1 := if_neg h

end Go.Proofs.Ytplligjoegjngaa
