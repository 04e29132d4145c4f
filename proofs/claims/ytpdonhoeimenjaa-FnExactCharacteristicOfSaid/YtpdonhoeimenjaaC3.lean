
/- The walk of the law FnExactRingValid. -/
import Derived.Test.YtpdonhoeimenjaaC2
namespace Go.Proofs.Ytpdonhoeimenjaa
open Go.RowKit

theorem szR_yes {l : Int} {la lb : Nat} (h : (la : Int) + lb ≤ l) : szR l la lb = l - la - lb := if_pos h
theorem szR_no {l : Int} {la lb : Nat} (h : ¬ (la : Int) + lb ≤ l) : szR l la lb = -1 := if_neg h

end Go.Proofs.Ytpdonhoeimenjaa
