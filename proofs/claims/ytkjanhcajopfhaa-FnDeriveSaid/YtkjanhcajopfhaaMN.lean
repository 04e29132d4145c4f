/- Texts of this seat in one: M9. -/
import Derived.Test.YtkjanhcajopfhaaMG
import Derived.RangeFuncNested
import Derived.RangeFuncCalls
import Derived.OrdersIn
import Derived.TacticsInMore

/- Regions that draw their order, within a round of a range over a function: what holds outside of rounds holds there. -/
namespace Go.Proofs.Ytkjanhcajopfhaa
open Go.RowKit

section
variable {P : Program} {ops : Array Oper} {Q : Exit → Act → World → Prop}
end
end Go.Proofs.Ytkjanhcajopfhaa

