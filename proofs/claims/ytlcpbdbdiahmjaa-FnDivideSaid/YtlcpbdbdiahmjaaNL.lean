/- Texts of this seat in one: D0. -/
import Derived.Test.YtlcpbdbdiahmjaaMB
import Derived.ProofKit
import Derived.Lib.SmallJoins

/- What every law's row is made of: one ring that came in. -/
namespace Go.Proofs.Ytlcpbdbdiahmjaa
open Go.ChangeShapes Go.WideShapes Go.ChangeAt Go.RowKit Go.Joins
set_option maxRecDepth 100000

theorem Try.own : ownKnob Try.prog.godebug = none := by kernel_rfl
theorem Try.laidOut : laidOutB Try.prog = true := by kernel_rfl
section
variable {H : Type} {enc : TypeId × Value → H} {w : World}
end

end Go.Proofs.Ytlcpbdbdiahmjaa

