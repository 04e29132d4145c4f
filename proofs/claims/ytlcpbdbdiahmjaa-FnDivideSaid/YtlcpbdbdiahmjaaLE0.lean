
import Derived.Test.YtlcpbdbdiahmjaaRows
import Derived.JoinedOf
/- Facts of the program alone, closed once for all rows of this seat. -/
namespace Go.Proofs.Ytlcpbdbdiahmjaa

theorem pf_laid : laidOutB Try.pinned.checked.prog = true := by kernel_rfl
theorem pf_maps : mapsRowed Try.pinned.checked.prog = true := by kernel_rfl
theorem pf_heard : Try.pinned.checked.prog.stopsHeard = true := by kernel_rfl
theorem pf_enter : Try.pinned.checked.prog.mayEnter = true := by kernel_rfl
theorem pf_lifts : (Rows.fnDivideRow.lifted == Try.pinned.checked.prog.liftsFinal) = true := by kernel_rfl
theorem pf_make : (Try.pinned.checked.prog.make == some Rows.fnDivideRow.make) = true := by kernel_rfl

end Go.Proofs.Ytlcpbdbdiahmjaa

