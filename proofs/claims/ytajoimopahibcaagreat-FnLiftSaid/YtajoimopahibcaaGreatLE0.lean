
import Derived.Test.YtajoimopahibcaaGreatRows
import Derived.JoinedOf
/- Facts of the program alone, closed once for all rows of this seat. -/
namespace Go.Proofs.YtajoimopahibcaaGreat

theorem pf_laid : laidOutB Tryz.pinned.checked.prog = true := by kernel_rfl
theorem pf_maps : mapsRowed Tryz.pinned.checked.prog = true := by kernel_rfl
theorem pf_heard : Tryz.pinned.checked.prog.stopsHeard = true := by kernel_rfl
theorem pf_enter : Tryz.pinned.checked.prog.mayEnter = true := by kernel_rfl
theorem pf_lifts : (Rows.fnPrimeIdealRow.lifted == Tryz.pinned.checked.prog.liftsFinal) = true := by kernel_rfl
theorem pf_make : (Tryz.pinned.checked.prog.make == some Rows.fnPrimeIdealRow.make) = true := by kernel_rfl

end Go.Proofs.YtajoimopahibcaaGreat

