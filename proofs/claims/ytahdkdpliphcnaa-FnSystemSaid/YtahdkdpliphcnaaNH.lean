/- Texts of this seat in one: FI. -/
import Derived.Test.YtahdkdpliphcnaaNG
import Derived.Test.YtahdkdpliphcnaaMG
import Derived.Test.YtahdkdpliphcnaaMC

/- The program's polynomialOf. -/
namespace Go.Proofs.Ytahdkdpliphcnaa
open Go.RowKit
set_option maxRecDepth 100000

theorem Blk.inCP {V : World} {g : Nat} {t : TypeId} {cs : Array Value} (h : Blk V g t cs) : ∀ x, extC V x → x.heap[g]? = some (.cells cs t (0, 0)) := fun _ ⟨u, hu⟩ => by rw [hu]; exact h.next (ext_below V u)
section
variable (n o : Int) (A B F : Option Addr) (la ca lb cb lf cf : Nat) (X Y Z : List Int) (w : World)
end

end Go.Proofs.Ytahdkdpliphcnaa

