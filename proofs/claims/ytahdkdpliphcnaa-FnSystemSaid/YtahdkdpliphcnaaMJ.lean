/- Texts of this seat in one: G3 G4. -/
import Derived.Test.YtahdkdpliphcnaaMC

/- The methods of the making of the integers by a number. -/
namespace Go.Proofs.Ytahdkdpliphcnaa
open Go.RowKit
set_option maxRecDepth 100000

end Go.Proofs.Ytahdkdpliphcnaa



/- The program's maker of rings, at the integers by a number. -/
namespace Go.Proofs.Ytahdkdpliphcnaa
open Go.RowKit
set_option maxRecDepth 100000

end Go.Proofs.Ytahdkdpliphcnaa

