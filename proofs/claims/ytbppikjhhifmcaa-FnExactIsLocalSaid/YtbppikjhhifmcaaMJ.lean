/- Texts of this seat in one: G3 G4. -/
import Derived.Test.YtbppikjhhifmcaaMC

/- The methods of the making of the integers by a number. -/
namespace Go.Proofs.Ytbppikjhhifmcaa
open Go.RowKit
set_option maxRecDepth 100000

end Go.Proofs.Ytbppikjhhifmcaa



/- The program's maker of rings, at the integers by a number. -/
namespace Go.Proofs.Ytbppikjhhifmcaa
open Go.RowKit
set_option maxRecDepth 100000

end Go.Proofs.Ytbppikjhhifmcaa

