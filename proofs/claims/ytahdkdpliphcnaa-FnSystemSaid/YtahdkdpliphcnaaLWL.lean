
import Derived.Test.YtahdkdpliphcnaaMF
import Derived.Test.YtahdkdpliphcnaaNG
/- The drawing side: l9Draw: a list of coefficients. -/
namespace Go.Proofs.Ytahdkdpliphcnaa
open Go.RowKit
set_option maxRecDepth 100000

end Go.Proofs.Ytahdkdpliphcnaa

