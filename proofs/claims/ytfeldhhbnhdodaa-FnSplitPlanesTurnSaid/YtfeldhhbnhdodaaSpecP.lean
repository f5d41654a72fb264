/- Contracts of pixels in the model: reading and writing one. -/
import Derived.Test.YtfeldhhbnhdodaaGridB
import Derived.Test.YtfeldhhbnhdodaaInvI
import Derived.RegionTactic
import Derived.BigRegion
namespace Go.Proofs.Ytfeldhhbnhdodaa
open Go.RowKit
set_option linter.unusedSimpArgs false
set_option linter.unusedVariables false

end Go.Proofs.Ytfeldhhbnhdodaa
