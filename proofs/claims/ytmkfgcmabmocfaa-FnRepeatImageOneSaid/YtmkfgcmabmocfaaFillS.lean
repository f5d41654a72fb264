/- Contract of FillImage in the model. -/
import Derived.Test.YtmkfgcmabmocfaaFillI
import Derived.Test.YtmkfgcmabmocfaaSpecM
namespace Go.Proofs.Ytmkfgcmabmocfaa
open Go.RowKit
set_option linter.unusedSimpArgs false
set_option linter.unusedVariables false

end Go.Proofs.Ytmkfgcmabmocfaa
