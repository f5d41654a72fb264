/- Contract of TurnImage in the program. -/
import Derived.Test.YtmkfgcmabmocfaaTurnS
namespace Go.Proofs.Ytmkfgcmabmocfaa
open Go.RowKit Go.Shelf
set_option linter.unusedSimpArgs false
set_option linter.unusedVariables false

end Go.Proofs.Ytmkfgcmabmocfaa
