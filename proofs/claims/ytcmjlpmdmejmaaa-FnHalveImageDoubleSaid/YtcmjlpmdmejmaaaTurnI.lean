/- Contract of TurnImage in the program. -/
import Derived.Test.YtcmjlpmdmejmaaaTurnS
namespace Go.Proofs.Ytcmjlpmdmejmaaa
open Go.RowKit Go.Shelf
set_option linter.unusedSimpArgs false
set_option linter.unusedVariables false

end Go.Proofs.Ytcmjlpmdmejmaaa
