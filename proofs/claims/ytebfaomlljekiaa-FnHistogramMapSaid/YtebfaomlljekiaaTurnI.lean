/- Contract of TurnImage in the program. -/
import Derived.Test.YtebfaomlljekiaaTurnS
namespace Go.Proofs.Ytebfaomlljekiaa
open Go.RowKit Go.Shelf
set_option linter.unusedSimpArgs false
set_option linter.unusedVariables false

end Go.Proofs.Ytebfaomlljekiaa
