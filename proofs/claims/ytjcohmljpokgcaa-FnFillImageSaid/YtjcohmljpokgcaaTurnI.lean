/- Contract of TurnImage in the program. -/
import Derived.Test.YtjcohmljpokgcaaTurnS
namespace Go.Proofs.Ytjcohmljpokgcaa
open Go.RowKit Go.Shelf
set_option linter.unusedSimpArgs false
set_option linter.unusedVariables false

end Go.Proofs.Ytjcohmljpokgcaa
