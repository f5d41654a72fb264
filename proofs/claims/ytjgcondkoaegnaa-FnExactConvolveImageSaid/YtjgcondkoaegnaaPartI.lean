/- Contract of buildPart of colors, in the program. -/
import Derived.Test.YtjgcondkoaegnaaGridF
import Derived.Test.YtjgcondkoaegnaaBoxI
namespace Go.Proofs.Ytjgcondkoaegnaa
open Go.RowKit Go.Shelf
set_option linter.unusedSimpArgs false
set_option linter.unusedVariables false

end Go.Proofs.Ytjgcondkoaegnaa
