/- Sums of areas in the program. -/
import Derived.Test.YtjgcondkoaegnaaGridJ
import Derived.Test.YtjgcondkoaegnaaScaM
import Derived.Test.YtjgcondkoaegnaaDiv
import Derived.Test.YtjgcondkoaegnaaScale
namespace Go.Proofs.Ytjgcondkoaegnaa
open Go.RowKit Go.Shelf
set_option linter.unusedSimpArgs false
set_option linter.unusedVariables false
set_option maxRecDepth 20000

end Go.Proofs.Ytjgcondkoaegnaa
