/- Sums of areas in the program. -/
import Derived.Test.YtkjebidkkopalaaGridJ
import Derived.Test.YtkjebidkkopalaaScaM
import Derived.Test.YtkjebidkkopalaaDiv
import Derived.Test.YtkjebidkkopalaaScale
namespace Go.Proofs.Ytkjebidkkopalaa
open Go.RowKit Go.Shelf
set_option linter.unusedSimpArgs false
set_option linter.unusedVariables false
set_option maxRecDepth 20000

end Go.Proofs.Ytkjebidkkopalaa
