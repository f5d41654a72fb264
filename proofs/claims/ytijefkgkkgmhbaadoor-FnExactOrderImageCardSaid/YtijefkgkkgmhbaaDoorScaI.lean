/- Sums of areas in the program. -/
import Derived.Test.YtijefkgkkgmhbaaDoorGridJ
import Derived.Test.YtijefkgkkgmhbaaDoorScaM
import Derived.Test.YtijefkgkkgmhbaaDoorDiv
import Derived.Test.YtijefkgkkgmhbaaDoorScale
namespace Go.Proofs.YtijefkgkkgmhbaaDoor
open Go.RowKit Go.Shelf
set_option linter.unusedSimpArgs false
set_option linter.unusedVariables false
set_option maxRecDepth 20000

end Go.Proofs.YtijefkgkkgmhbaaDoor
