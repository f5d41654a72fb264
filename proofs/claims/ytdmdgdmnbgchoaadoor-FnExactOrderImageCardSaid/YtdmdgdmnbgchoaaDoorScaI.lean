/- Sums of areas in the program. -/
import Derived.Test.YtdmdgdmnbgchoaaDoorGridJ
import Derived.Test.YtdmdgdmnbgchoaaDoorScaM
import Derived.Test.YtdmdgdmnbgchoaaDoorDiv
import Derived.Test.YtdmdgdmnbgchoaaDoorScale
namespace Go.Proofs.YtdmdgdmnbgchoaaDoor
open Go.RowKit Go.Shelf
set_option linter.unusedSimpArgs false
set_option linter.unusedVariables false
set_option maxRecDepth 20000

end Go.Proofs.YtdmdgdmnbgchoaaDoor
