/- Contract of buildPart of colors, in the program. -/
import Derived.Test.YtlmpkanlfhjijaaGridF
import Derived.Test.YtlmpkanlfhjijaaBoxI
namespace Go.Proofs.Ytlmpkanlfhjijaa
open Go.RowKit Go.Shelf
set_option linter.unusedSimpArgs false
set_option linter.unusedVariables false

end Go.Proofs.Ytlmpkanlfhjijaa
