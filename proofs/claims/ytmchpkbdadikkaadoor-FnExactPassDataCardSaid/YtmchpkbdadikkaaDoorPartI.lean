/- Contract of buildPart of colors, in the program. -/
import Derived.Test.YtmchpkbdadikkaaDoorGridF
import Derived.Test.YtmchpkbdadikkaaDoorBoxI
namespace Go.Proofs.YtmchpkbdadikkaaDoor
open Go.RowKit Go.Shelf
set_option linter.unusedSimpArgs false
set_option linter.unusedVariables false

end Go.Proofs.YtmchpkbdadikkaaDoor
