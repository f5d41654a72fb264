/- Contract of buildPart of colors, in the program. -/
import Derived.Test.YtlkacohbfgcokaaDoorGridF
import Derived.Test.YtlkacohbfgcokaaDoorBoxI
namespace Go.Proofs.YtlkacohbfgcokaaDoor
open Go.RowKit Go.Shelf
set_option linter.unusedSimpArgs false
set_option linter.unusedVariables false

end Go.Proofs.YtlkacohbfgcokaaDoor
