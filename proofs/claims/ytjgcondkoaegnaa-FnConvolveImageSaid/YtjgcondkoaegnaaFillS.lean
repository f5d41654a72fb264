/- Contract of FillImage in the model. -/
import Derived.Test.YtjgcondkoaegnaaFillI
import Derived.Test.YtjgcondkoaegnaaSpecM
namespace Go.Proofs.Ytjgcondkoaegnaa
open Go.RowKit
set_option linter.unusedSimpArgs false
set_option linter.unusedVariables false

end Go.Proofs.Ytjgcondkoaegnaa
