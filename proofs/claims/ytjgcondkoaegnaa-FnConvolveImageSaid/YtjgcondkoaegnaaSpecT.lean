/- Contracts of the loops of the model over all pixels: transpose. -/
import Derived.Test.YtjgcondkoaegnaaSpecM
namespace Go.Proofs.Ytjgcondkoaegnaa
open Go.RowKit
set_option linter.unusedSimpArgs false
set_option linter.unusedVariables false

end Go.Proofs.Ytjgcondkoaegnaa
