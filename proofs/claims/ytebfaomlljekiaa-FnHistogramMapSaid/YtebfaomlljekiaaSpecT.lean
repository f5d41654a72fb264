/- Contracts of the loops of the model over all pixels: transpose. -/
import Derived.Test.YtebfaomlljekiaaSpecM
namespace Go.Proofs.Ytebfaomlljekiaa
open Go.RowKit
set_option linter.unusedSimpArgs false
set_option linter.unusedVariables false

end Go.Proofs.Ytebfaomlljekiaa
