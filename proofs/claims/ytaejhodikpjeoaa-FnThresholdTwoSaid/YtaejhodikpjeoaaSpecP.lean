/- Contracts of pixels in the model: reading and writing one. -/
import Derived.Test.YtaejhodikpjeoaaGridB
import Derived.Test.YtaejhodikpjeoaaInvI
import Derived.RegionTactic
import Derived.BigRegion
namespace Go.Proofs.Ytaejhodikpjeoaa
open Go.RowKit
set_option linter.unusedSimpArgs false
set_option linter.unusedVariables false

end Go.Proofs.Ytaejhodikpjeoaa
