/- Contracts of the sizes that an exact law takes of its arguments, for every rest. -/
import Derived.Test.YtbjgjjhfnaiocaaDoorGen
namespace Go.Proofs.YtbjgjjhfnaiocaaDoor
open Go.RowKit
set_option linter.unusedSimpArgs false
set_option linter.unusedVariables false

end Go.Proofs.YtbjgjjhfnaiocaaDoor
