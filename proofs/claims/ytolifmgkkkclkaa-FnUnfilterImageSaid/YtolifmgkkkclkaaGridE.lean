/- Contracts of grids of colors that are mirrored, turned and transposed. -/
import Derived.Test.YtolifmgkkkclkaaGridD
import Derived.Deep.QuietTactic
import Derived.BigQuiet
import Derived.IntWalk
namespace Go.Proofs.Ytolifmgkkkclkaa
open Go.RowKit Go.Shelf
set_option linter.unusedSimpArgs false
set_option linter.unusedVariables false

end Go.Proofs.Ytolifmgkkkclkaa
