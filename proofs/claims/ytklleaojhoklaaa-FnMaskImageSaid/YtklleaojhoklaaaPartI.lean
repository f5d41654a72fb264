/- Contract of buildPart of colors, in the program. -/
import Derived.Test.YtklleaojhoklaaaGridF
import Derived.Test.YtklleaojhoklaaaBoxI
namespace Go.Proofs.Ytklleaojhoklaaa
open Go.RowKit Go.Shelf
set_option linter.unusedSimpArgs false
set_option linter.unusedVariables false

end Go.Proofs.Ytklleaojhoklaaa
