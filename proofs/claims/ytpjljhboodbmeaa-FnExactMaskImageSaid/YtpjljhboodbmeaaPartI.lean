/- Contract of buildPart of colors, in the program. -/
import Derived.Test.YtpjljhboodbmeaaGridF
import Derived.Test.YtpjljhboodbmeaaBoxI
namespace Go.Proofs.Ytpjljhboodbmeaa
open Go.RowKit Go.Shelf
set_option linter.unusedSimpArgs false
set_option linter.unusedVariables false

end Go.Proofs.Ytpjljhboodbmeaa
