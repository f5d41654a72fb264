/- Contract of CropImage in the program (by buildPart and the method value at). -/
import Derived.Test.YtpjljhboodbmeaaCropS
import Derived.Test.YtpjljhboodbmeaaPartI
import Derived.Test.YtpjljhboodbmeaaImgS
import Derived.Deep.RegionHeld3
namespace Go.Proofs.Ytpjljhboodbmeaa
open Go.RowKit Go.Shelf
set_option linter.unusedSimpArgs false
set_option linter.unusedVariables false

end Go.Proofs.Ytpjljhboodbmeaa
