/- Contract of CropImage in the program (by buildPart and the method value at). -/
import Derived.Test.YtklleaojhoklaaaCropS
import Derived.Test.YtklleaojhoklaaaPartI
import Derived.Test.YtklleaojhoklaaaImgS
import Derived.Deep.RegionHeld3
namespace Go.Proofs.Ytklleaojhoklaaa
open Go.RowKit Go.Shelf
set_option linter.unusedSimpArgs false
set_option linter.unusedVariables false

end Go.Proofs.Ytklleaojhoklaaa
