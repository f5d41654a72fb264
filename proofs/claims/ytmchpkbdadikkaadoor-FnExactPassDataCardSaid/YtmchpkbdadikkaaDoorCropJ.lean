/- Contract of CropImage in the program (by buildPart and the method value at). -/
import Derived.Test.YtmchpkbdadikkaaDoorCropS
import Derived.Test.YtmchpkbdadikkaaDoorPartI
import Derived.Test.YtmchpkbdadikkaaDoorImgS
import Derived.Deep.RegionHeld3
namespace Go.Proofs.YtmchpkbdadikkaaDoor
open Go.RowKit Go.Shelf
set_option linter.unusedSimpArgs false
set_option linter.unusedVariables false

end Go.Proofs.YtmchpkbdadikkaaDoor
