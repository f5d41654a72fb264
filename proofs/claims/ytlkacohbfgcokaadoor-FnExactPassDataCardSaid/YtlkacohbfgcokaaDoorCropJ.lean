/- Contract of CropImage in the program (by buildPart and the method value at). -/
import Derived.Test.YtlkacohbfgcokaaDoorCropS
import Derived.Test.YtlkacohbfgcokaaDoorPartI
import Derived.Test.YtlkacohbfgcokaaDoorImgS
import Derived.Deep.RegionHeld3
namespace Go.Proofs.YtlkacohbfgcokaaDoor
open Go.RowKit Go.Shelf
set_option linter.unusedSimpArgs false
set_option linter.unusedVariables false

end Go.Proofs.YtlkacohbfgcokaaDoor
