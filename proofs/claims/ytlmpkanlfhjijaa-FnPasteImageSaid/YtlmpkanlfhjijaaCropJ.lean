/- Contract of CropImage in the program (by buildPart and the method value at). -/
import Derived.Test.YtlmpkanlfhjijaaCropS
import Derived.Test.YtlmpkanlfhjijaaPartI
import Derived.Test.YtlmpkanlfhjijaaImgS
import Derived.Deep.RegionHeld3
namespace Go.Proofs.Ytlmpkanlfhjijaa
open Go.RowKit Go.Shelf
set_option linter.unusedSimpArgs false
set_option linter.unusedVariables false

end Go.Proofs.Ytlmpkanlfhjijaa
