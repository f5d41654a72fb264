/- Contract of CropImage in the program (by buildPart and the method value at). -/
import Derived.Test.YtebfaomlljekiaaCropS
import Derived.Test.YtebfaomlljekiaaPartI
import Derived.Test.YtebfaomlljekiaaImgS
import Derived.Deep.RegionHeld3
namespace Go.Proofs.Ytebfaomlljekiaa
open Go.RowKit Go.Shelf
set_option linter.unusedSimpArgs false
set_option linter.unusedVariables false

end Go.Proofs.Ytebfaomlljekiaa
