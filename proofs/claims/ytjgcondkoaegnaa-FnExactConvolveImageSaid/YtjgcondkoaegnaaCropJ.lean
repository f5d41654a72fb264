/- Contract of CropImage in the program (by buildPart and the method value at). -/
import Derived.Test.YtjgcondkoaegnaaCropS
import Derived.Test.YtjgcondkoaegnaaPartI
import Derived.Test.YtjgcondkoaegnaaImgS
import Derived.Deep.RegionHeld3
namespace Go.Proofs.Ytjgcondkoaegnaa
open Go.RowKit Go.Shelf
set_option linter.unusedSimpArgs false
set_option linter.unusedVariables false

end Go.Proofs.Ytjgcondkoaegnaa
