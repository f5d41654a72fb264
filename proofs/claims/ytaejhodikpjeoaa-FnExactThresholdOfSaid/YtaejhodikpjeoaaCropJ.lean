/- Contract of CropImage in the program (by buildPart and the method value at). -/
import Derived.Test.YtaejhodikpjeoaaCropS
import Derived.Test.YtaejhodikpjeoaaPartI
import Derived.Test.YtaejhodikpjeoaaImgS
import Derived.Deep.RegionHeld3
namespace Go.Proofs.Ytaejhodikpjeoaa
open Go.RowKit Go.Shelf
set_option linter.unusedSimpArgs false
set_option linter.unusedVariables false

end Go.Proofs.Ytaejhodikpjeoaa
