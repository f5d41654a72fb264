/- Contract of crop and CropImage in the model. -/
import Derived.Test.YtaejhodikpjeoaaBoxI
namespace Go.Proofs.Ytaejhodikpjeoaa
open Go.RowKit Go.Shelf
set_option linter.unusedSimpArgs false
set_option linter.unusedVariables false

end Go.Proofs.Ytaejhodikpjeoaa
