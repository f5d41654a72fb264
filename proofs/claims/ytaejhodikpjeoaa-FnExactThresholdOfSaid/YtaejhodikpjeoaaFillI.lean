/- Contract of FillImage in the program. -/
import Derived.Test.YtaejhodikpjeoaaGridF
namespace Go.Proofs.Ytaejhodikpjeoaa
open Go.RowKit Go.Shelf
set_option linter.unusedSimpArgs false
set_option linter.unusedVariables false

/-- The numbers of an image with one color. -/
def fillL (W H : Nat) (q : List Int) : List Int := img W H q.length (fun x y p => q.getD p 0)
def fillOk (W H : Int) (q : List Int) : Bool := vsh W H q.length && allB 0 255 q
end Go.Proofs.Ytaejhodikpjeoaa
