/- IndexImage: what it answers. -/
import Derived.Test.YtjcohmljpokgcaaNcM
import Derived.Test.YtjcohmljpokgcaaImgA
namespace Go.Proofs.Ytjcohmljpokgcaa
set_option linter.unusedVariables false

/-- Whether an image can be told by a palette. -/
def ixOk (W H P : Int) (xs : List Int) (xss : List (List Int)) : Bool := vim W H P xs && (palB xss P && !decide (xss.length = 0))
def ixF (W P : Nat) (xs : List Int) (xss : List (List Int)) (x y p : Nat) : Int := nbI xss (pxl W P xs x y) xss.length
def ixL (W H P : Nat) (xs : List Int) (xss : List (List Int)) : List Int := img W H 1 (ixF W P xs xss)
end Go.Proofs.Ytjcohmljpokgcaa
