/- Scaling by areas in the program: one plane. -/
import Derived.Test.YtjgcondkoaegnaaScaI
namespace Go.Proofs.Ytjgcondkoaegnaa
open Go.RowKit Go.Shelf
set_option linter.unusedSimpArgs false
set_option linter.unusedVariables false
set_option maxRecDepth 20000

def arN (W H a b : Nat) (f : Nat → Nat → Int) (x y : Nat) : Int := mnA (saF W H a b f x y) (W * H)
end Go.Proofs.Ytjgcondkoaegnaa
