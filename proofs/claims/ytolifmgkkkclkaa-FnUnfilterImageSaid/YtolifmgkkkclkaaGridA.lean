/- Contracts of colors and grids: a color is an array of four numbers, a grid of colors a list of four numbers a cell. -/
import Derived.Test.YtolifmgkkkclkaaProg
import Derived.WalkKit
import Derived.Laws.CopyOwn
import Derived.Shelf.Abstract
import Derived.Test.YtolifmgkkkclkaaImgE
import Derived.Test.YtolifmgkkkclkaaPix
namespace Go.Proofs.Ytolifmgkkkclkaa
open Go.RowKit
set_option linter.unusedSimpArgs false
set_option linter.unusedVariables false

/-- The value of a color. -/
def colV (c : Nat → Int) : Value := .agg #[.int .i64 (c 0), .int .i64 (c 1), .int .i64 (c 2), .int .i64 (c 3)]
theorem below_dn {B : Nat} {a w : World} (h : Below B a w) (n : Nat) : Below B a (w.drewN n) := ⟨h.os, h.tape, h.output, h.size, h.block⟩
end Go.Proofs.Ytolifmgkkkclkaa
