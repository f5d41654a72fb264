/- Contracts of pixels in the model: reading and writing one. -/
import Derived.Test.YtolifmgkkkclkaaGridB
import Derived.Test.YtolifmgkkkclkaaInvI
import Derived.RegionTactic
import Derived.BigRegion
namespace Go.Proofs.Ytolifmgkkkclkaa
open Go.RowKit
set_option linter.unusedSimpArgs false
set_option linter.unusedVariables false

theorem copyInts_at (A : Option Addr) (c n : Nat) (q : List Int) (hn : n = q.length) (w : World) (h : Rds .i64 w w.heap.size A q) (hl : n ≤ 2000000) :
    Calls Try.prog 55 #[.slice A n c] w (Made q w) := by
  subst hn
  exact copyInts_any A c q w h hl
end Go.Proofs.Ytolifmgkkkclkaa
