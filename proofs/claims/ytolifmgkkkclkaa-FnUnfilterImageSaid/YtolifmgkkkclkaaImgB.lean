/- Contracts of copying and inverting images. -/
import Derived.Test.YtolifmgkkkclkaaImgA
import Derived.Deep.RegionLaw
import Derived.Deep.RegionHeld3
import Derived.RegionTactic
import Derived.BigRegion
namespace Go.Proofs.Ytolifmgkkkclkaa
open Go.RowKit
set_option linter.unusedSimpArgs false
set_option linter.unusedVariables false

theorem box_cell {w : World} {g : Nat} {cs : Array Value} {t : TypeId} (h : w.heap[g]? = some (.cells cs t (0, 0))) (i : Nat) : w.cell? ⟨g, i, none⟩ = cs[i]? := cell_of_row w g i cs t _ h
theorem box_free {w : World} {g : Nat} {cs : Array Value} {t : TypeId} (h : w.heap[g]? = some (.cells cs t (0, 0))) (i : Nat) : w.frozen? ⟨g, i, none⟩ = false := frozen_of_row w g i cs t h
theorem box_get {a b c d : Value} : #[a, b, c, d][0]? = some a ∧ #[a, b, c, d][1]? = some b ∧ #[a, b, c, d][2]? = some c ∧ #[a, b, c, d][3]? = some d := ⟨rfl, rfl, rfl, rfl⟩
end Go.Proofs.Ytolifmgkkkclkaa
