/- Contract of the program's region of the pixels that a function picks. -/
import Derived.Test.YtbjgjjhfnaiocaaDoorRnS
import Derived.Shelf.Abstract
namespace Go.Proofs.YtbjgjjhfnaiocaaDoor
open Go.RowKit
set_option linter.unusedSimpArgs false
set_option linter.unusedVariables false
set_option maxRecDepth 20000

theorem RnSt.call {u w w' : World} {base : Nat} {l : Value} {xs : List Int} (h : RnSt u base w l xs) (hb : Below w.heap.size w w') (hB : base ≤ w.heap.size) : RnSt u base w' l xs := by
  obtain ⟨n, h1, h2, h3, h4⟩ := h
  exact ⟨n, h1, h2, h3.below hb (Nat.le_refl _), h4.trans (hb.mono hB)⟩
theorem set_last {L : List Int} {m : Nat} (hl : L.length = 3 * m) (a b c d : Int) : (L ++ [a, b, c]).set (m * 3 + 2) d = L ++ [a, b, d] := by
  rw [List.set_append_right _ _ (by omega), show m * 3 + 2 - L.length = 2 by omega]
  rfl
end Go.Proofs.YtbjgjjhfnaiocaaDoor
