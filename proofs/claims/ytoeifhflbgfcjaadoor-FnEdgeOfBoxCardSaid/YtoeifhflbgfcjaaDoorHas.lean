/- Contracts of RegionHas, in the program. -/
import Derived.Test.YtoeifhflbgfcjaaDoorReg2
import Derived.Test.YtoeifhflbgfcjaaDoorReg3
import Derived.Shelf.Abstract
import Derived.Laws.EntriesVeiled
namespace Go.Proofs.YtoeifhflbgfcjaaDoor
open Go.RowKit
set_option linter.unusedSimpArgs false
set_option linter.unusedVariables false
set_option maxRecDepth 20000

/-- Whether a run has the pixel in column x and row y. -/
def runB (y0 f t x y : Int) : Bool := decide (y = y0) && decide (f ≤ x ∧ x ≤ t - 1)
/-- Whether one of the first k runs has it. -/
def rh (xs : List Int) (x y : Int) : Nat → Bool
  | 0 => false
  | k + 1 => rh xs x y k || runB (gY xs k) (gF xs k) (gT xs k) x y
def rhas (xs : List Int) (n : Nat) (x y : Int) : Bool := regB xs n && rh xs x y n
theorem rh_hit {xs : List Int} {x y : Int} {n j : Nat} (hj : j < n) (h : runB (gY xs j) (gF xs j) (gT xs j) x y = true) : rh xs x y n = true := by
  induction n with
  | zero => omega
  | succ k ih =>
    unfold rh
    by_cases e : j = k
    · subst e; rw [h, Bool.or_true]
    · rw [ih (by omega), Bool.true_or]
theorem rh_miss {xs : List Int} {x y : Int} {k : Nat} (h0 : rh xs x y k = false) (h : runB (gY xs k) (gF xs k) (gT xs k) x y = false) : rh xs x y (k + 1) = false := by unfold rh; rw [h0, h]; rfl
theorem bnds {xs : List Int} {n k : Nat} (h : reg xs n) (hk : k < n) : (0 ≤ gY xs k ∧ gY xs k ≤ 15) ∧ (0 ≤ gF xs k ∧ gF xs k ≤ 15) ∧ (gF xs k + 1 ≤ gT xs k ∧ gT xs k ≤ 16) := vrunB_bd (regAt_parts (h k hk)).1
end Go.Proofs.YtoeifhflbgfcjaaDoor
