/- Contracts of InvertImage and MapImage in the program. -/
import Derived.Test.YtaejhodikpjeoaaChg
import Derived.Test.YtaejhodikpjeoaaGenP
import Derived.Shelf.Abstract
namespace Go.Proofs.Ytaejhodikpjeoaa
open Go.RowKit Go.Shelf
set_option linter.unusedSimpArgs false
set_option linter.unusedVariables false
set_option maxRecDepth 20000

theorem bytes_of {W H P : Int} {xs : List Int} (hv : vim W H P xs = true) : ∀ j, j < xs.length → 0 ≤ xs.getD j 0 ∧ xs.getD j 0 ≤ 255 := fun j hj => by
  have hv' : vim W H P xs = (vsh W H P && (decide ((xs.length : Int) = W * H * P) && allB 0 255 xs)) := rfl
  rw [hv] at hv'
  have ha : allB 0 255 xs = true := by
    cases h : allB 0 255 xs
    · rw [h] at hv'; simp at hv'
    · rfl
  have := of_decide_eq_true ha (xs[j]) (List.getElem_mem hj)
  simpa [hj] using this
/-- An image and whether there is one. -/
def MadeIb (b : Bool) (W H P : Int) (xs : List Int) (w : World) (e : Ending) (w' : World) : Prop :=
  ∃ v, e = .returned (.tuple #[.agg #[.int .i64 (cond b W 0), .int .i64 (cond b H 0), .int .i64 (cond b P 0), v], .bool b]) ∧ Own w' w.heap.size v (cond b xs []) ∧ Below w.heap.size w w'
end Go.Proofs.Ytaejhodikpjeoaa
