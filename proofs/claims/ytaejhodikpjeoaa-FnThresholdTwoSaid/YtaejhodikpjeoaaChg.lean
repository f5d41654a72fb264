/- Replacing the numbers of an image by what a function makes of them. -/
import Derived.Test.YtaejhodikpjeoaaInvI
namespace Go.Proofs.Ytaejhodikpjeoaa
open Go.RowKit
set_option linter.unusedSimpArgs false
set_option linter.unusedVariables false

theorem map_step (f : Int → Int) (xs : List Int) (j : Nat) (hj : j < xs.length) : (xs.map f).take (j + 1) = (xs.map f).take j ++ [f (xs.getD j 0)] := by
  rw [List.take_succ_eq_append_getElem (by rw [List.length_map]; exact hj)]
  simp [hj]
end Go.Proofs.Ytaejhodikpjeoaa
