/- Contract of InvertImage in the model. -/
import Derived.Test.YtolifmgkkkclkaaInvI
import Derived.Test.YtolifmgkkkclkaaImgB
namespace Go.Proofs.Ytolifmgkkkclkaa
open Go.RowKit
set_option linter.unusedSimpArgs false
set_option linter.unusedVariables false

theorem inv_put (xs : List Int) (j : Nat) (hj : j < xs.length) : ((inv xs).take j ++ xs.drop j).set j (255 - xs.getD j 0) = (inv xs).take (j + 1) ++ xs.drop (j + 1) := by
  have hlj : ((inv xs).take j).length = j := by simp [inv]; omega
  have hd : xs.drop j = xs[j] :: xs.drop (j + 1) := List.drop_eq_getElem_cons hj
  rw [inv_step xs j hj, List.set_append_right _ _ (by omega), hlj, Nat.sub_self, hd, List.set_cons_zero, List.append_assoc]
  rfl
end Go.Proofs.Ytolifmgkkkclkaa
