/- Contract of MapImage in the model. -/
import Derived.Test.YtjcohmljpokgcaaMapI
import Derived.Test.YtjcohmljpokgcaaImgB
namespace Go.Proofs.Ytjcohmljpokgcaa
open Go.RowKit Go.Shelf
set_option linter.unusedSimpArgs false
set_option linter.unusedVariables false
set_option maxRecDepth 20000

theorem map_put (f : Int → Int) (xs : List Int) (j : Nat) (hj : j < xs.length) : ((xs.map f).take j ++ xs.drop j).set j (f (xs.getD j 0)) = (xs.map f).take (j + 1) ++ xs.drop (j + 1) := by
  have hlj : ((xs.map f).take j).length = j := by simp; omega
  have hd : xs.drop j = xs[j] :: xs.drop (j + 1) := List.drop_eq_getElem_cons hj
  rw [map_step f xs j hj, List.set_append_right _ _ (by omega), hlj, Nat.sub_self, hd, List.set_cons_zero, List.append_assoc]
  rfl
theorem vim_pos {W H P : Int} {xs : List Int} (hv : vim W H P xs = true) : 0 < xs.length := by
  have hv' : vim W H P xs = (vsh W H P && (decide ((xs.length : Int) = W * H * P) && allB 0 255 xs)) := rfl
  rw [hv] at hv'
  have hs : vsh W H P = true := by
    cases h : vsh W H P
    · rw [h] at hv'; simp at hv'
    · rfl
  have hd : (xs.length : Int) = W * H * P := by
    by_cases h : (xs.length : Int) = W * H * P
    · exact h
    · rw [decide_eq_false h] at hv'; simp at hv'
  have := vsh_bd hs
  omega
end Go.Proofs.Ytjcohmljpokgcaa
