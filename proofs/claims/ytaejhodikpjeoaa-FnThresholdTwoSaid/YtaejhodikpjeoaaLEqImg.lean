/- Contract of the laws' equalImage, and words for the laws over a drawn image. -/
import Derived.Test.YtaejhodikpjeoaaImgS
import Derived.Test.YtaejhodikpjeoaaInvS
import Derived.Test.YtaejhodikpjeoaaGridF
namespace Go.Proofs.Ytaejhodikpjeoaa
open Go.RowKit
set_option linter.unusedSimpArgs false
set_option linter.unusedVariables false

theorem MadeIf.f {b : Bool} {W H P : Int} {xs : List Int} {w w' : World} {e : Ending} (hb : b = false) (h : MadeIf b W H P xs w e w') : MadeI 0 0 0 [] w e w' := by subst hb; exact h
theorem MadeIf.t {b : Bool} {W H P : Int} {xs : List Int} {w w' : World} {e : Ending} (hb : b = true) (h : MadeIf b W H P xs w e w') : MadeI W H P xs w e w' := by subst hb; exact h
theorem inv_inv (xs : List Int) : inv (inv xs) = xs := by
  unfold inv
  rw [List.map_map]
  conv => rhs; rw [← List.map_id xs]
  apply List.map_congr_left
  intro x _
  show 255 - (255 - x) = x
  omega
theorem vim_inv {W H P : Int} {xs : List Int} (h : vim W H P xs = true) : vim W H P (inv xs) = true := by
  have h' : (vsh W H P && (decide ((xs.length : Int) = W * H * P) && allB 0 255 xs)) = true := h
  simp only [Bool.and_eq_true, decide_eq_true_eq] at h'
  obtain ⟨h1, h2, h3⟩ := h'
  show (vsh W H P && (decide (((inv xs).length : Int) = W * H * P) && allB 0 255 (inv xs))) = true
  simp only [Bool.and_eq_true, decide_eq_true_eq, inv_len]
  refine ⟨h1, h2, decide_eq_true ?_⟩
  intro y hy
  obtain ⟨x, hx, rfl⟩ := List.mem_map.1 hy
  have := of_decide_eq_true h3 x hx
  omega
end Go.Proofs.Ytaejhodikpjeoaa
