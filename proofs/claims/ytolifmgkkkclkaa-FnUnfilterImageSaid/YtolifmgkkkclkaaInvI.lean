/- Contract of InvertImage in the program. -/
import Derived.Test.YtolifmgkkkclkaaImgE
namespace Go.Proofs.Ytolifmgkkkclkaa
open Go.RowKit
set_option linter.unusedSimpArgs false
set_option linter.unusedVariables false

def inv (xs : List Int) : List Int := xs.map (fun n => 255 - n)
theorem inv_len (xs : List Int) : (inv xs).length = xs.length := by simp [inv]
theorem inv_step (xs : List Int) (j : Nat) (hj : j < xs.length) : (inv xs).take (j + 1) = (inv xs).take j ++ [255 - xs.getD j 0] := by
  rw [List.take_succ_eq_append_getElem (by rw [inv_len]; exact hj)]
  simp [inv, hj]
theorem set_nxt (ys : List Int) (m n : Nat) (y : Int) (hm : 0 < m) (hn : n = ys.length) : (ys ++ zeros m).set n y = (ys ++ [y]) ++ zeros (m - 1) := by
  subst hn
  obtain ⟨m, rfl⟩ : ∃ j, m = j + 1 := ⟨m - 1, by omega⟩
  rw [List.set_append_right _ _ (Nat.le_refl _)]
  simp [zeros, List.replicate_succ]
/-- An image, or the zero value. -/
def MadeIf (b : Bool) (W H P : Int) (xs : List Int) (w : World) (e : Ending) (w' : World) : Prop := MadeI (cond b W 0) (cond b H 0) (cond b P 0) (cond b xs []) w e w'
theorem MadeIf.no {b : Bool} {W H P : Int} {xs : List Int} {w w' : World} {e : Ending} (h : b = false) (hm : MadeI 0 0 0 [] w e w') : MadeIf b W H P xs w e w' := by rw [h]; exact hm
theorem MadeIf.yes {b : Bool} {W H P : Int} {xs : List Int} {w w' : World} {e : Ending} (h : b = true) (hm : MadeI W H P xs w e w') : MadeIf b W H P xs w e w' := by rw [h]; exact hm
theorem im_end {w wr : World} {r base : Nat} {v : Value} {ys : List Int} (hO : Own wr base v ys) (hr : r < base) (hw : w.heap.size ≤ r) (hB : Below w.heap.size w wr) (x0 x1 x2 x3 : Value) :
    Own ((((wr.setCell ⟨r, 0, none⟩ x0).setCell ⟨r, 1, none⟩ x1).setCell ⟨r, 2, none⟩ x2).setCell ⟨r, 3, none⟩ x3) w.heap.size v ys ∧ Below w.heap.size w ((((wr.setCell ⟨r, 0, none⟩ x0).setCell ⟨r, 1, none⟩ x1).setCell ⟨r, 2, none⟩ x2).setCell ⟨r, 3, none⟩ x3) :=
  ⟨((((hO.setB (p := ⟨r, 0, none⟩) hr x0).setB (p := ⟨r, 1, none⟩) hr x1).setB (p := ⟨r, 2, none⟩) hr x2).setB (p := ⟨r, 3, none⟩) hr x3).base_le (by omega),
   (((hB.setCell (p := ⟨r, 0, none⟩) hw x0).setCell (p := ⟨r, 1, none⟩) hw x1).setCell (p := ⟨r, 2, none⟩) hw x2).setCell (p := ⟨r, 3, none⟩) hw x3⟩
theorem Bx.fz {w : World} {g : Nat} {t : TypeId} {cs : Array Value} (h : Bx w g t cs) (i : Nat) : w.frozen? ⟨g, i, none⟩ = false := frozen_of_row w g i cs t h
end Go.Proofs.Ytolifmgkkkclkaa
