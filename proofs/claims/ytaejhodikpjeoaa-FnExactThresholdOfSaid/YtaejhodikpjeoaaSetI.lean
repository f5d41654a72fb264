/- Contracts of SetPixel: the cell of a grid is replaced (program), the numbers of a pixel are written (model). -/
import Derived.Test.YtaejhodikpjeoaaLSt
import Derived.Test.YtaejhodikpjeoaaFillI
import Derived.Test.YtaejhodikpjeoaaSpecM
namespace Go.Proofs.Ytaejhodikpjeoaa
open Go.RowKit Go.Shelf
set_option linter.unusedSimpArgs false
set_option linter.unusedVariables false

theorem OwnC.put {w : World} {base g cap n : Nat} {xs : List Int} (h : OwnC w base (.slice (some ⟨g, 0, none⟩) n cap) n xs) (j : Nat) (y : Int) :
    OwnC (w.setCell ⟨g, j, none⟩ (.int .i64 y)) base (.slice (some ⟨g, 0, none⟩) n cap) n (xs.set j y) ∧ w.grownBy (w.setCell ⟨g, j, none⟩ (.int .i64 y)) (some g) := by
  have := World.ownsRow.stored h j (.int .i64 y)
  refine ⟨?_, this.2⟩
  unfold OwnC
  simpa [List.map_set] using this.1
theorem OwnC.cell {w : World} {base g cap n : Nat} {xs : List Int} (h : OwnC w base (.slice (some ⟨g, 0, none⟩) n cap) n xs) {j : Nat} (hj : j < xs.length) : w.cell? ⟨g, j, none⟩ = some (.int .i64 (xs.getD j 0)) := by
  rw [World.ownsRow.cellAt h j (by have := h.len; omega)]
  simp [hj]
theorem OwnC.frozen {w : World} {base g cap n : Nat} {xs : List Int} (h : OwnC w base (.slice (some ⟨g, 0, none⟩) n cap) n xs) (j : Nat) : w.frozen? ⟨g, j, none⟩ = false := World.ownsRow.frozenAt h j
theorem OwnC.form {w : World} {base : Nat} {v : Value} {n : Nat} {xs : List Int} (h : OwnC w base v n xs) (hx : 0 < n) : ∃ g cap, v = .slice (some ⟨g, 0, none⟩) n cap ∧ base ≤ g ∧ g < w.heap.size ∧ n ≤ cap := by
  rcases h.2 with ⟨rfl, h0⟩ | ⟨g, cap, cur, rfl, hb, hg, hnc, _⟩
  · omega
  · refine ⟨g, cap, rfl, hb, ?_, hnc⟩
    rcases Nat.lt_or_ge g w.heap.size with hlt | hge
    · exact hlt
    · rw [Array.getElem?_eq_none hge] at hg; cases hg
/-- The cells of an image in which one pixel is new. -/
def setF (F : Nat → Nat → Nat → Int) (x y : Nat) (q : List Int) : Nat → Nat → Nat → Int := fun X Y p => if X = x ∧ Y = y then q.getD p 0 else F X Y p
theorem setk_img {W H P x y : Nat} {q : List Int} (F : Nat → Nat → Nat → Int) (hx : x < W) (hy : y < H) : setk W P x y q (img W H P F) P = img W H P (setF F x y q) := by
  refine img_eq (by rw [setk_len, img_len]) fun X Y p hX hY hp => ?_
  rw [setk_px (H := H) (img_len _ _ _ _) hX hx hy hp P (Nat.le_refl _), img_px F hX hY hp]
  unfold setF
  by_cases h : X = x ∧ Y = y
  · rw [if_pos ⟨h.1, h.2, hp⟩, if_pos h]
  · rw [if_neg (fun e => h ⟨e.1, e.2.1⟩), if_neg h]
def setOk (W H P : Int) (xs : List Int) (x y : Int) (q : List Int) : Bool := vim W H P xs && (onIm W H x y && (decide ((q.length : Int) = P) && allB 0 255 q))
/-- The numbers that SetPixel answers. -/
def setL (W H P : Nat) (xs : List Int) (x y : Nat) (q : List Int) : List Int := img W H P (setF (pxc W P xs) x y q)
/-- An image and whether it is one, made by the call. -/
def SetR (ok : Bool) (W H P : Int) (ys : List Int) (w : World) (e : Ending) (w' : World) : Prop :=
  ∃ v, e = .returned (.tuple #[.agg #[.int .i64 (cond ok W 0), .int .i64 (cond ok H 0), .int .i64 (cond ok P 0), v], .bool ok]) ∧ Own w' w.heap.size v (cond ok ys []) ∧ Below w.heap.size w w'
theorem SetR.no {ok : Bool} {W H P : Int} {ys : List Int} {w u : World} {r : Nat} (h : ok = false) (hr : r = w.heap.size + 1) (hB : Below w.heap.size w u) (v0 v1 v2 v3 : Value) :
    SetR ok W H P ys w (.returned (.tuple #[.agg #[.int .i64 0, .int .i64 0, .int .i64 0, .slice none 0 0], .bool false])) ((((u.setCell ⟨r, 0, none⟩ v0).setCell ⟨r, 1, none⟩ v1).setCell ⟨r, 2, none⟩ v2).setCell ⟨r, 3, none⟩ v3) := by
  subst h hr
  have := im_end (w := w) (r := w.heap.size + 1) (base := w.heap.size + 2) (show Own u (w.heap.size + 2) (.slice none 0 0) [] from World.ownsRow_nil _ _ _ _) (by omega) (by omega) hB v0 v1 v2 v3
  exact ⟨_, rfl, this.1, this.2⟩
theorem SetR.yes {ok : Bool} {W H P : Int} {ys : List Int} {w u : World} {r base : Nat} {v : Value} (h : ok = true) (hr : r = w.heap.size + 1) (hO : Own u base v ys) (hb : w.heap.size + 2 ≤ base) (hB : Below w.heap.size w u) (v0 v1 v2 v3 : Value) :
    SetR ok W H P ys w (.returned (.tuple #[.agg #[.int .i64 W, .int .i64 H, .int .i64 P, v], .bool true])) ((((u.setCell ⟨r, 0, none⟩ v0).setCell ⟨r, 1, none⟩ v1).setCell ⟨r, 2, none⟩ v2).setCell ⟨r, 3, none⟩ v3) := by
  subst h hr
  have := im_end (w := w) (r := w.heap.size + 1) (base := base) hO (by omega) (by omega) hB v0 v1 v2 v3
  exact ⟨_, rfl, this.1, this.2⟩
end Go.Proofs.Ytaejhodikpjeoaa
