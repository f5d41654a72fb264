/- Contracts of SetPixel: the cell of a grid is replaced (program), the numbers of a pixel are written (model). -/
import Derived.Test.YtlkacohbfgcokaaDoorLSt
import Derived.Test.YtlkacohbfgcokaaDoorFillI
import Derived.Test.YtlkacohbfgcokaaDoorSpecM
namespace Go.Proofs.YtlkacohbfgcokaaDoor
open Go.RowKit Go.Shelf
set_option linter.unusedSimpArgs false
set_option linter.unusedVariables false

theorem OwnC.put {w : World} {base g cap n : Nat} {xs : List Int} (h : OwnC w base (.slice (some ⟨g, 0, none⟩) n cap) n xs) (j : Nat) (y : Int) :
    OwnC (w.setCell ⟨g, j, none⟩ (.int .i64 y)) base (.slice (some ⟨g, 0, none⟩) n cap) n (xs.set j y) ∧ w.grownBy (w.setCell ⟨g, j, none⟩ (.int .i64 y)) (some g) := by
  have := World.ownsRow.stored h j (.int .i64 y)
  refine ⟨?_, this.2⟩
  unfold OwnC
  simpa [List.map_set] using this.1
theorem OwnC.cell {w : World} {base g cap n : Nat} {xs : List Int} (h : OwnC w base (.slice (some ⟨g, 0, none⟩) n cap) n xs) {j : Nat} (hj : j < xs.length) : w.cell? ⟨g, j, none⟩ = some (.int .i64 (xs.getD j 0)) := by
  rw [World.ownsRow.cellAt h j (by have := h.len; omega)]
  simp [hj]
theorem OwnC.frozen {w : World} {base g cap n : Nat} {xs : List Int} (h : OwnC w base (.slice (some ⟨g, 0, none⟩) n cap) n xs) (j : Nat) : w.frozen? ⟨g, j, none⟩ = false := World.ownsRow.frozenAt h j
theorem OwnC.form {w : World} {base : Nat} {v : Value} {n : Nat} {xs : List Int} (h : OwnC w base v n xs) (hx : 0 < n) : ∃ g cap, v = .slice (some ⟨g, 0, none⟩) n cap ∧ base ≤ g ∧ g < w.heap.size ∧ n ≤ cap := by
  rcases h.2 with ⟨rfl, h0⟩ | ⟨g, cap, cur, rfl, hb, hg, hnc, _⟩
  · omega
  · refine ⟨g, cap, rfl, hb, ?_, hnc⟩
    rcases Nat.lt_or_ge g w.heap.size with hlt | hge
    · exact hlt
    · rw [Array.getElem?_eq_none hge] at hg; cases hg
/-- The cells of an image in which one pixel is new. -/
def setF (F : Nat → Nat → Nat → Int) (x y : Nat) (q : List Int) : Nat → Nat → Nat → Int := fun X Y p => if X = x ∧ Y = y then q.getD p 0 else F X Y p
theorem setk_img {W H P x y : Nat} {q : List Int} (F : Nat → Nat → Nat → Int) (hx : x < W) (hy : y < H) : setk W P x y q (img W H P F) P = img W H P (setF F x y q) := by
  refine img_eq (by rw [setk_len, img_len]) fun X Y p hX hY hp => ?_
  rw [setk_px (H := H) (img_len _ _ _ _) hX hx hy hp P (Nat.le_refl _), img_px F hX hY hp]
  unfold setF
  by_cases h : X = x ∧ Y = y
  · rw [if_pos ⟨h.1, h.2, hp⟩, if_pos h]
  · rw [if_neg (fun e => h ⟨e.1, e.2.1⟩), if_neg h]
set_option maxRecDepth 20000 in
set_option maxHeartbeats 8000000 in
theorem set_any (W H : Nat) (hW : W ≤ 16) (hH : H ≤ 16) (base g c n : Nat) (hn : W * H = n) (F : Nat → Nat → Nat → Int) (x y : Nat) (hx : x < W) (hy : y < H) (q : List Int) (w : World) (hO : OwnC w base (.slice (some ⟨g, 0, none⟩) n c) n (img W H 4 F)) (hc : n ≤ c) :
    Calls Tryd.prog 68 #[.agg #[.int .i64 (W : Int), .int .i64 (H : Int), .slice (some ⟨g, 0, none⟩) n c], .int .i64 (x : Int), .int .i64 (y : Int), colV (fun p => q.getD p 0)] w
      fun e w' => e = .returned (.tuple #[]) ∧ OwnC w' base (.slice (some ⟨g, 0, none⟩) n c) n (img W H 4 (setF F x y q)) ∧ w.grownBy w' (some g) := by
  have hWH : W * H ≤ 256 := by have := Nat.mul_le_mul hW hH; omega
  have hlt := row_lt hx hy
  have hi : (y : Int) * (W : Int) + (x : Int) = ((y * W + x : Nat) : Int) := by simp
  have i0 : 0 ≤ (y : Int) * (W : Int) ∧ (y : Int) * (W : Int) ≤ 256 := by rw [← Int.natCast_mul]; omega
  have i1 : 0 ≤ (y : Int) * (W : Int) + (x : Int) := by rw [hi]; omega
  have i2 : (y : Int) * (W : Int) + (x : Int) < ((W * H : Nat) : Int) := by rw [hi]; omega
  obtain ⟨i0, i0'⟩ := i0
  have hl := img_len W H 4 F
  have HS := Lib.hid (setk_img (P := 4) (q := q) F hx hy)
  obtain ⟨L, hL⟩ : ∃ L, L = img W H 4 F := ⟨_, rfl⟩
  rw [← hL] at hO hl
  obtain ⟨v0, e0⟩ : ∃ v0, v0 = q.getD 0 0 := ⟨_, rfl⟩
  obtain ⟨v1, e1⟩ : ∃ v1, v1 = q.getD 1 0 := ⟨_, rfl⟩
  obtain ⟨v2, e2⟩ : ∃ v2, v2 = q.getD 2 0 := ⟨_, rfl⟩
  obtain ⟨v3, e3⟩ : ∃ v3, v3 = q.getD 3 0 := ⟨_, rfl⟩
  have HEL : Hid ((((L.set ((y * W + x) * 4) v0).set ((y * W + x) * 4 + 1) v1).set ((y * W + x) * 4 + 2) v2).set ((y * W + x) * 4 + 3) v3 = img W H 4 (setF F x y q)) := Lib.hid (by
    rw [← HS.out, hL, e0, e1, e2, e3]; rfl)
  obtain ⟨z0, c0⟩ : ∃ z, w.cell? ⟨g, (y * W + x) * 4, none⟩ = some (.int .i64 z) := ⟨_, hO.cell (by omega)⟩
  obtain ⟨z1, c1⟩ : ∃ z, w.cell? ⟨g, (y * W + x) * 4 + 1, none⟩ = some (.int .i64 z) := ⟨_, hO.cell (by omega)⟩
  obtain ⟨z2, c2⟩ : ∃ z, w.cell? ⟨g, (y * W + x) * 4 + 2, none⟩ = some (.int .i64 z) := ⟨_, hO.cell (by omega)⟩
  obtain ⟨z3, c3⟩ : ∃ z, w.cell? ⟨g, (y * W + x) * 4 + 3, none⟩ = some (.int .i64 z) := ⟨_, hO.cell (by omega)⟩
  have f0 := hO.frozen ((y * W + x) * 4)
  have f1 := hO.frozen ((y * W + x) * 4 + 1)
  have f2 := hO.frozen ((y * W + x) * 4 + 2)
  have f3 := hO.frozen ((y * W + x) * 4 + 3)
  have hgl : g < w.heap.size := (World.ownsRow.lt hO g rfl).2
  have Hn := Lib.hid hn
  have HE : Hid (OwnC ((((((w.setCell ⟨g, (y * W + x) * 4, none⟩ (.int .i64 v0)).setCell ⟨g, (y * W + x) * 4 + 1, none⟩ (.int .i64 v1)).setCell ⟨g, (y * W + x) * 4 + 2, none⟩ (.int .i64 v2)).setCell ⟨g, (y * W + x) * 4 + 3, none⟩ (.int .i64 v3)).alloc (.cells #[.int .i64 (W : Int), .int .i64 (H : Int), .slice (some ⟨g, 0, none⟩) n c] 58)).alloc (.cells #[.int .i64 v0, .int .i64 v1, .int .i64 v2, .int .i64 v3] 69)) base (.slice (some ⟨g, 0, none⟩) n c) n (img W H 4 (setF F x y q)) ∧ w.grownBy ((((((w.setCell ⟨g, (y * W + x) * 4, none⟩ (.int .i64 v0)).setCell ⟨g, (y * W + x) * 4 + 1, none⟩ (.int .i64 v1)).setCell ⟨g, (y * W + x) * 4 + 2, none⟩ (.int .i64 v2)).setCell ⟨g, (y * W + x) * 4 + 3, none⟩ (.int .i64 v3)).alloc (.cells #[.int .i64 (W : Int), .int .i64 (H : Int), .slice (some ⟨g, 0, none⟩) n c] 58)).alloc (.cells #[.int .i64 v0, .int .i64 v1, .int .i64 v2, .int .i64 v3] 69)) (some g)) := Lib.hid (by
    have p0 := hO.put ((y * W + x) * 4) v0
    have p1 := p0.1.put ((y * W + x) * 4 + 1) v1
    have p2 := p1.1.put ((y * W + x) * 4 + 2) v2
    have p3 := p2.1.put ((y * W + x) * 4 + 3) v3
    refine ⟨?_, gtrans p0.2 (gtrans p1.2 (gtrans p2.2 (gtrans p3.2 (gtrans (World.grownBy_alloc _ _ _) (World.grownBy_alloc _ _ _)))))⟩
    rw [← HEL.out]
    exact (p3.1.alloc _).alloc _)
  clear hO hL hn hi hl HS HEL
  rw [Hn.out] at i2 hlt
  simp only [colV, ← e0, ← e1, ← e2, ← e3]
  clear e0 e1 e2 e3
  go_enter Tryd.func68, Tryd.ntmps68
  go_wp2
  go_end0
  exact ⟨rfl, HE.out.1, HE.out.2⟩
def setOk (W H P : Int) (xs : List Int) (x y : Int) (q : List Int) : Bool := vim W H P xs && (onIm W H x y && (decide ((q.length : Int) = P) && allB 0 255 q))
/-- The numbers that SetPixel answers. -/
def setL (W H P : Nat) (xs : List Int) (x y : Nat) (q : List Int) : List Int := img W H P (setF (pxc W P xs) x y q)
/-- An image and whether it is one, made by the call. -/
def SetR (ok : Bool) (W H P : Int) (ys : List Int) (w : World) (e : Ending) (w' : World) : Prop :=
  ∃ v, e = .returned (.tuple #[.agg #[.int .i64 (cond ok W 0), .int .i64 (cond ok H 0), .int .i64 (cond ok P 0), v], .bool ok]) ∧ Own w' w.heap.size v (cond ok ys []) ∧ Below w.heap.size w w'
theorem SetR.no {ok : Bool} {W H P : Int} {ys : List Int} {w u : World} {r : Nat} (h : ok = false) (hr : r = w.heap.size + 1) (hB : Below w.heap.size w u) (v0 v1 v2 v3 : Value) :
    SetR ok W H P ys w (.returned (.tuple #[.agg #[.int .i64 0, .int .i64 0, .int .i64 0, .slice none 0 0], .bool false])) ((((u.setCell ⟨r, 0, none⟩ v0).setCell ⟨r, 1, none⟩ v1).setCell ⟨r, 2, none⟩ v2).setCell ⟨r, 3, none⟩ v3) := by
  subst h hr
  have := im_end (w := w) (r := w.heap.size + 1) (base := w.heap.size + 2) (show Own u (w.heap.size + 2) (.slice none 0 0) [] from World.ownsRow_nil _ _ _ _) (by omega) (by omega) hB v0 v1 v2 v3
  exact ⟨_, rfl, this.1, this.2⟩
theorem SetR.yes {ok : Bool} {W H P : Int} {ys : List Int} {w u : World} {r base : Nat} {v : Value} (h : ok = true) (hr : r = w.heap.size + 1) (hO : Own u base v ys) (hb : w.heap.size + 2 ≤ base) (hB : Below w.heap.size w u) (v0 v1 v2 v3 : Value) :
    SetR ok W H P ys w (.returned (.tuple #[.agg #[.int .i64 W, .int .i64 H, .int .i64 P, v], .bool true])) ((((u.setCell ⟨r, 0, none⟩ v0).setCell ⟨r, 1, none⟩ v1).setCell ⟨r, 2, none⟩ v2).setCell ⟨r, 3, none⟩ v3) := by
  subst h hr
  have := im_end (w := w) (r := w.heap.size + 1) (base := base) hO (by omega) (by omega) hB v0 v1 v2 v3
  exact ⟨_, rfl, this.1, this.2⟩
end Go.Proofs.YtlkacohbfgcokaaDoor
