/- Contracts of grids of colors that are arranged anew. -/
import Derived.Test.YtjcohmljpokgcaaGridC
import Derived.Deep.RegionHeld3
namespace Go.Proofs.Ytjcohmljpokgcaa
open Go.RowKit Go.Shelf
set_option linter.unusedSimpArgs false
set_option linter.unusedVariables false

theorem row_lt {W H x y : Nat} (hx : x < W) (hy : y < H) : y * W + x < W * H := by
  have : (y + 1) * W ≤ H * W := Nat.mul_le_mul_right W hy
  rw [Nat.add_mul, Nat.one_mul] at this
  rw [Nat.mul_comm W H]
  omega
theorem img_place {W H x y : Nat} (F : Nat → Nat → Nat → Int) (hx : x < W) (hy : y < H) {w : World} {b off : Nat} (hc : ∀ j, j < (img W H 4 F).length → w.cell? ⟨b, off + j, none⟩ = some (.int .i64 ((img W H 4 F).getD j 0))) :
    w.cell? ⟨b, off + (y * W + x) * 4, none⟩ = some (.int .i64 (F x y 0)) ∧ w.cell? ⟨b, off + (y * W + x) * 4 + 1, none⟩ = some (.int .i64 (F x y 1)) ∧ w.cell? ⟨b, off + (y * W + x) * 4 + 2, none⟩ = some (.int .i64 (F x y 2)) ∧ w.cell? ⟨b, off + (y * W + x) * 4 + 3, none⟩ = some (.int .i64 (F x y 3)) := by
  have h := img_four F (row_lt hx hy) hc
  rwa [row_mod hx, row_div hx] at h
set_option maxRecDepth 20000 in
set_option maxHeartbeats 8000000 in
theorem at_any (W H : Nat) (hW : W ≤ 16) (hH : H ≤ 16) (A : Option Addr) (c : Nat) (F : Nat → Nat → Nat → Int) (x y : Nat) (hx : x < W) (hy : y < H) (w : World) (hr : Rds .i64 w w.heap.size A (img W H 4 F)) (hc : W * H ≤ c) :
    Calls Try.prog 43 #[.agg #[.int .i64 (W : Int), .int .i64 (H : Int), .slice A (W * H) c], .int .i64 (x : Int), .int .i64 (y : Int)] w fun e w' => e = .returned (colV (F x y)) ∧ Below w.heap.size w w' := by
  have hWH : W * H ≤ 256 := by have := Nat.mul_le_mul hW hH; omega
  have hlt := row_lt hx hy
  have hi : (y : Int) * (W : Int) + (x : Int) = ((y * W + x : Nat) : Int) := by simp
  have i0 : 0 ≤ (y : Int) * (W : Int) ∧ (y : Int) * (W : Int) ≤ 256 := by rw [← Int.natCast_mul]; omega
  have i1 : 0 ≤ (y : Int) * (W : Int) + (x : Int) := by rw [hi]; omega
  have i2 : (y : Int) * (W : Int) + (x : Int) < ((W * H : Nat) : Int) := by rw [hi]; omega
  obtain ⟨b, off, rfl, hb, hcl⟩ := hr.cells_ (j := 0) (by rw [img_len]; omega)
  obtain ⟨q0, q1, q2, q3⟩ := img_place F hx hy hcl
  obtain ⟨i0, i0'⟩ := i0
  clear hcl hr hi
  generalize W * H = n at *
  go_enter Try.func43, Try.ntmps43
  go_wp2
  exact bodyPost_ret (v := colV (F x y)) (by simp [results, Try.results43, go_sem, colV]) rfl ⟨rfl, by (repeat' (first | (exact Below.refl _ _) | (refine Below.setCell ?_ (by first | omega | (simp; done) | (simp; omega)) _) | (refine below_dn ?_ _) | (refine Below.drew ?_) | (refine Below.alloc ?_ (by first | omega | (simp; done) | (simp; omega)) _) | (exact Below.refl _ _)))⟩
theorem at_n (W H n : Nat) (hn : W * H = n) (hW : W ≤ 16) (hH : H ≤ 16) (A : Option Addr) (c : Nat) (F : Nat → Nat → Nat → Int) (x y : Nat) (hx : x < W) (hy : y < H) (w : World) (hr : Rds .i64 w w.heap.size A (img W H 4 F)) (hc : n ≤ c) :
    Calls Try.prog 43 #[.agg #[.int .i64 (W : Int), .int .i64 (H : Int), .slice A n c], .int .i64 (x : Int), .int .i64 (y : Int)] w fun e w' => e = .returned (colV (F x y)) ∧ Below w.heap.size w w' := by
  subst hn
  exact at_any W H hW hH A c F x y hx hy w hr hc
theorem bx4 {w : World} {g : Nat} {T : TypeId} {a b c d : Value} (h : Bx w g T #[a, b, c, d]) : w.cell? ⟨g, 0, none⟩ = some a ∧ w.cell? ⟨g, 1, none⟩ = some b ∧ w.cell? ⟨g, 2, none⟩ = some c ∧ w.cell? ⟨g, 3, none⟩ = some d :=
  ⟨cell_of_row w g 0 _ _ _ h, cell_of_row w g 1 _ _ _ h, cell_of_row w g 2 _ _ _ h, cell_of_row w g 3 _ _ _ h⟩
theorem sc4 {w : World} {r g j : Nat} (h : g ≠ r) (u0 u1 u2 u3 : Value) : ((((w.setCell ⟨r, 0, none⟩ u0).setCell ⟨r, 1, none⟩ u1).setCell ⟨r, 2, none⟩ u2).setCell ⟨r, 3, none⟩ u3).cell? ⟨g, j, none⟩ = w.cell? ⟨g, j, none⟩ := by
  have e : ∀ (w : World) (i : Nat) (u : Value), (w.setCell ⟨r, i, none⟩ u).cell? ⟨g, j, none⟩ = w.cell? ⟨g, j, none⟩ := fun w i u => World.cell?_setCell_other w ⟨r, i, none⟩ ⟨g, j, none⟩ u (fun e => h (by injection e with e1; exact e1.symm))
  rw [e, e, e, e]
theorem bx1 {w : World} {g : Nat} {T : TypeId} {a : Value} (h : Bx w g T #[a]) : w.cell? ⟨g, 0, none⟩ = some a := cell_of_row w g 0 _ _ _ h
end Go.Proofs.Ytjcohmljpokgcaa
