/- Contracts of grids of colors that are arranged anew. -/
import Derived.Test.YtolifmgkkkclkaaGridC
import Derived.Deep.RegionHeld3
namespace Go.Proofs.Ytolifmgkkkclkaa
open Go.RowKit Go.Shelf
set_option linter.unusedSimpArgs false
set_option linter.unusedVariables false

theorem row_lt {W H x y : Nat} (hx : x < W) (hy : y < H) : y * W + x < W * H := by
  have : (y + 1) * W ≤ H * W := Nat.mul_le_mul_right W hy
  rw [Nat.add_mul, Nat.one_mul] at this
  rw [Nat.mul_comm W H]
  omega
theorem img_place {W H x y : Nat} (F : Nat → Nat → Nat → Int) (hx : x < W) (hy : y < H) {w : World} {b off : Nat} (hc : ∀ j, j < (img W H 4 F).length → w.cell? ⟨b, off + j, none⟩ = some (.int .i64 ((img W H 4 F).getD j 0))) :
    w.cell? ⟨b, off + (y * W + x) * 4, none⟩ = some (.int .i64 (F x y 0)) ∧ w.cell? ⟨b, off + (y * W + x) * 4 + 1, none⟩ = some (.int .i64 (F x y 1)) ∧ w.cell? ⟨b, off + (y * W + x) * 4 + 2, none⟩ = some (.int .i64 (F x y 2)) ∧ w.cell? ⟨b, off + (y * W + x) * 4 + 3, none⟩ = some (.int .i64 (F x y 3)) := by
  have h := img_four F (row_lt hx hy) hc
  rwa [row_mod hx, row_div hx] at h
theorem bx4 {w : World} {g : Nat} {T : TypeId} {a b c d : Value} (h : Bx w g T #[a, b, c, d]) : w.cell? ⟨g, 0, none⟩ = some a ∧ w.cell? ⟨g, 1, none⟩ = some b ∧ w.cell? ⟨g, 2, none⟩ = some c ∧ w.cell? ⟨g, 3, none⟩ = some d :=
  ⟨cell_of_row w g 0 _ _ _ h, cell_of_row w g 1 _ _ _ h, cell_of_row w g 2 _ _ _ h, cell_of_row w g 3 _ _ _ h⟩
theorem sc4 {w : World} {r g j : Nat} (h : g ≠ r) (u0 u1 u2 u3 : Value) : ((((w.setCell ⟨r, 0, none⟩ u0).setCell ⟨r, 1, none⟩ u1).setCell ⟨r, 2, none⟩ u2).setCell ⟨r, 3, none⟩ u3).cell? ⟨g, j, none⟩ = w.cell? ⟨g, j, none⟩ := by
  have e : ∀ (w : World) (i : Nat) (u : Value), (w.setCell ⟨r, i, none⟩ u).cell? ⟨g, j, none⟩ = w.cell? ⟨g, j, none⟩ := fun w i u => World.cell?_setCell_other w ⟨r, i, none⟩ ⟨g, j, none⟩ u (fun e => h (by injection e with e1; exact e1.symm))
  rw [e, e, e, e]
theorem bx1 {w : World} {g : Nat} {T : TypeId} {a : Value} (h : Bx w g T #[a]) : w.cell? ⟨g, 0, none⟩ = some a := cell_of_row w g 0 _ _ _ h
end Go.Proofs.Ytolifmgkkkclkaa
