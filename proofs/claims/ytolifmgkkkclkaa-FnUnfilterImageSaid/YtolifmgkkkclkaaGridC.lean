/- Contract of imageOf: the image of a grid of colors. -/
import Derived.Test.YtolifmgkkkclkaaGridB
namespace Go.Proofs.Ytolifmgkkkclkaa
open Go.RowKit Go.Shelf
set_option linter.unusedSimpArgs false
set_option linter.unusedVariables false

theorem img_four {W H k : Nat} (F : Nat → Nat → Nat → Int) (hk : k < W * H) {w : World} {b off : Nat} (hc : ∀ j, j < (img W H 4 F).length → w.cell? ⟨b, off + j, none⟩ = some (.int .i64 ((img W H 4 F).getD j 0))) :
    w.cell? ⟨b, off + k * 4, none⟩ = some (.int .i64 (F (k % W) (k / W) 0)) ∧ w.cell? ⟨b, off + k * 4 + 1, none⟩ = some (.int .i64 (F (k % W) (k / W) 1)) ∧ w.cell? ⟨b, off + k * 4 + 2, none⟩ = some (.int .i64 (F (k % W) (k / W) 2)) ∧ w.cell? ⟨b, off + k * 4 + 3, none⟩ = some (.int .i64 (F (k % W) (k / W) 3)) := by
  have hl := img_len W H 4 F
  refine ⟨?_, ?_, ?_, ?_⟩
  · have := hc (k * 4 + 0) (by omega); rw [img_at F hk (by omega)] at this; exact this
  · have := hc (k * 4 + 1) (by omega); rw [img_at F hk (by omega)] at this; exact this
  · have := hc (k * 4 + 2) (by omega); rw [img_at F hk (by omega)] at this; exact this
  · have := hc (k * 4 + 3) (by omega); rw [img_at F hk (by omega)] at this; exact this
theorem gb_facts {w w1 : World} {cs : Array Value} {T1 T2 : TypeId} {ds : Array Value} (hG : ((w.alloc (.cells cs T1)).alloc (.cells ds T2)).grownBy w1 none) :
    Bx w1 w.heap.size T1 cs ∧ Bx w1 (w.heap.size + 1) T2 ds ∧ Below w.heap.size w w1 ∧ w.heap.size + 2 ≤ w1.heap.size := by
  have hs := hG.size
  simp at hs
  refine ⟨?_, ?_, ?_, by omega⟩
  · exact (hG.block _ (by simp; omega) (by simp)).trans ((Bx.new w T1 cs).alloc _)
  · refine (hG.block _ (by simp) (by simp)).trans ?_
    have := heap_alloc_new (w.alloc (.cells cs T1)) (.cells ds T2)
    simpa using this
  · exact (((Below.refl w.heap.size w).alloc (Nat.le_refl _) _).alloc (by simp) _).grown hG (by simp; omega) (by simp)
theorem bx3 {w : World} {g : Nat} {T : TypeId} {a b c : Value} (h : Bx w g T #[a, b, c]) : w.cell? ⟨g, 0, none⟩ = some a ∧ w.cell? ⟨g, 1, none⟩ = some b ∧ w.cell? ⟨g, 2, none⟩ = some c :=
  ⟨cell_of_row w g 0 _ _ _ h, cell_of_row w g 1 _ _ _ h, cell_of_row w g 2 _ _ _ h⟩
theorem Bx.fz' {w : World} {g : Nat} {t : TypeId} {cs : Array Value} (h : Bx w g t cs) (i : Nat) : w.frozen? ⟨g, i, none⟩ = false := frozen_of_row w g i cs t h
theorem Bx.kept {w w' : World} {g : Nat} {t : TypeId} {cs : Array Value} (h : Bx w g t cs) {r : Option Nat} (hG : w.grownBy w' r) (hr : some g ≠ r) : Bx w' g t cs := (hG.block g h.lt hr).trans h
end Go.Proofs.Ytolifmgkkkclkaa
