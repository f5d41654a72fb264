/- Contracts of the model's grid of a region, and of RegionHas in the model. -/
import Derived.Test.YtlmpkanlfhjijaaHas
namespace Go.Proofs.Ytlmpkanlfhjijaa
open Go.RowKit
set_option linter.unusedSimpArgs false
set_option linter.unusedVariables false
set_option maxRecDepth 20000

/-- Block g holds the bools gs. -/
def GB (w : World) (g : Nat) (gs : List Bool) : Prop := w.heap[g]? = some (.cells (gs.map Value.bool).toArray 4 (0, 0))
theorem GB.cell {w : World} {g : Nat} {gs : List Bool} (h : GB w g gs) {j : Nat} (hj : j < gs.length) : w.cell? ⟨g, j, none⟩ = some (.bool (gs.getD j false)) := by
  rw [cell_of_row w g j _ _ _ h]; simp [hj]
theorem GB.frozen {w : World} {g : Nat} {gs : List Bool} (h : GB w g gs) (j : Nat) : w.frozen? ⟨g, j, none⟩ = false := frozen_of_row w g j _ _ h
theorem GB.put {w : World} {g : Nat} {gs : List Bool} (h : GB w g gs) (j : Nat) (b : Bool) : GB (w.setCell ⟨g, j, none⟩ (.bool b)) g (gs.set j b) := by
  unfold GB
  rw [heap_setCell_same w g j _ _ _ h]
  congr 2
  apply Array.toList_inj.1
  simp [List.map_set]
/-- 256 cells with false. -/
def gz : Array Value := ((List.replicate 256 false).map Value.bool).toArray
theorem info_bool : (Try.prog.info? 4).map (fun i => (i.zero, i.size, i.bytes)) = some (some (.bool false), 1, 1) := by kernel_rfl
theorem make_grid (W : World) : (Instr.makeSlice 114 (.int .i64 256) (.int .i64 256)).run Try.prog W = .ok (.slice (some ⟨W.heap.size, 0, none⟩) 256 256) (W.alloc (.cells gz 4)) := by
  obtain ⟨i, hi, hz, hs, hb⟩ := info_parts info_bool
  have h := run_make (P := Try.prog) W 114 4 i _ Try.underlying114 hi hz .i64 .i64 256 256 (by omega) (Int.le_refl _) (by rw [hb]; omega) (by omega)
  rw [hs] at h
  rw [h]
  have e : madeCells (Value.bool false).cells (Int.toNat 256 * 1) = gz := by
    unfold gz
    apply Array.toList_inj.1
    rw [show (Value.bool false).cells = #[Value.bool false] from rfl, toList_madeCells_one]
    simp
  rw [e]
  rfl
/-- Which cells the first k runs have. -/
def gd (xs : List Int) : Nat → Nat → Bool
  | 0, _ => false
  | k + 1, j => gd xs k j || decide (gY xs k * 16 + gF xs k ≤ j ∧ (j : Int) < gY xs k * 16 + gT xs k)
/-- .. and run k up to column z. -/
def gdx (xs : List Int) (k : Nat) (z : Int) (j : Nat) : Bool := gd xs k j || decide (gY xs k * 16 + gF xs k ≤ j ∧ (j : Int) < gY xs k * 16 + z)
theorem gdx_start (xs : List Int) (k j : Nat) : gdx xs k (gF xs k) j = gd xs k j := by
  unfold gdx; rw [decide_eq_false (by omega), Bool.or_false]
theorem gdx_end (xs : List Int) (k j : Nat) : gdx xs k (gT xs k) j = gd xs (k + 1) j := rfl
theorem gd_has {xs : List Int} {x y : Nat} (hx : x ≤ 15) (hy : y ≤ 15) : ∀ {n : Nat}, reg xs n → gd xs n (y * 16 + x) = rh xs x y n
  | 0, _ => rfl
  | k + 1, h => by
    have ih := gd_has hx hy (n := k) (fun j hj => h j (by omega))
    obtain ⟨⟨a0, a1⟩, ⟨b0, b1⟩, c0, c1⟩ := bnds h (show k < k + 1 by omega)
    unfold gd rh
    rw [ih]
    congr 1
    unfold runB
    rw [← Bool.decide_and]
    congr 1
    apply propext
    push_cast
    constructor
    · rintro ⟨h1, h2⟩
      have : (y : Int) = gY xs k := by omega
      exact ⟨this, by omega, by omega⟩
    · rintro ⟨h1, h2, h3⟩
      omega
def GridIs (xs : List Int) (k : Nat) (z : Int) (w : World) (g : Nat) : Prop := ∃ gs, GB w g gs ∧ gs.length = 256 ∧ ∀ j, j < 256 → gs.getD j false = gdx xs k z j
theorem GridIs.step {xs : List Int} {k : Nat} {z : Int} {w : World} {g j0 : Nat} (h : GridIs xs k z w g) (hz : (j0 : Int) = gY xs k * 16 + z) (hF : gF xs k ≤ z) (hj : j0 < 256) : GridIs xs k (z + 1) (w.setCell ⟨g, j0, none⟩ (.bool true)) g := by
  obtain ⟨gs, hg, hl, hv⟩ := h
  refine ⟨gs.set j0 true, hg.put j0 true, by simpa using hl, fun j hj' => ?_⟩
  have ho := hv j hj'
  by_cases e : j = j0
  · subst e
    have : (gs.set j true).getD j false = true := by simp [List.getD_eq_getElem?_getD, hl, hj']
    rw [this]
    unfold gdx
    rw [decide_eq_true (by omega), Bool.or_true]
  · have : (gs.set j0 true).getD j false = gs.getD j false := by simp [List.getD_eq_getElem?_getD, List.getElem?_set, Ne.symm e]
    rw [this, ho]
    unfold gdx
    congr 1
    congr 1
    apply propext
    have : (j : Int) ≠ j0 := by omega
    omega
end Go.Proofs.Ytlmpkanlfhjijaa
