/- Slices of structs of three numbers: copied and compared, as the exact laws do. -/
import Derived.Test.YtaejhodikpjeoaaOwnT
import Derived.StillTailTactics
namespace Go.Proofs.Ytaejhodikpjeoaa
open Go.RowKit
set_option linter.unusedSimpArgs false
set_option linter.unusedVariables false

/-- Block g holds the cells xs, of elements of type T. -/
def BlkT (T : TypeId) (w : World) (g : Nat) (xs : List Int) : Prop := w.heap[g]? = some (.cells (row xs) T (0, 0))
section
variable {T : TypeId} {w w' : World} {g : Nat} {xs : List Int}
theorem BlkT.cell (h : BlkT T w g xs) {i : Nat} (hi : i < xs.length) : w.cell? ⟨g, i, none⟩ = some (.int .i64 (xs.getD i 0)) := by
  rw [cell_of_row w g i _ _ _ h]; exact row_get xs i hi
theorem BlkT.frozen (h : BlkT T w g xs) (i : Nat) : w.frozen? ⟨g, i, none⟩ = false := frozen_of_row w g i _ _ h
theorem BlkT.put (h : BlkT T w g xs) (i : Nat) (y : Int) : BlkT T (w.setCell ⟨g, i, none⟩ (.int .i64 y)) g (xs.set i y) := by
  unfold BlkT
  rw [heap_setCell_same w g i _ _ _ h]
  congr 2
  apply Array.toList_inj.1
  simp [row, List.map_set]
theorem BlkT.new (T : TypeId) (w : World) (xs : List Int) : BlkT T (w.alloc (.cells (row xs) T)) w.heap.size xs := heap_alloc_new w _
theorem BlkT.lt (h : BlkT T w g xs) : g < w.heap.size := by
  rcases Nat.lt_or_ge g w.heap.size with h' | h'
  · exact h'
  · unfold BlkT at h; rw [Array.getElem?_eq_none h'] at h; cases h
theorem BlkT.below {B : Nat} (h : BlkT T w g xs) (hb : Below B w w') (hg : g < B) : BlkT T w' g xs := (hb.block g hg).trans h
theorem BlkT.rds (h : BlkT T w g xs) : Rds .i64 w w.heap.size (some ⟨g, 0, none⟩) xs := .inr ⟨g, 0, rfl, h.lt, fun j hj => by rw [Nat.zero_add]; exact h.cell hj⟩
end
theorem made3 (n : Nat) : madeCells #[Value.int .i64 0, Value.int .i64 0, Value.int .i64 0] n = row (zeros n) := by
  apply Array.ext
  · simp [size_madeCells, row, zeros]
  · intro i h1 h2
    have hm : i % 3 < 3 := Nat.mod_lt _ (by decide)
    simp only [madeCells, row, zeros, Array.getElem_map, Array.getElem_range, List.getElem_toArray, List.getElem_map, List.getElem_replicate]
    have : ∀ j, j < 3 → (#[Value.int .i64 0, Value.int .i64 0, Value.int .i64 0] : Array Value)[j]! = Value.int .i64 0 := by
      intro j hj
      match j, hj with
      | 0, _ => rfl
      | 1, _ => rfl
      | 2, _ => rfl
    exact this _ hm
theorem take_set_next3 (xs : List Int) (k : Nat) (hk : k < xs.length) : (xs.take k ++ zeros (xs.length - k)).set k (xs.getD k 0) = xs.take (k + 1) ++ zeros (xs.length - (k + 1)) := by
  apply List.ext_getElem?
  intro j
  simp only [zeros, List.getElem?_set, List.getElem?_append, List.length_take, List.getElem?_take, List.getElem?_replicate, List.length_append, List.length_replicate]
  by_cases h1 : k = j
  · subst h1; simp [hk, show k < min k xs.length + (xs.length - k) by omega, show k < min (k + 1) xs.length by omega]
  · by_cases h2 : j < k
    · simp [h1, show j < min k xs.length by omega, show j < min (k + 1) xs.length by omega, h2, show j < k + 1 by omega]
    · simp [h1, show ¬ j < min k xs.length by omega, show ¬ j < min (k + 1) xs.length by omega]
      split <;> split <;> simp <;> omega
/-- A copy: new memory that reads as xs. -/
theorem BlkT.ownT {T : TypeId} {w : World} {g base n : Nat} {xs : List Int} (h : BlkT T w g xs) (hb : base ≤ g) (hx : xs.length = 3 * n) (hm : n ≤ 2000000) : OwnT T 3 w base (.slice (some ⟨g, 0, none⟩) n n) n xs :=
  ⟨by simp; omega, .inr ⟨g, n, row xs, rfl, hb, h, Nat.le_refl _, by unfold maxLen; omega, by simp [row]; omega, by simp [row]; exact List.take_of_length_le (by simp; omega)⟩⟩
def CopyT (T : TypeId) (n : Nat) (xs : List Int) (w : World) (e : Ending) (w' : World) : Prop :=
  ∃ (A : Option Addr) (c : Nat), e = .returned (.slice A n c) ∧ (n ≤ c ∧ c ≤ n) ∧ Rds .i64 w' w'.heap.size A xs ∧ Below w.heap.size w w' ∧ (∀ a, A = some a → w.heap.size ≤ a.block) ∧ OwnT T 3 w' w.heap.size (.slice A n c) n xs
theorem trio {j n : Nat} (h : j < n) {m : Nat} (hm : m = 3 * n) : j * 3 < m ∧ j * 3 + 1 < m ∧ j * 3 + 2 < m := by omega



end Go.Proofs.Ytaejhodikpjeoaa