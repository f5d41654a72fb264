/- Contracts of BoxRegion, in the model and in the program. -/
import Derived.Test.YtbjgjjhfnaiocaaDoorOwnT
import Derived.Test.YtbjgjjhfnaiocaaDoorFitB
namespace Go.Proofs.YtbjgjjhfnaiocaaDoor
open Go.RowKit
set_option linter.unusedSimpArgs false
set_option linter.unusedVariables false
set_option maxRecDepth 20000

/-- The first k rows of a box. -/
def brow (x y bw : Int) : Nat → List Int
  | 0 => []
  | k + 1 => brow x y bw k ++ [y + k, x, x + bw]
theorem brow_len (x y bw : Int) : ∀ k, (brow x y bw k).length = k * 3
  | 0 => rfl
  | k + 1 => by unfold brow; rw [List.length_append, brow_len x y bw k]; simp; omega
def brN (x y bw bh : Int) : Nat := if ftB x y bw bh 16 16 = true then bh.toNat else 0
def brL (x y bw bh : Int) : List Int := brow x y bw (brN x y bw bh)
def BoxRuns (x y bw bh : Int) (w : World) (e : Ending) (w' : World) : Prop :=
  ∃ v, e = .returned (.tuple #[v, .bool (ftB x y bw bh 16 16)]) ∧ OwnT 35 3 w' w.heap.size v (brN x y bw bh) (brL x y bw bh) ∧ Below w.heap.size w w'
theorem ftB_bd {x y bw bh : Int} (h : ftB x y bw bh 16 16 = true) : (0 ≤ x ∧ x ≤ 15) ∧ (1 ≤ bw ∧ x + bw ≤ 16) ∧ (0 ≤ y ∧ y ≤ 15) ∧ (1 ≤ bh ∧ y + bh ≤ 16) := by
  simp only [ftB, Bool.and_eq_true, decide_eq_true_eq] at h
  obtain ⟨⟨a, b⟩, ⟨c, d⟩, ⟨e, f⟩, g, k⟩ := h
  exact ⟨⟨a, by omega⟩, ⟨c, by omega⟩, ⟨e, by omega⟩, g, by omega⟩
theorem boxRuns_no {x y bw bh : Int} {w w' : World} (h : ftB x y bw bh 16 16 = false) (hb : Below w.heap.size w w') : BoxRuns x y bw bh w (.returned (.tuple #[.slice none 0 0, .bool false])) w' :=
  ⟨_, by rw [h], by unfold brL brN; rw [h]; exact OwnT.nil _ _ _ _, hb⟩
theorem brN_le (x y bw bh : Int) : brN x y bw bh ≤ 16 := by
  unfold brN
  split
  · next h => have := ftB_bd h; omega
  · omega
theorem brN_yes {x y bw bh : Int} (h : ftB x y bw bh 16 16 = true) : brN x y bw bh = bh.toNat := if_pos h
end Go.Proofs.YtbjgjjhfnaiocaaDoor
