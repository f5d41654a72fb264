/- Rows of structs of C numbers that a call made: read, appended to, marked, held. -/
import Derived.Test.YtfeldhhbnhdodaaLists
namespace Go.Proofs.Ytfeldhhbnhdodaa
open Go.RowKit
set_option linter.unusedSimpArgs false
set_option linter.unusedVariables false
set_option maxRecDepth 20000

/-- v owns its row of n structs of C numbers, from block base on: the numbers xs. -/
def OwnT (E : TypeId) (C : Nat) (w : World) (base : Nat) (v : Value) (n : Nat) (xs : List Int) : Prop := w.ownsRow base E C v n (xs.map (.int .i64))
section
variable {E : TypeId} {C : Nat} {w w' : World} {base : Nat} {v : Value} {n : Nat} {xs : List Int}
theorem OwnT.len (h : OwnT E C w base v n xs) : xs.length = n * C := by simpa using h.1
theorem OwnT.slice (h : OwnT E C w base v n xs) : ∃ A c, v = .slice A n c ∧ n ≤ c := by
  rcases h.2 with ⟨rfl, rfl⟩ | ⟨g, cap, cur, rfl, _, _, hnc, _⟩
  · exact ⟨none, 0, rfl, Nat.le_refl _⟩
  · exact ⟨_, cap, rfl, hnc⟩
theorem OwnT.form (h : OwnT E C w base v n xs) (hn : 0 < n) : ∃ g cap, v = .slice (some ⟨g, 0, none⟩) n cap ∧ base ≤ g ∧ g < w.heap.size := by
  rcases h.2 with ⟨_, rfl⟩ | ⟨g, cap, cur, rfl, hbg, hg, hnc, _⟩
  · omega
  · refine ⟨g, cap, rfl, hbg, ?_⟩
    rcases Nat.lt_or_ge g w.heap.size with h' | h'
    · exact h'
    · rw [Array.getElem?_eq_none h'] at hg; cases hg
theorem OwnT.rds {A : Option Addr} {m c : Nat} (h : OwnT E C w base (.slice A m c) n xs) : Rds .i64 w w.heap.size A xs := by
  have hl := h.len
  rcases h.2 with ⟨h0, rfl⟩ | ⟨g, cap, cur, hv, hbg, hg, hnc, hcm, hcs, ht⟩
  · exact .inl (List.eq_nil_of_length_eq_zero (by omega))
  · simp only [Value.slice.injEq] at hv
    obtain ⟨rfl, rfl, rfl⟩ := hv
    refine .inr ⟨g, 0, rfl, ?_, fun j hj => ?_⟩
    · rcases Nat.lt_or_ge g w.heap.size with h' | h'
      · exact h'
      · rw [Array.getElem?_eq_none h'] at hg; cases hg
    · rw [Nat.zero_add, World.ownsRow.cellAt h j (by omega)]
      simp [List.getElem?_eq_getElem hj]
theorem OwnT.kept {row : Option Nat} (h : OwnT E C w base v n xs) (hg : w.grownBy w' row) (hne : v.ownBlock = none ∨ v.ownBlock ≠ row) : OwnT E C w' base v n xs := World.ownsRow.kept h hg hne
theorem OwnT.below {B : Nat} (h : OwnT E C w base v n xs) (hb : Below B w w') (hB : w.heap.size ≤ B) : OwnT E C w' base v n xs :=
  h.kept (row := none) ⟨hb.os, hb.tape, hb.output, hb.size, fun i hi _ => hb.block i (by omega)⟩ (by
    rcases h.2 with ⟨rfl, _⟩ | ⟨g, cap, cur, rfl, _⟩
    · exact .inl rfl
    · exact .inr (by simp [Value.ownBlock]))
theorem OwnT.lt (h : OwnT E C w base v n xs) : ∀ k, v.ownBlock = some k → base ≤ k ∧ k < w.heap.size := World.ownsRow.lt h
theorem OwnT.alloc (h : OwnT E C w base v n xs) (o : Obj) : OwnT E C (w.alloc o) base v n xs := World.ownsRow.alloc h o
theorem OwnT.base_le {b : Nat} (h : OwnT E C w base v n xs) (hb : b ≤ base) : OwnT E C w b v n xs := by
  refine ⟨h.1, ?_⟩
  rcases h.2 with h2 | ⟨g, cap, cur, hv, hbg, r⟩
  · exact .inl h2
  · exact .inr ⟨g, cap, cur, hv, by omega, r⟩
theorem OwnT.nil (E : TypeId) (C : Nat) (w : World) (base : Nat) : OwnT E C w base (.slice none 0 0) 0 [] := World.ownsRow_nil w base E C
theorem OwnT.none (E : TypeId) (C : Nat) (w : World) : OwnT E C (w.alloc (.cells #[] E)) w.heap.size (.slice (some ⟨w.heap.size, 0, .none⟩) 0 0) 0 [] := World.ownsRow_made w #[] 0 (Nat.le_refl _) (Nat.zero_le _) (by simp)
theorem OwnT.put {g cap : Nat} (h : OwnT E C w base (.slice (some ⟨g, 0, .none⟩) n cap) n xs) (j : Nat) (y : Int) :
    OwnT E C (w.setCell ⟨g, j, .none⟩ (.int .i64 y)) base (.slice (some ⟨g, 0, .none⟩) n cap) n (xs.set j y) ∧ w.grownBy (w.setCell ⟨g, j, .none⟩ (.int .i64 y)) (some g) := by
  have := World.ownsRow.stored h j (.int .i64 y)
  exact ⟨by unfold OwnT; rw [List.map_set]; exact this.1, this.2⟩
theorem OwnT.cell {g cap : Nat} (h : OwnT E C w base (.slice (some ⟨g, 0, .none⟩) n cap) n xs) {j : Nat} (hj : j < xs.length) : w.cell? ⟨g, j, .none⟩ = some (.int .i64 (xs.getD j 0)) := by
  rw [World.ownsRow.cellAt h j (by have := h.len; omega)]
  simp [List.getElem?_eq_getElem hj]
theorem OwnT.frozen {g cap : Nat} (h : OwnT E C w base (.slice (some ⟨g, 0, .none⟩) n cap) n xs) (j : Nat) : w.frozen? ⟨g, j, .none⟩ = false := World.ownsRow.frozenAt h j
end
end Go.Proofs.Ytfeldhhbnhdodaa
