/- Words of memory that the proofs of this seat share: a slice that reads as numbers, what is kept when blocks are new, numbers in range. -/
import Derived.Below
import Derived.Laws.OwnMore
import Derived.OwnWalk
import Derived.Deep.Draws
import Derived.Lib.Hide
namespace Go.Proofs.Ytolifmgkkkclkaa
open Go.RowKit
set_option linter.unusedSimpArgs false
set_option linter.unusedVariables false

/-- The slice at A reads as the numbers xs (of kind k) in w; it lies below block B. -/
def Rds (k : IntKind) (w : World) (B : Nat) (A : Option Addr) (xs : List Int) : Prop :=
  xs = [] ∨ ∃ b off, A = some ⟨b, off, none⟩ ∧ b < B ∧ ∀ j, j < xs.length → w.cell? ⟨b, off + j, none⟩ = some (.int k (xs.getD j 0))
/-- The same of an argument: as long as a slice can be, every number fits its kind. -/
def Rdw (k : IntKind) (w : World) (B : Nat) (A : Option Addr) (xs : List Int) : Prop :=
  Rds k w B A xs ∧ xs.length ≤ maxLen ∧ ∀ n ∈ xs, (Lit.int k n).wf = true

theorem add_spot {x : Addr} (h : x.spot = none) (i : Nat) : x.add i = ⟨x.block, x.off + i, none⟩ := by
  obtain ⟨b, o, s⟩ := x
  simp at h
  subst h
  unfold Addr.add
  split
  · next h => subst h; rfl
  · rfl
theorem Rdw.nil {k : IntKind} {w : World} {B : Nat} {A : Option Addr} : Rdw k w B A [] := ⟨.inl rfl, Nat.zero_le _, by simp⟩
theorem Rdw.of_row {k : IntKind} {w : World} {x : Addr} {len cap : Nat} {zs : List Int} (hl : len ≤ cap) (hm : cap ≤ maxLen) (hz : zs.length = cap)
    (hc : ∀ i, i < zs.length → w.cell? (x.add i) = some (.int k (zs.getD i 0))) (hw : ∀ n ∈ zs, (Lit.int k n).wf = true) : Rdw k w w.heap.size (some x) (zs.take len) := by
  refine ⟨?_, by simp; omega, fun n hn => hw n (List.mem_of_mem_take hn)⟩
  by_cases h0 : len = 0
  · left; simp [h0]
  · right
    have hc0 := hc 0 (by omega)
    have hs : x.spot = none := by simpa [Addr.add] using World.cell?_spot hc0
    have hb := World.block_lt_of_cell? w _ hc0
    rw [add_spot hs] at hb
    refine ⟨x.block, x.off, ?_, hb, fun j hj => ?_⟩
    · cases x; simp at hs; subst hs; rfl
    · have hj' : j < len ∧ j < zs.length := by simp at hj; omega
      have h := hc j hj'.2
      rw [add_spot hs] at h
      rw [h]
      simp [List.getElem?_take, hj'.1]
section
variable {k : IntKind} {w w' : World} {B B' : Nat} {A : Option Addr} {xs : List Int}
theorem Rds.keep (h : Rds k w B A xs) (hk : ∀ p : Addr, p.block < B → w'.cell? p = w.cell? p) : Rds k w' B A xs := by
  rcases h with h | ⟨b, off, hA, hb, hc⟩
  · exact .inl h
  · exact .inr ⟨b, off, hA, hb, fun j hj => (hk ⟨b, off + j, none⟩ hb).trans (hc j hj)⟩
theorem Rds.more (h : Rds k w B A xs) (hB : B ≤ B') : Rds k w B' A xs := by
  rcases h with h | ⟨b, off, hA, hb, hc⟩
  · exact .inl h
  · exact .inr ⟨b, off, hA, by omega, hc⟩
theorem Rds.below (h : Rds k w B A xs) (hb : Below B w w') : Rds k w' B A xs := h.keep fun _ hp => hb.cell hp
theorem Rds.belowTo (h : Rds k w B A xs) (hb : Below B' w w') (hB : B ≤ B') : Rds k w' B A xs := h.keep fun _ hp => hb.cell (by omega)
theorem Rds.alloc (h : Rds k w B A xs) (hB : B ≤ w.heap.size) (o : Obj) : Rds k (w.alloc o) B A xs := h.keep fun p hp => World.cell?_alloc_lt w o p (by omega)
theorem Rds.grown (h : Rds k w B A xs) {row : Option Nat} (hg : w.grownBy w' row) (hB : B ≤ w.heap.size) (hr : ∀ g, row = some g → B ≤ g) : Rds k w' B A xs :=
  h.keep fun p hp => World.cell?_of_block (hg.block p.block (by omega) (fun e => by have := hr _ e.symm; omega))
theorem Rds.cells_ (h : Rds k w B A xs) {j : Nat} (hj : j < xs.length) : ∃ b off, A = some ⟨b, off, none⟩ ∧ b < B ∧ ∀ j, j < xs.length → w.cell? ⟨b, off + j, none⟩ = some (.int k (xs.getD j 0)) := by
  rcases h with h | h
  · subst h; simp at hj
  · exact h
theorem Rds.take (h : Rds k w B A xs) (m : Nat) : Rds k w B A (xs.take m) := by
  rcases h with h | ⟨b, off, hA, hb, hc⟩
  · exact .inl (by simp [h])
  · refine .inr ⟨b, off, hA, hb, fun j hj => ?_⟩
    have hj' : j < m ∧ j < xs.length := by simp at hj; omega
    rw [hc j hj'.2]
    simp [List.getElem?_take, hj'.1]
theorem Rds.of_own {base : Nat} {e : TypeId} {n c : Nat} {ys : List Value} (hn : n = xs.length) (hy : ys = xs.map (.int k)) (h : w.ownsRow base e 1 (.slice A n c) n ys) : Rds k w w.heap.size A xs := by
  subst hn hy
  rcases h.2 with ⟨h0, h1⟩ | ⟨g, cap, cur, hv, hbg, hg, hnc, hcm, hcs, ht⟩
  · exact .inl (List.eq_nil_of_length_eq_zero h1)
  · right
    simp only [Value.slice.injEq] at hv
    obtain ⟨rfl, _, rfl⟩ := hv
    refine ⟨g, 0, rfl, ?_, fun j hj => ?_⟩
    · rcases Nat.lt_or_ge g w.heap.size with h | h
      · exact h
      · rw [Array.getElem?_eq_none h] at hg; cases hg
    · rw [Nat.zero_add, h.cellAt j (by omega)]
      simp [List.getElem?_eq_getElem hj]
/-- A slice value that owns its row, at any size of the list. -/
theorem own_slice {base : Nat} {e : TypeId} {v : Value} {n : Nat} {ys : List Value} (h : w.ownsRow base e 1 v n ys) : ∃ A c, v = .slice A n c ∧ n ≤ c ∧ ys.length = n := by
  rcases h.2 with ⟨rfl, rfl⟩ | ⟨g, cap, cur, rfl, _, _, hnc, _⟩
  · exact ⟨none, 0, rfl, Nat.le_refl _, by simpa using h.1⟩
  · exact ⟨_, cap, rfl, hnc, by simpa using h.1⟩
end
theorem ret_int {k : IntKind} {a b : Int} (h : a = b) : Ending.returned (.int k a) = .returned (.int k b) := by rw [h]
theorem ret_bool {a b : Bool} (h : a = b) : Ending.returned (.bool a) = .returned (.bool b) := by rw [h]
end Go.Proofs.Ytolifmgkkkclkaa
