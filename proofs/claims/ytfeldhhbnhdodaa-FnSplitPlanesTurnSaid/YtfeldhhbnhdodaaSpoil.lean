/- Contracts of the drawing of lists: 'one' of numbers that are written out, 'spoil'. -/
import Derived.Test.YtfeldhhbnhdodaaReader
import Derived.Test.YtfeldhhbnhdodaaLists
namespace Go.Proofs.Ytfeldhhbnhdodaa
open Go.RowKit
set_option linter.unusedSimpArgs false
set_option linter.unusedVariables false

/-- 'one' on a list that was written out. -/
theorem one_lit (cs : Array Value) (xs : List Int) (n c : Nat) (g N : Nat) (w : World) (h : Rdr w g N) (hN : N ≤ 1000000000) (hx : 0 < xs.length) (hl : xs.length ≤ 1000) (hn : n = xs.length) (hcs : cs.toList = xs.map (.int .i64)) :
    Calls Try.prog 63 #[.pointer (some ⟨g, 0, none⟩), .slice (some ⟨w.heap.size, 0, none⟩) n c] (w.alloc (.cells cs 3)) fun e w' => ∃ k : Int, e = .returned (.int .i64 k) ∧ k ∈ xs ∧ Rdr w' g (N + 1) ∧ w.grownBy w' (some g) := by
  subst hn
  refine (one_any w.heap.size 0 c xs g N _ (h.alloc _) hN hx hl (by simp) (by have := h.lt; omega) (fun j hj => ?_)).mono ?_
  · rw [blk_cell (heap_alloc_new w _)]
    have : cs[0 + j]? = cs.toList[j]? := by simp
    rw [this, hcs]
    simp [List.getElem?_eq_getElem hj]
  · rintro e w' ⟨k, he, hk, hr, hg, _⟩
    exact ⟨k, he, hk, hr, gtrans (World.grownBy_alloc w _ _) hg⟩
def Drawn1 (p : Int → Prop) (g N : Nat) (w : World) (e : Ending) (w' : World) : Prop :=
  ∃ k : Int, e = .returned (.int .i64 k) ∧ p k ∧ Rdr w' g N ∧ w.grownBy w' (some g)
theorem Rdr.trans {w w' : World} {g N : Nat} (h : Rdr w g N) (hg : w.grownBy w' (some g)) : Below g w w' := ⟨hg.os, hg.tape, hg.output, hg.size, fun k hk => hg.block k (by have := h.lt; omega) (by simp; omega)⟩


def Spoiled (n0 g N : Nat) (w : World) (e : Ending) (w' : World) : Prop :=
  ∃ (A : Option Addr) (c : Nat) (ys : List Int), e = .returned (.slice A ys.length c) ∧ ys.length ≤ c ∧ ys.length ≤ n0 + 1 ∧ Rds .i64 w' w'.heap.size A ys ∧ Rdr w' g N ∧ w.grownBy w' (some g) ∧ ∀ b : Addr, A = some b → w.heap.size ≤ b.block
theorem Own.ge {w : World} {base : Nat} {A : Option Addr} {n c : Nat} {xs : List Int} (h : Own w base (.slice A n c) xs) (b : Addr) (hb : A = some b) : base ≤ b.block := by
  subst hb
  exact (h.lt b.block rfl).1
theorem Rds.offG {k : IntKind} {w w' : World} {B lo g : Nat} {A : Option Addr} {xs : List Int} (h : Rds k w B A xs) (hB : B ≤ w.heap.size) (hge : ∀ b : Addr, A = some b → lo ≤ b.block) (hg : w.grownBy w' (some g)) (hlt : g < lo) : Rds k w' B A xs := by
  rcases h with h | ⟨b, off, hA, hb, hc⟩
  · exact .inl h
  · refine .inr ⟨b, off, hA, hb, fun j hj => (World.cell?_of_block (hg.block b (by omega) ?_)).trans (hc j hj)⟩
    have := hge _ hA
    simp at this ⊢
    omega
theorem below_grown {w w' : World} (h : Below w.heap.size w w') (row' : Option Nat) : w.grownBy w' row' := ⟨h.os, h.tape, h.output, h.size, fun i hi _ => h.block i hi⟩
theorem Own.off {w w' : World} {base g : Nat} {v : Value} {xs : List Int} (h : Own w base v xs) (hg : w.grownBy w' (some g)) (hb : g < base) : Own w' base v xs :=
  h.keep fun k hk => hg.block k (h.lt k hk).2 (by have := (h.lt k hk).1; simp; omega)
theorem Rds.tail {k : IntKind} {w : World} {B b off : Nat} {x : Int} {xs : List Int} (hb : b < B) (hc : ∀ j, j < (x :: xs).length → w.cell? ⟨b, off + j, none⟩ = some (.int k ((x :: xs).getD j 0))) : Rds k w B (some ⟨b, off + 1, none⟩) xs := by
  refine .inr ⟨b, off + 1, rfl, hb, fun j hj => ?_⟩
  have := hc (j + 1) (by simp; omega)
  rw [show off + 1 + j = off + (j + 1) by omega, this]
  simp
theorem gmix {a b c : World} {row' row2 : Option Nat} (h : a.grownBy b row') (k : b.grownBy c row2) (hr : ∀ j, row2 = some j → a.heap.size ≤ j) : a.grownBy c row' :=
  ⟨k.os.trans h.os, k.tape.trans h.tape, k.output.trans h.output, Nat.le_trans h.size k.size, fun i hi hne => (k.block i (Nat.lt_of_lt_of_le hi h.size) (fun e => by have := hr _ e.symm; omega)).trans (h.block i hi hne)⟩
end Go.Proofs.Ytfeldhhbnhdodaa
