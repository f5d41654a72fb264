/- Contracts of the drawing of lists: 'one' of numbers that are written out, 'spoil'. -/
import Derived.Test.YtakloadpmpffdaaReader
import Derived.Test.YtakloadpmpffdaaLists
namespace Go.Proofs.Ytakloadpmpffdaa
open Go.RowKit
set_option linter.unusedSimpArgs false
set_option linter.unusedVariables false

/-- 'one' on a list that was written out. -/
theorem one_lit (cs : Array Value) (xs : List Int) (n c : Nat) (g N : Nat) (w : World) (h : Rdr w g N) (hN : N ≤ 1000000000) (hx : 0 < xs.length) (hl : xs.length ≤ 1000) (hn : n = xs.length) (hcs : cs.toList = xs.map (.int .i64)) :
    Calls Try.prog 33 #[.pointer (some ⟨g, 0, none⟩), .slice (some ⟨w.heap.size, 0, none⟩) n c] (w.alloc (.cells cs 3)) fun e w' => ∃ k : Int, e = .returned (.int .i64 k) ∧ k ∈ xs ∧ Rdr w' g (N + 1) ∧ w.grownBy w' (some g) := by
  subst hn
  refine (one_any w.heap.size 0 c xs g N _ (h.alloc _) hN hx hl (by simp) (by have := h.lt; omega) (fun j hj => ?_)).mono ?_
  · rw [blk_cell (heap_alloc_new w _)]
    have : cs[0 + j]? = cs.toList[j]? := by simp
    rw [this, hcs]
    simp [List.getElem?_eq_getElem hj]
  · rintro e w' ⟨k, he, hk, hr, hg, _⟩
    exact ⟨k, he, hk, hr, gtrans (World.grownBy_alloc w _ _) hg⟩
def Drawn1 (p : Int → Prop) (g N : Nat) (w : World) (e : Ending) (w' : World) : Prop :=
  ∃ k : Int, e = .returned (.int .i64 k) ∧ p k ∧ Rdr w' g N ∧ w.grownBy w' (some g)
theorem Rdr.trans {w w' : World} {g N : Nat} (h : Rdr w g N) (hg : w.grownBy w' (some g)) : Below g w w' := ⟨hg.os, hg.tape, hg.output, hg.size, fun k hk => hg.block k (by have := h.lt; omega) (by simp; omega)⟩


end Go.Proofs.Ytakloadpmpffdaa
