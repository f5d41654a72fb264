/- Arrays of numbers by value, and slices over them: read, marked. -/
import Derived.Test.YtaejhodikpjeoaaHisM
import Derived.Test.YtaejhodikpjeoaaGenP
import Derived.Test.YtaejhodikpjeoaaOwnT
import Derived.Test.YtaejhodikpjeoaaTri
import Derived.Deep.WholeRow
namespace Go.Proofs.Ytaejhodikpjeoaa
open Go.RowKit
set_option linter.unusedSimpArgs false
set_option linter.unusedVariables false
set_option maxRecDepth 20000

/-- One cell of a box of numbers is written. -/
theorem GS.setB {W0 w : World} {L : List Rg} {Bs : List Bxg} {g : Nat} {T : TypeId} {xs : List Int} (h : GS W0 w L (⟨g, T, row xs⟩ :: Bs)) (i : Nat) (y : Int) : GS W0 (w.setCell ⟨g, i, none⟩ (.int .i64 y)) L (⟨g, T, row (xs.set i y)⟩ :: Bs) := by
  have hb : BlkT T w g xs := h.bx (List.Mem.head _)
  exact h.fill (hb.put i y) ⟨rfl, rfl, rfl, by simp [World.setCell], fun k _ hk => heap_setCell_other w ⟨g, i, none⟩ k _ (fun e => hk (by simp [e]))⟩
theorem GS.blk {W0 w : World} {L : List Rg} {Bs : List Bxg} {g : Nat} {T : TypeId} {xs : List Int} (h : GS W0 w L Bs) (hm : ⟨g, T, row xs⟩ ∈ Bs) : BlkT T w g xs := h.bx hm
/-- A slice over a whole array. -/
theorem BlkT.ownA {T : TypeId} {w : World} {g base : Nat} {xs : List Int} (h : BlkT T w g xs) (hb : base ≤ g) (hm : xs.length ≤ 2000000) : OwnT T 1 w base (.slice (some ⟨g, 0, none⟩) xs.length xs.length) xs.length xs :=
  ⟨by simp, .inr ⟨g, xs.length, row xs, rfl, hb, h, Nat.le_refl _, by unfold maxLen; omega, by simp [row], by simp [row, List.take_of_length_le]⟩⟩
theorem GS.setRow {W0 w : World} {L : List Rg} {Bs : List Bxg} {g : Nat} {T : TypeId} {old : Array Value} (h : GS W0 w L (⟨g, T, old⟩ :: Bs)) (cs : Array Value) : GS W0 (w.setRow g cs) L (⟨g, T, cs⟩ :: Bs) :=
  h.fill (setRow_heap w g old cs T (0, 0) (h.bx (List.Mem.head _))) ⟨rfl, rfl, rfl, by simp, fun k _ hk => setRow_other w g k cs (fun e => hk (by simp [e]))⟩
theorem row_size (xs : List Int) : (row xs).size = xs.length := by simp [row]
theorem row_one (xs : List Int) : (row xs).all (·.oneCell') = true := by
  simp [row, Value.oneCell']
theorem zeros_len (n : Nat) : (zeros n).length = n := by simp [zeros]
theorem run_storeCells_row {w : World} {g : Nat} {t : TypeId} {old : Array Value} {xs : List Int} (hg : Bx w g t old) (ho : old.size = xs.length) : (storeCells ⟨g, 0, none⟩ (row xs).toList).run Try.prog w = .ok () (w.setRow g (row xs)) := by
  have := run_storeCells_from (P := Try.prog) g t (row xs).toList 0 old w hg (by simp [row]; omega) (fun v hv => (Array.all_eq_true_iff_forall_mem.1 (row_one xs)) v (by simpa using hv))
  simpa using this
theorem GS.swap {W0 w : World} {L : List Rg} {a b : Bxg} {Bs : List Bxg} (h : GS W0 w L (a :: b :: Bs)) : GS W0 w L (b :: a :: Bs) := by
  obtain ⟨h1, h2, h3, h4, h5⟩ := h
  have p1 := List.pairwise_cons.1 h5
  have p2 := List.pairwise_cons.1 p1.2
  exact ⟨h1, h2, h3, fun c hc => h4 c (by simp at hc ⊢; rcases hc with h | h | h <;> simp [h]), List.pairwise_cons.2 ⟨fun c hc => by
    rcases List.mem_cons.1 hc with rfl | hc
    · exact fun e => p1.1 b (List.Mem.head _) e.symm
    · exact p2.1 c hc, List.pairwise_cons.2 ⟨fun c hc => p1.1 c (List.mem_cons_of_mem _ hc), p2.2⟩⟩⟩
end Go.Proofs.Ytaejhodikpjeoaa
