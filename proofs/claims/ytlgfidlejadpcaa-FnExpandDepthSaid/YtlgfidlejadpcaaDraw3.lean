/- Contracts of the drawing of chapter 3's inputs. -/
import Derived.Test.YtlgfidlejadpcaaReader
namespace Go.Proofs.Ytlgfidlejadpcaa
open Go.RowKit
set_option linter.unusedSimpArgs false
set_option linter.unusedVariables false

theorem gtrans {a b c : World} {g : Nat} (h : a.grownBy b (some g)) (k : b.grownBy c (some g)) : a.grownBy c (some g) :=
  ⟨k.os.trans h.os, k.tape.trans h.tape, k.output.trans h.output, Nat.le_trans h.size k.size, fun i hi hne => (k.block i (Nat.lt_of_lt_of_le hi h.size) hne).trans (h.block i hi hne)⟩
/-- 'one' on a list that was written out. -/
theorem one_lit (cs : Array Value) (xs : List Int) (n c : Nat) (g N : Nat) (w : World) (h : Rdr w g N) (hN : N ≤ 1000000000) (hx : 0 < xs.length) (hl : xs.length ≤ 1000) (hn : n = xs.length) (hcs : cs.toList = xs.map (.int .i64)) :
    Calls Try.prog 46 #[.pointer (some ⟨g, 0, none⟩), .slice (some ⟨w.heap.size, 0, none⟩) n c] (w.alloc (.cells cs 3)) fun e w' => ∃ k : Int, e = .returned (.int .i64 k) ∧ k ∈ xs ∧ Rdr w' g (N + 1) ∧ w.grownBy w' (some g) := by
  subst hn
  refine (one_any w.heap.size 0 c xs g N _ (h.alloc _) hN hx hl (by simp) (by have := h.lt; omega) (fun j hj => ?_)).mono ?_
  · rw [blk_cell (heap_alloc_new w _)]
    have : cs[0 + j]? = cs.toList[j]? := by simp
    rw [this, hcs]
    simp [List.getElem?_eq_getElem hj]
  · rintro e w' ⟨k, he, hk, hr, hg, _⟩
    exact ⟨k, he, hk, hr, gtrans (World.grownBy_alloc w _ _) hg⟩
def Drawn1 (p : Int → Prop) (g N : Nat) (w : World) (e : Ending) (w' : World) : Prop :=
  ∃ k : Int, e = .returned (.int .i64 k) ∧ p k ∧ Rdr w' g N ∧ w.grownBy w' (some g)
theorem Rdr.trans {w w' : World} {g N : Nat} (h : Rdr w g N) (hg : w.grownBy w' (some g)) : Below g w w' := ⟨hg.os, hg.tape, hg.output, hg.size, fun k hk => hg.block k (by have := h.lt; omega) (by simp; omega)⟩

set_option maxHeartbeats 1000000 in
theorem anyDepth_any (g N : Nat) (w : World) (h : Rdr w g N) (hN : N ≤ 1000000000) :
    Calls Try.prog 38 #[.pointer (some ⟨g, 0, none⟩)] w (Drawn1 (fun d => 0 ≤ d ∧ d ≤ 8) g (N + 1) w) := by
  go_enter Try.func38, Try.ntmps38
  go_wp2_with fail
  refine (one_lit _ [1, 2, 4, 8, 1, 4, 3, 0] _ _ g N w h hN (by simp) (by simp) rfl rfl).mono ?_
  rintro e w' ⟨k, rfl, hk, hr, hg⟩
  have hk' : 0 ≤ k ∧ k ≤ 8 := by simp at hk; omega
  clear hk h
  go_wp2
  go_ret
  exact ⟨k, rfl, hk', hr, hg⟩

def Drawn2 (w : World) (e : Ending) (w' : World) : Prop :=
  ∃ n d : Int, e = .returned (.tuple #[.int .i64 n, .int .i64 d]) ∧ -1 ≤ n ∧ n ≤ 1000 ∧ 0 ≤ d ∧ d ≤ 8 ∧ Below w.heap.size w w'
set_option maxHeartbeats 1000000 in
theorem drawReduceDepth_any (A : Option Addr) (c : Nat) (bs : List Int) (w : World) (hc : bs.length ≤ c) (h : Rdw .u8 w w.heap.size A bs) :
    Calls Try.prog 16 #[.slice A bs.length c] w (Drawn2 w) := by
  go_enter Try.func16, Try.ntmps16
  go_wp2_with fail
  refine (newReader_any A c bs w hc h).mono ?_
  rintro e w1 ⟨rfl, hr1, hb1, hs1⟩
  have Hs := Lib.hid hs1
  clear hs1
  go_wp2_with fail
  refine (pick_any _ _ 0 _ hr1 (by omega) (by omega)).mono ?_
  intro e w2 hp
  obtain ⟨k, rfl, hk, hr2, hg2, hs2⟩ := picked_nat hp (by omega)
  have hb2 := hr1.trans hg2
  clear hp hs2
  go_wp2_with fail
  refine (anyDepth_any _ 1 _ hr2 (by omega)).mono ?_
  rintro e w3 ⟨d, rfl, ⟨hd1, hd2⟩, hr3, hg3⟩
  have hb3 := hr2.trans hg3
  go_wp2
  go_ret2
  exact ⟨_, _, rfl, by omega, by omega, hd1, hd2, (hb1.trans hb2).trans hb3⟩
set_option maxHeartbeats 1000000 in
theorem drawExpandDepth_any (A : Option Addr) (c : Nat) (bs : List Int) (w : World) (hc : bs.length ≤ c) (h : Rdw .u8 w w.heap.size A bs) :
    Calls Try.prog 18 #[.slice A bs.length c] w (Drawn2 w) := by
  go_enter Try.func18, Try.ntmps18
  go_wp2_with fail
  refine (newReader_any A c bs w hc h).mono ?_
  rintro e w1 ⟨rfl, hr1, hb1, hs1⟩
  have Hs := Lib.hid hs1
  clear hs1
  go_wp2_with fail
  refine (anyDepth_any _ 0 _ hr1 (by omega)).mono ?_
  rintro e w2 ⟨d, rfl, ⟨hd1, hd2⟩, hr2, hg2⟩
  have hb2 := hr1.trans hg2
  have hb := hb1.trans hb2
  clear hg2 hb2 hb1 hr1 Hs h
  have hd : d = 0 ∨ d = 1 ∨ d = 2 ∨ d = 3 ∨ d = 4 ∨ d = 5 ∨ d = 6 ∨ d = 7 ∨ d = 8 := by omega
  clear hd1 hd2
  rcases hd with rfl | rfl | rfl | rfl | rfl | rfl | rfl | rfl | rfl
  all_goals
    go_wp2_with fail
    refine (pick_any _ _ 1 _ hr2 (by omega) (by omega)).mono ?_
    intro e w3 hp
    obtain ⟨k, rfl, hk, hr3, hg3, hs3⟩ := picked_nat hp (by omega)
    have hb3 := hr2.trans hg3
    clear hp hs3
    go_wp2
    go_ret2
    exact ⟨_, _, rfl, by omega, by omega, by omega, by omega, hb.trans hb3⟩
end Go.Proofs.Ytlgfidlejadpcaa
