/- Reader, Spoil, DrawImg, DrawImg2, DrawKnl: one text of several. -/
import Derived.Test.YtjgcondkoaegnaaProg
import Derived.WalkKit
import Derived.Deep.QuietTactic
import Derived.BigQuiet
import Derived.Laws.BitsAllLaws
import Derived.Laws.BitsLemmas
import Derived.OpenShut
import Derived.Deep.Light
import Derived.Test.YtjgcondkoaegnaaWords
import Derived.Test.YtjgcondkoaegnaaLists
import Derived.Test.YtjgcondkoaegnaaSpecM
import Derived.Deep.RegionHeld3
import Derived.Test.YtjgcondkoaegnaaKnl
namespace Go.Proofs.Ytjgcondkoaegnaa
open Go.RowKit
set_option linter.unusedSimpArgs false
set_option linter.unusedVariables false

def Rdr (w : World) (g N : Nat) : Prop := ∃ (A : Option Addr) (bs : List Int) (c p : Nat),
  w.heap[g]? = some (.cells #[.slice A bs.length c, .int .i64 p] 92 (0, 0)) ∧ Rds .u8 w g A bs ∧ p ≤ N ∧ bs.length ≤ 2000 ∧ ∀ j : Nat, 0 ≤ bs[j]?.getD 0 ∧ bs[j]?.getD 0 ≤ 255
def Picked (n : Int) (g N : Nat) (w : World) (e : Ending) (w' : World) : Prop :=
  ∃ k : Int, e = .returned (.int .i64 k) ∧ 0 ≤ k ∧ (k < n ∨ k = 0) ∧ Rdr w' g (N + 1) ∧ w.grownBy w' (some g) ∧ w'.heap.size = w.heap.size

theorem Rdr.grown {w w' : World} {g N : Nat} {row : Option Nat} (h : Rdr w g N) (hg : w.grownBy w' row) (hr : ∀ k, row = some k → g < k) : Rdr w' g N := by
  obtain ⟨A, bs, c, p, hb, hr', hp, hl, hw⟩ := h
  have hlt : g < w.heap.size := by
    rcases Nat.lt_or_ge g w.heap.size with h | h
    · exact h
    · rw [Array.getElem?_eq_none h] at hb; cases hb
  refine ⟨A, bs, c, p, (hg.block g hlt (fun e => by have := hr _ e.symm; omega)).trans hb, hr'.grown hg (by omega) (fun k hk => by have := hr k hk; omega), hp, hl, hw⟩
theorem Rdr.alloc {w : World} {g N : Nat} (h : Rdr w g N) (o : Obj) : Rdr (w.alloc o) g N := h.grown (World.grownBy_alloc w o none) (by simp)
theorem Rdr.below {w w' : World} {B g N : Nat} (h : Rdr w g N) (hb : Below B w w') (hB : g < B) : Rdr w' g N := by
  obtain ⟨A, bs, c, p, hh, hr', hp, hl, hw⟩ := h
  exact ⟨A, bs, c, p, (hb.block g hB).trans hh, hr'.belowTo hb (by omega), hp, hl, hw⟩
theorem Rdr.lt {w : World} {g N : Nat} (h : Rdr w g N) : g < w.heap.size := by
  obtain ⟨A, bs, c, p, hb, _⟩ := h
  rcases Nat.lt_or_ge g w.heap.size with h | h
  · exact h
  · rw [Array.getElem?_eq_none h] at hb; cases hb
theorem Rdr.more {w : World} {g N N' : Nat} (h : Rdr w g N) (hN : N ≤ N') : Rdr w g N' := by
  obtain ⟨A, bs, c, p, hb, hr', hp, r⟩ := h
  exact ⟨A, bs, c, p, hb, hr', by omega, r⟩

theorem blk_cell {w : World} {g : Nat} {cs : Array Value} {t : TypeId} {fz : Nat × Nat} (h : w.heap[g]? = some (.cells cs t fz)) (i : Nat) : w.cell? ⟨g, i, none⟩ = cs[i]? := cell_of_row w g i cs t fz h
theorem blk_frozen {w : World} {g : Nat} {cs : Array Value} {t : TypeId} (h : w.heap[g]? = some (.cells cs t (0, 0))) (i : Nat) : w.frozen? ⟨g, i, none⟩ = false := frozen_of_row w g i cs t h
theorem blk_set {w : World} {g : Nat} {cs : Array Value} {t : TypeId} (h : w.heap[g]? = some (.cells cs t (0, 0))) (i : Nat) (u : Value) : (w.setCell ⟨g, i, none⟩ u).heap[g]? = some (.cells (cs.setIfInBounds i u) t (0, 0)) := heap_setCell_same w g i cs t u h

set_option maxHeartbeats 1000000 in
theorem newReader_any (A : Option Addr) (c : Nat) (bs : List Int) (w : World) (hc : bs.length ≤ c) (h : Rdw .u8 w w.heap.size A bs) :
    Calls Try.prog 42 #[.slice A bs.length c] w fun e w' => e = .returned (.pointer (some ⟨w.heap.size, 0, none⟩)) ∧ Rdr w' w.heap.size 0 ∧ Below w.heap.size w w' ∧ w'.heap.size = w.heap.size + 1 := by
  obtain ⟨hr, hm, hw⟩ := h
  have hb := range_u8 hw
  have Hr := Lib.hid hr
  have Hb := Lib.hid hb
  clear hr hw hb
  unfold maxLen at hm
  by_cases h2 : bs.length ≤ 2000
  · go_enter Try.func42, Try.ntmps42
    go_wp2
    go_ret
    refine ⟨rfl, ⟨A, bs, c, 0, heap_alloc_new w _, Hr.out.alloc (Nat.le_refl _) _, Nat.le_refl _, h2, Hb.out⟩, (Below.refl _ _).alloc (Nat.le_refl _) _, by simp⟩
  · go_enter Try.func42, Try.ntmps42
    go_wp2
    go_ret
    have hl : (bs.take 2000).length = 2000 := by simp; omega
    refine ⟨rfl, ⟨A, bs.take 2000, c, 0, by rw [hl]; exact heap_alloc_new w _, (Rds.take Hr.out 2000).alloc (Nat.le_refl _) _, Nat.le_refl _, by omega, fun j => ?_⟩, (Below.refl _ _).alloc (Nat.le_refl _) _, by simp⟩
    rw [List.getElem?_take]
    split
    · exact Hb.out j
    · simp

theorem xor_nat (a b : Nat) (ha : a < 9223372036854775808) (hb : b < 9223372036854775808) : 0 ≤ bits .xor .i64 (a : Int) (b : Int) := by
  have ofI : ∀ x : Nat, x < 9223372036854775808 → (BitVec.ofInt 64 (x : Int)).toNat = x := fun x hx => by
    rw [BitVec.ofInt_natCast, BitVec.toNat_ofNat]; exact Nat.mod_eq_of_lt (by omega)
  have hx : a ^^^ b < 2 ^ 63 := Nat.xor_lt_two_pow (by omega) (by omega)
  show 0 ≤ IntKind.i64.wrap ((BitVec.ofInt 64 (a : Int) ^^^ BitVec.ofInt 64 (b : Int)).toNat : Int)
  rw [BitVec.toNat_xor, ofI a ha, ofI b hb, IntKind.wrap_i64]
  omega

set_option maxHeartbeats 2000000 in
theorem pick_any (n : Int) (g N : Nat) (w : World) (h : Rdr w g N) (hN : N ≤ 1000000000) (hn : n ≤ 1000000000) :
    Calls Try.prog 72 #[.pointer (some ⟨g, 0, none⟩), .int .i64 n] w (Picked n g N w) := by
  obtain ⟨A, bs, c, p, hb, hr, hp, hl, hw⟩ := h
  have Hpost : ∀ k : Int, 0 ≤ k → (k < n ∨ k = 0) → ∀ m : Nat, Picked n g N w (.returned (.int .i64 k)) ((w.setCell ⟨g, 1, none⟩ (.int .i64 ((p : Int) + 1))).drewN m) := by
    intro k h0 h1 m
    have hgr : w.grownBy ((w.setCell ⟨g, 1, none⟩ (.int .i64 ((p : Int) + 1))).drewN m) (some g) :=
      ⟨rfl, rfl, rfl, by simp [World.setCell, World.drewN], fun i _ hne => heap_setCell_other w ⟨g, 1, none⟩ i _ (fun e => hne (by simp [e]))⟩
    refine ⟨k, rfl, h0, h1, ⟨A, bs, c, p + 1, ?_, ?_, by omega, hl, hw⟩, hgr, by simp [World.setCell, World.drewN]⟩
    · exact (blk_set hb 1 _).trans (by simp)
    · exact hr.keep fun q hq => World.cell?_setCell_other w ⟨g, 1, none⟩ q _ (fun e => by subst e; simp at hq)
  have HP := Lib.hid Hpost
  clear Hpost
  have c0 : w.cell? ⟨g, 0, none⟩ = some (.slice A bs.length c) := by simp [blk_cell hb]
  have c1 : w.cell? ⟨g, 1, none⟩ = some (.int .i64 p) := by simp [blk_cell hb]
  have f1 := blk_frozen hb 1
  have HB := Lib.hid hb
  clear hb
  by_cases hn1 : n < 1
  · go_enter Try.func72, Try.ntmps72
    go_wp2
    go_ret
    exact HP.out 0 (by omega) (by omega) 0
  · rcases hr with rfl | ⟨b, off, rfl, hbg, hc⟩
    · go_enter Try.func72, Try.ntmps72
      go_wp2
      go_ret
      exact HP.out 0 (by omega) (by omega) 0
    · by_cases hz : bs.length = 0
      · have hz' : ((bs.length : Int) == 0) = true := by simp [hz]
        clear hz
        go_enter Try.func72, Try.ntmps72
        go_wp2
        go_ret
        exact HP.out 0 (by omega) (by omega) 0
      · have hpost := HP.out
        have HPP : Hid (∀ k : Int, 0 ≤ k → (k < n ∨ k = 0) → ∀ m : Nat, Picked n g N w (.returned (.int .i64 k)) ((w.setCell ⟨g, 1, none⟩ (.int .i64 ((p : Int) + 1))).drewN m)) := hpost
        clear hpost HP HB
        obtain ⟨B, hB⟩ : ∃ B : Nat → Int, ∀ j, B j = bs[j]?.getD 0 := ⟨_, fun _ => rfl⟩
        have hc' : ∀ j, j < bs.length → w.cell? ⟨b, off + j, none⟩ = some (.int .u8 (B j)) := fun j hj => by rw [hc j hj, hB]; simp
        have hw' : ∀ j, 0 ≤ B j ∧ B j ≤ 255 := fun j => by rw [hB]; exact hw j
        clear hc hw hB
        generalize bs.length = L at *
        clear bs
        have hz1 : ((L : Int) == 0) = false := beq_eq_false_iff_ne.2 (by omega)
        have hz2 : 0 < L := by omega
        have hz3 : ¬ ((L : Int) = 0) := by omega
        clear hz
        by_cases hpl : p < L
        · have hcp := hc' p hpl
          have hwp := hw' p
          clear hc' hw'
          generalize B p = x at *
          go_enter Try.func72, Try.ntmps72
          go_wp2
          go_ret
          exact HPP.out _ (Int.emod_nonneg _ (by omega)) (.inl (Int.emod_lt_of_pos _ (by omega))) 0
        · have hm1 : p % L < L := Nat.mod_lt _ hz2
          have hm2 : (p * 7 + 3) % L < L := Nat.mod_lt _ hz2
          have hm3 : ((p : Int) * 7 + 3) % (L : Int) < (L : Int) := Int.emod_lt_of_pos _ (by omega)
          have hm4 : 0 ≤ ((p : Int) * 7 + 3) % (L : Int) := Int.emod_nonneg _ (by omega)
          have hc1 := hc' (p % L) hm1
          have hc2 := hc' ((p * 7 + 3) % L) hm2
          have hw1 := hw' (p % L)
          have hw2 := hw' ((p * 7 + 3) % L)
          clear hc' hw'
          generalize B (p % L) = x1 at *
          generalize B ((p * 7 + 3) % L) = x2 at *
          have hq1 : 0 ≤ (p : Int) / (L : Int) := Int.ediv_nonneg (by omega) (by omega)
          have hq2 : (p : Int) / (L : Int) ≤ (p : Int) := Int.ediv_le_self _ (by omega)
          obtain ⟨X, hX⟩ : ∃ X : Int, X = x1 * 131 + x2 * 1117 + (p : Int) * 29 + (p : Int) / (L : Int) * 53 := ⟨_, rfl⟩
          have hX0 : 0 ≤ X := by omega
          have hX1 : X < 1000000000000 := by omega
          have hxor : 0 ≤ bits .xor .i64 X (X / 64) := by
            obtain ⟨x, rfl⟩ := Int.eq_ofNat_of_zero_le hX0
            exact xor_nat x (x / 64) (by omega) (by omega)
          rw [hX] at hxor
          clear hX hX0 hX1 X
          go_enter Try.func72, Try.ntmps72
          go_wp2
          refine wp_region_quiet_lit (by kernel_rfl) (by kernel_rfl) ?_
          repeat (go_big_quiet_step (fail))
          refine wpQuiet_nil ?_
          intro _ hw'
          obtain ⟨nq, hw''⟩ := hw'
          subst hw''
          go_wp2
          go_ret
          exact HPP.out _ (Int.emod_nonneg _ (by omega)) (.inl (Int.emod_lt_of_pos _ (by omega))) nq

def OneOf (xs : List Int) (g N : Nat) (w : World) (e : Ending) (w' : World) : Prop :=
  ∃ k : Int, e = .returned (.int .i64 k) ∧ k ∈ xs ∧ Rdr w' g (N + 1) ∧ w.grownBy w' (some g) ∧ w'.heap.size = w.heap.size

theorem picked_nat {n : Int} {g N : Nat} {w w' : World} {e : Ending} (h : Picked n g N w e w') (hn : 0 < n) : ∃ k : Nat, e = .returned (.int .i64 (k : Int)) ∧ (k : Int) < n ∧ Rdr w' g (N + 1) ∧ w.grownBy w' (some g) ∧ w'.heap.size = w.heap.size := by
  obtain ⟨k, rfl, h0, h1, r⟩ := h
  obtain ⟨j, rfl⟩ := Int.eq_ofNat_of_zero_le h0
  exact ⟨j, rfl, by omega, r⟩

set_option maxHeartbeats 1000000 in
theorem one_any (b off c : Nat) (xs : List Int) (g N : Nat) (w : World) (h : Rdr w g N) (hN : N ≤ 1000000000) (hx : 0 < xs.length) (hl : xs.length ≤ 1000) (hb : b < w.heap.size) (hne : b ≠ g)
    (hc : ∀ j, j < xs.length → w.cell? ⟨b, off + j, none⟩ = some (.int .i64 (xs.getD j 0))) :
    Calls Try.prog 71 #[.pointer (some ⟨g, 0, none⟩), .slice (some ⟨b, off, none⟩) xs.length c] w (OneOf xs g N w) := by
  have Hc := Lib.hid hc
  clear hc
  go_enter Try.func71, Try.ntmps71
  go_wp2_with fail
  refine (pick_any _ g N _ h hN (by omega)).mono ?_
  intro e w' hp
  obtain ⟨k, rfl, hk, hr, hg, hs⟩ := picked_nat hp (by omega)
  have hk' : k < xs.length := by omega
  have hcell : w'.cell? ⟨b, off + k, none⟩ = some (.int .i64 (xs.getD k 0)) := (World.cell?_of_block (hg.block b hb (by simpa using hne))).trans (Hc.out k hk')
  have Hs := Lib.hid hs
  clear hs hp h
  go_wp2
  go_ret
  refine ⟨_, rfl, ?_, hr, hg, Hs.out⟩
  simp [hk']
end Go.Proofs.Ytjgcondkoaegnaa
namespace Go.Proofs.Ytjgcondkoaegnaa
open Go.RowKit
set_option linter.unusedSimpArgs false
set_option linter.unusedVariables false

theorem one_lit (cs : Array Value) (xs : List Int) (n c : Nat) (g N : Nat) (w : World) (h : Rdr w g N) (hN : N ≤ 1000000000) (hx : 0 < xs.length) (hl : xs.length ≤ 1000) (hn : n = xs.length) (hcs : cs.toList = xs.map (.int .i64)) :
    Calls Try.prog 71 #[.pointer (some ⟨g, 0, none⟩), .slice (some ⟨w.heap.size, 0, none⟩) n c] (w.alloc (.cells cs 3)) fun e w' => ∃ k : Int, e = .returned (.int .i64 k) ∧ k ∈ xs ∧ Rdr w' g (N + 1) ∧ w.grownBy w' (some g) := by
  subst hn
  refine (one_any w.heap.size 0 c xs g N _ (h.alloc _) hN hx hl (by simp) (by have := h.lt; omega) (fun j hj => ?_)).mono ?_
  · rw [blk_cell (heap_alloc_new w _)]
    have : cs[0 + j]? = cs.toList[j]? := by simp
    rw [this, hcs]
    simp [List.getElem?_eq_getElem hj]
  · rintro e w' ⟨k, he, hk, hr, hg, _⟩
    exact ⟨k, he, hk, hr, gtrans (World.grownBy_alloc w _ _) hg⟩
def Drawn1 (p : Int → Prop) (g N : Nat) (w : World) (e : Ending) (w' : World) : Prop :=
  ∃ k : Int, e = .returned (.int .i64 k) ∧ p k ∧ Rdr w' g N ∧ w.grownBy w' (some g)
theorem Rdr.trans {w w' : World} {g N : Nat} (h : Rdr w g N) (hg : w.grownBy w' (some g)) : Below g w w' := ⟨hg.os, hg.tape, hg.output, hg.size, fun k hk => hg.block k (by have := h.lt; omega) (by simp; omega)⟩


def Spoiled (n0 g N : Nat) (w : World) (e : Ending) (w' : World) : Prop :=
  ∃ (A : Option Addr) (c : Nat) (ys : List Int), e = .returned (.slice A ys.length c) ∧ ys.length ≤ c ∧ ys.length ≤ n0 + 1 ∧ Rds .i64 w' w'.heap.size A ys ∧ Rdr w' g N ∧ w.grownBy w' (some g) ∧ ∀ b : Addr, A = some b → w.heap.size ≤ b.block
theorem Own.ge {w : World} {base : Nat} {A : Option Addr} {n c : Nat} {xs : List Int} (h : Own w base (.slice A n c) xs) (b : Addr) (hb : A = some b) : base ≤ b.block := by
  subst hb
  exact (h.lt b.block rfl).1
theorem Rds.offG {k : IntKind} {w w' : World} {B lo g : Nat} {A : Option Addr} {xs : List Int} (h : Rds k w B A xs) (hB : B ≤ w.heap.size) (hge : ∀ b : Addr, A = some b → lo ≤ b.block) (hg : w.grownBy w' (some g)) (hlt : g < lo) : Rds k w' B A xs := by
  rcases h with h | ⟨b, off, hA, hb, hc⟩
  · exact .inl h
  · refine .inr ⟨b, off, hA, hb, fun j hj => (World.cell?_of_block (hg.block b (by omega) ?_)).trans (hc j hj)⟩
    have := hge _ hA
    simp at this ⊢
    omega
theorem below_grown {w w' : World} (h : Below w.heap.size w w') (row' : Option Nat) : w.grownBy w' row' := ⟨h.os, h.tape, h.output, h.size, fun i hi _ => h.block i hi⟩
theorem Own.off {w w' : World} {base g : Nat} {v : Value} {xs : List Int} (h : Own w base v xs) (hg : w.grownBy w' (some g)) (hb : g < base) : Own w' base v xs :=
  h.keep fun k hk => hg.block k (h.lt k hk).2 (by have := (h.lt k hk).1; simp; omega)
theorem Rds.tail {k : IntKind} {w : World} {B b off : Nat} {x : Int} {xs : List Int} (hb : b < B) (hc : ∀ j, j < (x :: xs).length → w.cell? ⟨b, off + j, none⟩ = some (.int k ((x :: xs).getD j 0))) : Rds k w B (some ⟨b, off + 1, none⟩) xs := by
  refine .inr ⟨b, off + 1, rfl, hb, fun j hj => ?_⟩
  have := hc (j + 1) (by simp; omega)
  rw [show off + 1 + j = off + (j + 1) by omega, this]
  simp
theorem gmix {a b c : World} {row' row2 : Option Nat} (h : a.grownBy b row') (k : b.grownBy c row2) (hr : ∀ j, row2 = some j → a.heap.size ≤ j) : a.grownBy c row' :=
  ⟨k.os.trans h.os, k.tape.trans h.tape, k.output.trans h.output, Nat.le_trans h.size k.size, fun i hi hne => (k.block i (Nat.lt_of_lt_of_le hi h.size) (fun e => by have := hr _ e.symm; omega)).trans (h.block i hi hne)⟩
end Go.Proofs.Ytjgcondkoaegnaa
namespace Go.Proofs.Ytjgcondkoaegnaa
open Go.RowKit
set_option linter.unusedSimpArgs false
set_option linter.unusedVariables false

def RandIm (P : Nat) (g N : Nat) (w : World) (e : Ending) (w' : World) : Prop :=
  ∃ (W H : Nat) (gb c : Nat) (xs : List Int), e = .returned (.agg #[.int .i64 (W : Int), .int .i64 (H : Int), .int .i64 (P : Int), .slice (some ⟨gb, 0, none⟩) xs.length c]) ∧ 1 ≤ W ∧ W ≤ 8 ∧ 1 ≤ H ∧ H ≤ 8 ∧ xs.length = W * H * P ∧ Own w' w.heap.size (.slice (some ⟨gb, 0, none⟩) xs.length c) xs ∧ Rdr w' g N ∧ w.grownBy w' (some g)
theorem one_litB (cs : Array Value) (xs : List Int) (n c p : Nat) (g N : Nat) (w : World) (hp : p = w.heap.size) (h : Rdr w g N) (hN : N ≤ 1000000000) (hx : 0 < xs.length) (hl : xs.length ≤ 1000) (hn : n = xs.length) (hcs : cs.toList = xs.map (.int .i64)) :
    Calls Try.prog 71 #[.pointer (some ⟨g, 0, none⟩), .slice (some ⟨p, 0, none⟩) n c] (w.alloc (.cells cs 3)) fun e w' => ∃ k : Int, e = .returned (.int .i64 k) ∧ k ∈ xs ∧ Rdr w' g (N + 1) ∧ w.grownBy w' (some g) := by
  subst hp
  exact one_lit cs xs n c g N w h hN hx hl hn hcs
theorem bx_gr {w w' : World} {b : Nat} {T : TypeId} {cs : Array Value} {g : Nat} (h : Bx w b T cs) (hG : w.grownBy w' (some g)) (hne : b ≠ g) : Bx w' b T cs := h.kept hG (by simpa using hne)
set_option maxRecDepth 100000 in
set_option maxHeartbeats 16000000 in
theorem randomImage_any (P : Nat) (hP1 : 1 ≤ P) (hP4 : P ≤ 4) (g N : Nat) (w : World) (h : Rdr w g N) (hN : N ≤ 10000000) :
    Calls Try.prog 69 #[.pointer (some ⟨g, 0, none⟩), .int .i64 (P : Int)] w (RandIm P g (N + 300) w) := by
  have hgl := h.lt
  obtain ⟨u0, hu⟩ : ∃ u0, u0 = w.alloc (.cells #[.int .i64 0, .int .i64 0, .int .i64 0, .slice none 0 0] 29) := ⟨_, rfl⟩
  have hz : u0.heap.size = w.heap.size + 1 := by rw [hu]; simp
  have HX0 : Hid (Bx u0 w.heap.size 29 (imC 0 0 0 (.slice none 0 0))) := Lib.hid (by rw [hu]; exact Bx.new w _ _)
  have HR0 : Hid (Rdr u0 g N) := Lib.hid (by rw [hu]; exact h.alloc _)
  have HG0 : Hid (w.grownBy u0 (some g)) := Lib.hid (by rw [hu]; exact World.grownBy_alloc w _ _)
  have Hz := Lib.hid hz
  have HU := Lib.hid hu
  clear h hu hz
  go_enter Try.func69, Try.ntmps69
  go_wp2_with fail
  rw [← HU.out]
  clear HU
  refine (one_litB _ [3, 4, 2, 5, 1, 8, 6] 7 7 _ g N u0 (by rw [Hz.out]) HR0.out (by omega) (by simp) (by simp) rfl rfl).mono ?_
  rintro e u1 ⟨W', rfl, hW', hR1, hG1⟩
  have hWb : 1 ≤ W' ∧ W' ≤ 8 := by simp at hW'; omega
  obtain ⟨W, rfl⟩ := Int.eq_ofNat_of_zero_le (show 0 ≤ W' by omega)
  have hW1 : 1 ≤ W := by omega
  have hW8 : W ≤ 8 := by omega
  have HX1 := Lib.hid (bx_gr HX0.out hG1 (by omega))
  have HG1 := Lib.hid (gtrans HG0.out hG1)
  have hz1 := hG1.size
  have Hz1 := Lib.hid (show w.heap.size + 1 ≤ u1.heap.size by have := Hz.out; omega)
  clear hW' hWb hG1 hz1 HX0 HG0 HR0 Hz
  go_wp2_with fail
  refine (one_litB _ [3, 2, 4, 1, 5, 8] 6 6 _ g (N + 1) u1 rfl hR1 (by omega) (by simp) (by simp) rfl rfl).mono ?_
  rintro e u2 ⟨H', rfl, hH', hR2, hG2⟩
  have hHb : 1 ≤ H' ∧ H' ≤ 8 := by simp at hH'; omega
  obtain ⟨H, rfl⟩ := Int.eq_ofNat_of_zero_le (show 0 ≤ H' by omega)
  have hH1 : 1 ≤ H := by omega
  have hH8 : H ≤ 8 := by omega
  have HX2 := Lib.hid (bx_gr HX1.out hG2 (by omega))
  have HG2 := Lib.hid (gtrans HG1.out hG2)
  have hz2 := hG2.size
  have Hz2 := Lib.hid (show w.heap.size + 1 ≤ u2.heap.size by have := Hz1.out; omega)
  clear hH' hHb hG2 hz2 HX1 HG1 Hz1 hR1
  go_wp2_with fail
  refine (newImage_any W H P (by omega) (by omega) hP4 u2).mono ?_
  rintro e u3 ⟨v3, rfl, hO3, hB3⟩
  have hWH : W * H ≤ 64 := by have := Nat.mul_le_mul hW8 hH8; omega
  have hn256 : W * H * P ≤ 256 := by have := Nat.mul_le_mul hWH hP4; omega
  have hnpos : 0 < W * H * P := Nat.mul_pos (Nat.mul_pos (by omega) (by omega)) (by omega)
  obtain ⟨gb, c, rfl, hg1, hg2⟩ := hO3.form (by simp [zeros]; omega)
  obtain ⟨n, hn⟩ : ∃ n, n = (zeros (W * H * P)).length := ⟨_, rfl⟩
  have hnW : n = W * H * P := by rw [hn]; simp [zeros]
  obtain ⟨b5, hb5⟩ : ∃ b5, b5 = u3.heap.size := ⟨_, rfl⟩
  rw [← hn]
  have HI0 : Hid (∃ ys : List Int, n = ys.length ∧ Own (u3.alloc (.cells #[.int .i64 (W : Int), .int .i64 (H : Int), .int .i64 (P : Int), .slice (some ⟨gb, 0, none⟩) n c] 29)) (w.heap.size + 1) (.slice (some ⟨gb, 0, none⟩) n c) ys ∧ Bx (u3.alloc (.cells #[.int .i64 (W : Int), .int .i64 (H : Int), .int .i64 (P : Int), .slice (some ⟨gb, 0, none⟩) n c] 29)) b5 29 (imC W H P (.slice (some ⟨gb, 0, none⟩) n c)) ∧ Bx (u3.alloc (.cells #[.int .i64 (W : Int), .int .i64 (H : Int), .int .i64 (P : Int), .slice (some ⟨gb, 0, none⟩) n c] 29)) w.heap.size 29 (imC 0 0 0 (.slice none 0 0)) ∧ Rdr (u3.alloc (.cells #[.int .i64 (W : Int), .int .i64 (H : Int), .int .i64 (P : Int), .slice (some ⟨gb, 0, none⟩) n c] 29)) g (N + 2) ∧ w.grownBy (u3.alloc (.cells #[.int .i64 (W : Int), .int .i64 (H : Int), .int .i64 (P : Int), .slice (some ⟨gb, 0, none⟩) n c] 29)) (some g)) :=
    Lib.hid ⟨zeros (W * H * P), hn, by rw [hn]; exact (hO3.alloc _).base_le Hz2.out, by rw [hb5]; exact Bx.new u3 _ _, (HX2.out.below hB3).alloc _, ((hR2.below hB3 hR2.lt).more (by omega)).alloc _, gtrans (gtrans HG2.out (below_grown hB3 _)) (World.grownBy_alloc _ _ _)⟩
  have HB5 := Lib.hid hb5
  have HnW := Lib.hid hnW
  have hgb : w.heap.size + 1 ≤ gb := by have := Hz2.out; omega
  have hgb5 : gb < b5 := by omega
  have hn2 : n ≤ 256 := by omega
  have hn1 : 0 < n := by omega
  clear hO3 hB3 HX2 HG2 Hz2 hR2 hn hnW hb5 hg1 hg2 hn256 hnpos hWH
  go_wp2_with fail
  rw [← HB5.out]
  generalize u3.alloc (.cells #[.int .i64 (W : Int), .int .i64 (H : Int), .int .i64 (P : Int), .slice (some ⟨gb, 0, none⟩) n c] 29) = u4 at *
  obtain ⟨ys, hy, hO, hM, hX, hR, hG⟩ := HI0.out
  clear HI0
  refine (pick_any 4 g (N + 2) u4 hR (by omega) (by omega)).mono ?_
  intro e u5 hp
  obtain ⟨kd, rfl, hkd, hR5, hG5, hs5⟩ := picked_nat hp (by omega)
  have HO5 := Lib.hid (hO.off hG5 (by omega))
  have HM5 := Lib.hid (bx_gr hM hG5 (by omega))
  have HX5 := Lib.hid (bx_gr hX hG5 (by omega))
  have HG5 := Lib.hid (gtrans hG hG5)
  clear hO hM hX hR hG hp hG5 hs5
  go_wp2_with fail
  refine (pick_any 256 g (N + 3) u5 hR5 (by omega) (by omega)).mono ?_
  intro e u6 hp
  obtain ⟨at0, rfl, hat, hR6, hG6, hs6⟩ := picked_nat hp (by omega)
  have HI : Hid (∃ ys : List Int, n = ys.length ∧ Own u6 (w.heap.size + 1) (.slice (some ⟨gb, 0, none⟩) n c) ys ∧ Bx u6 b5 29 (imC W H P (.slice (some ⟨gb, 0, none⟩) n c)) ∧ Bx u6 w.heap.size 29 (imC 0 0 0 (.slice none 0 0)) ∧ Rdr u6 g (N + 4 + 0) ∧ w.grownBy u6 (some g)) :=
    Lib.hid ⟨ys, hy, HO5.out.off hG6 (by omega), bx_gr HM5.out hG6 (by omega), bx_gr HX5.out hG6 (by omega), hR6, gtrans HG5.out hG6⟩
  clear HO5 HM5 HX5 HG5 hp hG6 hs6 hR5 hR6 hy HB5
  have hk4 : (kd : Int) = 0 ∨ (kd : Int) = 1 ∨ (kd : Int) = 2 ∨ (kd : Int) = 3 := by omega
  clear hkd
  generalize (kd : Int) = K at hk4 ⊢
  go_wp2
  rcases hk4 with rfl | rfl | rfl | rfl
  · go_loopw [7, 8] (fun av iv wr => ∃ j a : Nat, j ≤ n ∧ a ≤ 255 ∧ iv = .int .i64 (j : Int) ∧ av = .int .i64 (a : Int) ∧ Hid (∃ ys : List Int, n = ys.length ∧ Own wr (w.heap.size + 1) (.slice (some ⟨gb, 0, none⟩) n c) ys ∧ Bx wr b5 29 (imC W H P (.slice (some ⟨gb, 0, none⟩) n c)) ∧ Bx wr w.heap.size 29 (imC 0 0 0 (.slice none 0 0)) ∧ Rdr wr g (N + 4 + j) ∧ w.grownBy wr (some g))) (fun _ iv _ => n - (intOf iv).toNat)
    case atStart => exact ⟨0, at0, Nat.zero_le _, by omega, rfl, rfl, HI⟩
    case round =>
      obtain ⟨j, a, hj, ha, rfl, rfl, hI⟩ := hrel
      obtain ⟨ys, hy, hO, hM, hX, hR, hG⟩ := hI.out
      obtain ⟨t0, t1, t2, t3⟩ := hM.im
      by_cases hlt : j < n
      · clear HI
        go_wp2_with fail
        refine (pick_any 256 g (N + 4 + j) wr hR (by omega) (by omega)).mono ?_
        intro e w7 hp
        obtain ⟨q, rfl, hq, hR7, hG7, hs7⟩ := picked_nat hp (by omega)
        have hO7 := hO.off hG7 (by omega)
        have hM7 := bx_gr hM hG7 (by omega)
        have hX7 := bx_gr hX hG7 (by omega)
        have hG7' := gtrans hG hG7
        clear hO hM hX hR hG hp hG7 hs7
        obtain ⟨av, hav⟩ : ∃ av : Nat, (av : Int) = (q : Int) := ⟨Int.toNat (q : Int), by omega⟩
        have hab : av ≤ 255 := by omega
        clear t0 t1 t2 t3
        obtain ⟨m0, m1, m2, m3⟩ := hM7.im
        have hcw := hO7.cell hy (j := j) (by omega)
        have hfw := hO7.frozen hy j
        have hput := hO7.put hy j (av : Int)
        have HN : Hid (∃ ys : List Int, n = ys.length ∧ Own (w7.setCell ⟨gb, j, none⟩ (.int .i64 (av : Int))) (w.heap.size + 1) (.slice (some ⟨gb, 0, none⟩) n c) ys ∧ Bx (w7.setCell ⟨gb, j, none⟩ (.int .i64 (av : Int))) b5 29 (imC W H P (.slice (some ⟨gb, 0, none⟩) n c)) ∧ Bx (w7.setCell ⟨gb, j, none⟩ (.int .i64 (av : Int))) w.heap.size 29 (imC 0 0 0 (.slice none 0 0)) ∧ Rdr (w7.setCell ⟨gb, j, none⟩ (.int .i64 (av : Int))) g (N + 4 + (j + 1)) ∧ w.grownBy (w7.setCell ⟨gb, j, none⟩ (.int .i64 (av : Int))) (some g)) :=
          Lib.hid ⟨ys.set j (av : Int), by simpa using hy, hput.1, bx_gr hM7 hput.2 (by omega), bx_gr hX7 hput.2 (by omega), (hR7.grown hput.2 (fun k hk => by injection hk with hk; omega)).more (by omega), gmix hG7' hput.2 (fun k hk => by injection hk with hk; omega)⟩
        rw [hav] at HN
        have HAV := Lib.hid hav
        clear hy hO7 hM7 hX7 hR7 hG7' hput hav hI
        generalize ys.getD j 0 = z' at *
        go_wp2
        go_roundw
        case rel => exact ⟨j + 1, av, by omega, hab, by go_num, by rw [HAV.out], HN⟩
        case measure => simp [intOf]; omega
      · have hjn : j = n := by omega
        obtain ⟨r0, r1, r2, r3⟩ := hX.im
        have f0 := hX.fz 0
        have f1 := hX.fz 1
        have f2 := hX.fz 2
        have f3 := hX.fz 3
        have HE : Hid (∀ u0 u1 u2 u3 : Value, RandIm P g (N + 300) w (.returned (.agg #[.int .i64 (W : Int), .int .i64 (H : Int), .int .i64 (P : Int), .slice (some ⟨gb, 0, none⟩) n c])) ((((wr.setCell ⟨w.heap.size, 0, none⟩ u0).setCell ⟨w.heap.size, 1, none⟩ u1).setCell ⟨w.heap.size, 2, none⟩ u2).setCell ⟨w.heap.size, 3, none⟩ u3)) := Lib.hid fun u0 u1 u2 u3 => by
          have hset : ∀ (u : World) (i : Nat) (x : Value), u.grownBy (u.setCell ⟨w.heap.size, i, none⟩ x) (some w.heap.size) := fun u i x => ⟨rfl, rfl, rfl, by simp [World.setCell], fun k _ hk => heap_setCell_other u ⟨w.heap.size, i, none⟩ k x (fun e => hk (by simp [e]))⟩
          have hG4 := gtrans (gtrans (gtrans (hset wr 0 u0) (hset _ 1 u1)) (hset _ 2 u2)) (hset _ 3 u3)
          refine ⟨W, H, gb, c, ys, by rw [hy], hW1, hW8, hH1, hH8, by rw [← hy]; exact HnW.out, ?_, (hR.grown hG4 (fun k hk => by injection hk with hk; omega)).more (by omega), gmix hG hG4 (fun k hk => by injection hk with hk; omega)⟩
          rw [← hy]
          exact ((((hO.setB (by show _ < _; simp) u0).setB (by show _ < _; simp) u1).setB (by show _ < _; simp) u2).setB (by show _ < _; simp) u3).base_le (by omega)
        clear hy hO hM hX hR hG hI HI hjn
        go_wp2
        exact bodyPost_ret (v := .agg #[.int .i64 (W : Int), .int .i64 (H : Int), .int .i64 (P : Int), .slice (some ⟨gb, 0, none⟩) n c]) (by simp [results, Try.results69, go_sem, r0, r1, r2, r3]) rfl (HE.out _ _ _ _)
  · go_loopw [7, 8] (fun av iv wr => ∃ j a : Nat, j ≤ n ∧ a ≤ 255 ∧ iv = .int .i64 (j : Int) ∧ av = .int .i64 (a : Int) ∧ Hid (∃ ys : List Int, n = ys.length ∧ Own wr (w.heap.size + 1) (.slice (some ⟨gb, 0, none⟩) n c) ys ∧ Bx wr b5 29 (imC W H P (.slice (some ⟨gb, 0, none⟩) n c)) ∧ Bx wr w.heap.size 29 (imC 0 0 0 (.slice none 0 0)) ∧ Rdr wr g (N + 4 + j) ∧ w.grownBy wr (some g))) (fun _ iv _ => n - (intOf iv).toNat)
    case atStart => exact ⟨0, at0, Nat.zero_le _, by omega, rfl, rfl, HI⟩
    case round =>
      obtain ⟨j, a, hj, ha, rfl, rfl, hI⟩ := hrel
      obtain ⟨ys, hy, hO, hM, hX, hR, hG⟩ := hI.out
      obtain ⟨t0, t1, t2, t3⟩ := hM.im
      by_cases hlt : j < n
      · clear HI
        go_wp2_with fail
        refine (pick_any 5 g (N + 4 + j) wr hR (by omega) (by omega)).mono ?_
        intro e w7 hp
        obtain ⟨q, rfl, hq, hR7, hG7, hs7⟩ := picked_nat hp (by omega)
        have hO7 := hO.off hG7 (by omega)
        have hM7 := bx_gr hM hG7 (by omega)
        have hX7 := bx_gr hX hG7 (by omega)
        have hG7' := gtrans hG hG7
        clear hO hM hX hR hG hp hG7 hs7
        obtain ⟨av, hav⟩ : ∃ av : Nat, (av : Int) = (((a : Int) + (q : Int) + 254) % 256) := ⟨Int.toNat (((a : Int) + (q : Int) + 254) % 256), by omega⟩
        have hab : av ≤ 255 := by omega
        clear t0 t1 t2 t3
        obtain ⟨m0, m1, m2, m3⟩ := hM7.im
        have hcw := hO7.cell hy (j := j) (by omega)
        have hfw := hO7.frozen hy j
        have hput := hO7.put hy j (av : Int)
        have HN : Hid (∃ ys : List Int, n = ys.length ∧ Own (w7.setCell ⟨gb, j, none⟩ (.int .i64 (av : Int))) (w.heap.size + 1) (.slice (some ⟨gb, 0, none⟩) n c) ys ∧ Bx (w7.setCell ⟨gb, j, none⟩ (.int .i64 (av : Int))) b5 29 (imC W H P (.slice (some ⟨gb, 0, none⟩) n c)) ∧ Bx (w7.setCell ⟨gb, j, none⟩ (.int .i64 (av : Int))) w.heap.size 29 (imC 0 0 0 (.slice none 0 0)) ∧ Rdr (w7.setCell ⟨gb, j, none⟩ (.int .i64 (av : Int))) g (N + 4 + (j + 1)) ∧ w.grownBy (w7.setCell ⟨gb, j, none⟩ (.int .i64 (av : Int))) (some g)) :=
          Lib.hid ⟨ys.set j (av : Int), by simpa using hy, hput.1, bx_gr hM7 hput.2 (by omega), bx_gr hX7 hput.2 (by omega), (hR7.grown hput.2 (fun k hk => by injection hk with hk; omega)).more (by omega), gmix hG7' hput.2 (fun k hk => by injection hk with hk; omega)⟩
        rw [hav] at HN
        have HAV := Lib.hid hav
        clear hy hO7 hM7 hX7 hR7 hG7' hput hav hI
        generalize ys.getD j 0 = z' at *
        go_wp2
        go_roundw
        case rel => exact ⟨j + 1, av, by omega, hab, by go_num, by rw [HAV.out], HN⟩
        case measure => simp [intOf]; omega
      · have hjn : j = n := by omega
        obtain ⟨r0, r1, r2, r3⟩ := hX.im
        have f0 := hX.fz 0
        have f1 := hX.fz 1
        have f2 := hX.fz 2
        have f3 := hX.fz 3
        have HE : Hid (∀ u0 u1 u2 u3 : Value, RandIm P g (N + 300) w (.returned (.agg #[.int .i64 (W : Int), .int .i64 (H : Int), .int .i64 (P : Int), .slice (some ⟨gb, 0, none⟩) n c])) ((((wr.setCell ⟨w.heap.size, 0, none⟩ u0).setCell ⟨w.heap.size, 1, none⟩ u1).setCell ⟨w.heap.size, 2, none⟩ u2).setCell ⟨w.heap.size, 3, none⟩ u3)) := Lib.hid fun u0 u1 u2 u3 => by
          have hset : ∀ (u : World) (i : Nat) (x : Value), u.grownBy (u.setCell ⟨w.heap.size, i, none⟩ x) (some w.heap.size) := fun u i x => ⟨rfl, rfl, rfl, by simp [World.setCell], fun k _ hk => heap_setCell_other u ⟨w.heap.size, i, none⟩ k x (fun e => hk (by simp [e]))⟩
          have hG4 := gtrans (gtrans (gtrans (hset wr 0 u0) (hset _ 1 u1)) (hset _ 2 u2)) (hset _ 3 u3)
          refine ⟨W, H, gb, c, ys, by rw [hy], hW1, hW8, hH1, hH8, by rw [← hy]; exact HnW.out, ?_, (hR.grown hG4 (fun k hk => by injection hk with hk; omega)).more (by omega), gmix hG hG4 (fun k hk => by injection hk with hk; omega)⟩
          rw [← hy]
          exact ((((hO.setB (by show _ < _; simp) u0).setB (by show _ < _; simp) u1).setB (by show _ < _; simp) u2).setB (by show _ < _; simp) u3).base_le (by omega)
        clear hy hO hM hX hR hG hI HI hjn
        go_wp2
        exact bodyPost_ret (v := .agg #[.int .i64 (W : Int), .int .i64 (H : Int), .int .i64 (P : Int), .slice (some ⟨gb, 0, none⟩) n c]) (by simp [results, Try.results69, go_sem, r0, r1, r2, r3]) rfl (HE.out _ _ _ _)
  · go_loopw [7, 8] (fun av iv wr => ∃ j a : Nat, j ≤ n ∧ a ≤ 255 ∧ iv = .int .i64 (j : Int) ∧ av = .int .i64 (a : Int) ∧ Hid (∃ ys : List Int, n = ys.length ∧ Own wr (w.heap.size + 1) (.slice (some ⟨gb, 0, none⟩) n c) ys ∧ Bx wr b5 29 (imC W H P (.slice (some ⟨gb, 0, none⟩) n c)) ∧ Bx wr w.heap.size 29 (imC 0 0 0 (.slice none 0 0)) ∧ Rdr wr g (N + 4 + j) ∧ w.grownBy wr (some g))) (fun _ iv _ => n - (intOf iv).toNat)
    case atStart => exact ⟨0, at0, Nat.zero_le _, by omega, rfl, rfl, HI⟩
    case round =>
      obtain ⟨j, a, hj, ha, rfl, rfl, hI⟩ := hrel
      obtain ⟨ys, hy, hO, hM, hX, hR, hG⟩ := hI.out
      obtain ⟨t0, t1, t2, t3⟩ := hM.im
      by_cases hlt : j < n
      · clear HI
        go_wp2_with fail
        refine (pick_any 4 g (N + 4 + j) wr hR (by omega) (by omega)).mono ?_
        intro e w7 hp
        obtain ⟨q, rfl, hq, hR7, hG7, hs7⟩ := picked_nat hp (by omega)
        have hO7 := hO.off hG7 (by omega)
        have hM7 := bx_gr hM hG7 (by omega)
        have hX7 := bx_gr hX hG7 (by omega)
        have hG7' := gtrans hG hG7
        clear hO hM hX hR hG hp hG7 hs7
        obtain ⟨av, hav⟩ : ∃ av : Nat, (av : Int) = (60 * (q : Int)) := ⟨Int.toNat (60 * (q : Int)), by omega⟩
        have hab : av ≤ 255 := by omega
        clear t0 t1 t2 t3
        obtain ⟨m0, m1, m2, m3⟩ := hM7.im
        have hcw := hO7.cell hy (j := j) (by omega)
        have hfw := hO7.frozen hy j
        have hput := hO7.put hy j (av : Int)
        have HN : Hid (∃ ys : List Int, n = ys.length ∧ Own (w7.setCell ⟨gb, j, none⟩ (.int .i64 (av : Int))) (w.heap.size + 1) (.slice (some ⟨gb, 0, none⟩) n c) ys ∧ Bx (w7.setCell ⟨gb, j, none⟩ (.int .i64 (av : Int))) b5 29 (imC W H P (.slice (some ⟨gb, 0, none⟩) n c)) ∧ Bx (w7.setCell ⟨gb, j, none⟩ (.int .i64 (av : Int))) w.heap.size 29 (imC 0 0 0 (.slice none 0 0)) ∧ Rdr (w7.setCell ⟨gb, j, none⟩ (.int .i64 (av : Int))) g (N + 4 + (j + 1)) ∧ w.grownBy (w7.setCell ⟨gb, j, none⟩ (.int .i64 (av : Int))) (some g)) :=
          Lib.hid ⟨ys.set j (av : Int), by simpa using hy, hput.1, bx_gr hM7 hput.2 (by omega), bx_gr hX7 hput.2 (by omega), (hR7.grown hput.2 (fun k hk => by injection hk with hk; omega)).more (by omega), gmix hG7' hput.2 (fun k hk => by injection hk with hk; omega)⟩
        rw [hav] at HN
        have HAV := Lib.hid hav
        clear hy hO7 hM7 hX7 hR7 hG7' hput hav hI
        generalize ys.getD j 0 = z' at *
        go_wp2
        go_roundw
        case rel => exact ⟨j + 1, av, by omega, hab, by go_num, by rw [HAV.out], HN⟩
        case measure => simp [intOf]; omega
      · have hjn : j = n := by omega
        obtain ⟨r0, r1, r2, r3⟩ := hX.im
        have f0 := hX.fz 0
        have f1 := hX.fz 1
        have f2 := hX.fz 2
        have f3 := hX.fz 3
        have HE : Hid (∀ u0 u1 u2 u3 : Value, RandIm P g (N + 300) w (.returned (.agg #[.int .i64 (W : Int), .int .i64 (H : Int), .int .i64 (P : Int), .slice (some ⟨gb, 0, none⟩) n c])) ((((wr.setCell ⟨w.heap.size, 0, none⟩ u0).setCell ⟨w.heap.size, 1, none⟩ u1).setCell ⟨w.heap.size, 2, none⟩ u2).setCell ⟨w.heap.size, 3, none⟩ u3)) := Lib.hid fun u0 u1 u2 u3 => by
          have hset : ∀ (u : World) (i : Nat) (x : Value), u.grownBy (u.setCell ⟨w.heap.size, i, none⟩ x) (some w.heap.size) := fun u i x => ⟨rfl, rfl, rfl, by simp [World.setCell], fun k _ hk => heap_setCell_other u ⟨w.heap.size, i, none⟩ k x (fun e => hk (by simp [e]))⟩
          have hG4 := gtrans (gtrans (gtrans (hset wr 0 u0) (hset _ 1 u1)) (hset _ 2 u2)) (hset _ 3 u3)
          refine ⟨W, H, gb, c, ys, by rw [hy], hW1, hW8, hH1, hH8, by rw [← hy]; exact HnW.out, ?_, (hR.grown hG4 (fun k hk => by injection hk with hk; omega)).more (by omega), gmix hG hG4 (fun k hk => by injection hk with hk; omega)⟩
          rw [← hy]
          exact ((((hO.setB (by show _ < _; simp) u0).setB (by show _ < _; simp) u1).setB (by show _ < _; simp) u2).setB (by show _ < _; simp) u3).base_le (by omega)
        clear hy hO hM hX hR hG hI HI hjn
        go_wp2
        exact bodyPost_ret (v := .agg #[.int .i64 (W : Int), .int .i64 (H : Int), .int .i64 (P : Int), .slice (some ⟨gb, 0, none⟩) n c]) (by simp [results, Try.results69, go_sem, r0, r1, r2, r3]) rfl (HE.out _ _ _ _)
  · go_loopw [7, 8] (fun av iv wr => ∃ j a : Nat, j ≤ n ∧ a ≤ 255 ∧ iv = .int .i64 (j : Int) ∧ av = .int .i64 (a : Int) ∧ Hid (∃ ys : List Int, n = ys.length ∧ Own wr (w.heap.size + 1) (.slice (some ⟨gb, 0, none⟩) n c) ys ∧ Bx wr b5 29 (imC W H P (.slice (some ⟨gb, 0, none⟩) n c)) ∧ Bx wr w.heap.size 29 (imC 0 0 0 (.slice none 0 0)) ∧ Rdr wr g (N + 4 + j) ∧ w.grownBy wr (some g))) (fun _ iv _ => n - (intOf iv).toNat)
    case atStart => exact ⟨0, at0, Nat.zero_le _, by omega, rfl, rfl, HI⟩
    case round =>
      obtain ⟨j, a, hj, ha, rfl, rfl, hI⟩ := hrel
      obtain ⟨ys, hy, hO, hM, hX, hR, hG⟩ := hI.out
      obtain ⟨t0, t1, t2, t3⟩ := hM.im
      by_cases hlt : j < n
      · clear HI
        obtain ⟨av, hav⟩ : ∃ av : Nat, (av : Int) = (a : Int) := ⟨Int.toNat (a : Int), by omega⟩
        have hab : av ≤ 255 := by omega
        clear t0 t1 t2 t3
        obtain ⟨m0, m1, m2, m3⟩ := hM.im
        have hcw := hO.cell hy (j := j) (by omega)
        have hfw := hO.frozen hy j
        have hput := hO.put hy j (av : Int)
        have HN : Hid (∃ ys : List Int, n = ys.length ∧ Own (wr.setCell ⟨gb, j, none⟩ (.int .i64 (av : Int))) (w.heap.size + 1) (.slice (some ⟨gb, 0, none⟩) n c) ys ∧ Bx (wr.setCell ⟨gb, j, none⟩ (.int .i64 (av : Int))) b5 29 (imC W H P (.slice (some ⟨gb, 0, none⟩) n c)) ∧ Bx (wr.setCell ⟨gb, j, none⟩ (.int .i64 (av : Int))) w.heap.size 29 (imC 0 0 0 (.slice none 0 0)) ∧ Rdr (wr.setCell ⟨gb, j, none⟩ (.int .i64 (av : Int))) g (N + 4 + (j + 1)) ∧ w.grownBy (wr.setCell ⟨gb, j, none⟩ (.int .i64 (av : Int))) (some g)) :=
          Lib.hid ⟨ys.set j (av : Int), by simpa using hy, hput.1, bx_gr hM hput.2 (by omega), bx_gr hX hput.2 (by omega), (hR.grown hput.2 (fun k hk => by injection hk with hk; omega)).more (by omega), gmix hG hput.2 (fun k hk => by injection hk with hk; omega)⟩
        rw [hav] at HN
        have HAV := Lib.hid hav
        clear hy hO hM hX hR hG hput hav hI
        generalize ys.getD j 0 = z' at *
        go_wp2
        go_roundw
        case rel => exact ⟨j + 1, av, by omega, hab, by go_num, by rw [HAV.out], HN⟩
        case measure => simp [intOf]; omega
      · have hjn : j = n := by omega
        obtain ⟨r0, r1, r2, r3⟩ := hX.im
        have f0 := hX.fz 0
        have f1 := hX.fz 1
        have f2 := hX.fz 2
        have f3 := hX.fz 3
        have HE : Hid (∀ u0 u1 u2 u3 : Value, RandIm P g (N + 300) w (.returned (.agg #[.int .i64 (W : Int), .int .i64 (H : Int), .int .i64 (P : Int), .slice (some ⟨gb, 0, none⟩) n c])) ((((wr.setCell ⟨w.heap.size, 0, none⟩ u0).setCell ⟨w.heap.size, 1, none⟩ u1).setCell ⟨w.heap.size, 2, none⟩ u2).setCell ⟨w.heap.size, 3, none⟩ u3)) := Lib.hid fun u0 u1 u2 u3 => by
          have hset : ∀ (u : World) (i : Nat) (x : Value), u.grownBy (u.setCell ⟨w.heap.size, i, none⟩ x) (some w.heap.size) := fun u i x => ⟨rfl, rfl, rfl, by simp [World.setCell], fun k _ hk => heap_setCell_other u ⟨w.heap.size, i, none⟩ k x (fun e => hk (by simp [e]))⟩
          have hG4 := gtrans (gtrans (gtrans (hset wr 0 u0) (hset _ 1 u1)) (hset _ 2 u2)) (hset _ 3 u3)
          refine ⟨W, H, gb, c, ys, by rw [hy], hW1, hW8, hH1, hH8, by rw [← hy]; exact HnW.out, ?_, (hR.grown hG4 (fun k hk => by injection hk with hk; omega)).more (by omega), gmix hG hG4 (fun k hk => by injection hk with hk; omega)⟩
          rw [← hy]
          exact ((((hO.setB (by show _ < _; simp) u0).setB (by show _ < _; simp) u1).setB (by show _ < _; simp) u2).setB (by show _ < _; simp) u3).base_le (by omega)
        clear hy hO hM hX hR hG hI HI hjn
        go_wp2
        exact bodyPost_ret (v := .agg #[.int .i64 (W : Int), .int .i64 (H : Int), .int .i64 (P : Int), .slice (some ⟨gb, 0, none⟩) n c]) (by simp [results, Try.results69, go_sem, r0, r1, r2, r3]) rfl (HE.out _ _ _ _)
end Go.Proofs.Ytjgcondkoaegnaa
namespace Go.Proofs.Ytjgcondkoaegnaa
open Go.RowKit
set_option linter.unusedSimpArgs false
set_option linter.unusedVariables false

def DrawIm (g N : Nat) (w : World) (e : Ending) (w' : World) : Prop :=
  ∃ (W H P : Int) (A : Option Addr) (c : Nat) (xs : List Int), e = .returned (.agg #[.int .i64 W, .int .i64 H, .int .i64 P, .slice A xs.length c]) ∧ (xs.length ≤ 256 ∧ P ≤ 99 ∧ 0 ≤ P) ∧ xs.length ≤ c ∧ Rds .i64 w' w'.heap.size A xs ∧ Rdr w' g N ∧ w.grownBy w' (some g) ∧ ∀ a : Addr, A = some a → w.heap.size ≤ a.block
theorem hset (r : Nat) (u : World) (i : Nat) (x : Value) : u.grownBy (u.setCell ⟨r, i, none⟩ x) (some r) := ⟨rfl, rfl, rfl, by simp [World.setCell], fun k _ hk => heap_setCell_other u ⟨r, i, none⟩ k x (fun e => hk (by simp [e]))⟩
theorem Rds.setOff {k : IntKind} {w : World} {B b off r i : Nat} {xs : List Int} (h : Rds k w B (some ⟨b, off, none⟩) xs) (hne : b ≠ r) (x : Value) : Rds k (w.setCell ⟨r, i, none⟩ x) B (some ⟨b, off, none⟩) xs := by
  rcases h with h | ⟨b', off', hA, hb, hc⟩
  · exact .inl h
  · injection hA with hA
    injection hA with h1 h2
    subst h1 h2
    exact .inr ⟨b, off, rfl, hb, fun j hj => (World.cell?_setCell_other w ⟨r, i, none⟩ ⟨b, off + j, none⟩ x (fun e => by injection e with e1; exact hne e1.symm)).trans (hc j hj)⟩
theorem Own.slice' {w : World} {base : Nat} {v : Value} {xs : List Int} (h : Own w base v xs) : ∃ A c, v = .slice A xs.length c ∧ xs.length ≤ c := h.slice
theorem Own.rds' {w : World} {base gb n c : Nat} {xs : List Int} (h : Own w base (.slice (some ⟨gb, 0, none⟩) n c) xs) (hn : n = xs.length) : Rds .i64 w w.heap.size (some ⟨gb, 0, none⟩) xs := by
  subst hn; exact h.rds.2
theorem spoil_fin {w wr : World} {g N N' gb off r c : Nat} {xs : List Int} (hr : Rds .i64 wr wr.heap.size (some ⟨gb, off, none⟩) xs) (hR : Rdr wr g N') (hG : w.grownBy wr (some g)) (hne : gb ≠ r) (hgb : w.heap.size ≤ gb) (hgr : g < r) (hwr : w.heap.size ≤ r) (hN : N' ≤ N) (W H P : Int) (hx : xs.length ≤ 256 ∧ P ≤ 99 ∧ 0 ≤ P) (hc : xs.length ≤ c) (u0 u1 u2 u3 : Value) :
    DrawIm g N w (.returned (.agg #[.int .i64 W, .int .i64 H, .int .i64 P, .slice (some ⟨gb, off, none⟩) xs.length c])) ((((wr.setCell ⟨r, 0, none⟩ u0).setCell ⟨r, 1, none⟩ u1).setCell ⟨r, 2, none⟩ u2).setCell ⟨r, 3, none⟩ u3) := by
  have hG4 := gtrans (gtrans (gtrans (hset r wr 0 u0) (hset r _ 1 u1)) (hset r _ 2 u2)) (hset r _ 3 u3)
  refine ⟨W, H, P, _, c, xs, rfl, hx, hc, ?_, (hR.grown hG4 (fun k hk => by injection hk with hk; omega)).more hN, gmix hG hG4 (fun k hk => by injection hk with hk; omega), fun a ha => by injection ha with ha; subst ha; exact hgb⟩
  exact ((((hr.setOff hne u0).setOff hne u1).setOff hne u2).setOff hne u3).more (by simp [World.setCell])
theorem bx_set {w : World} {b i : Nat} {T : TypeId} {cs : Array Value} {r : Nat} (h : Bx w b T cs) (hne : b ≠ r) (x : Value) : Bx (w.setCell ⟨r, i, none⟩ x) b T cs := (Below.heap_setCell w ⟨r, i, none⟩ x b hne).trans h
set_option maxRecDepth 100000 in
set_option maxHeartbeats 16000000 in
theorem spoilImage_any (W H P : Int) (hW0 : 0 ≤ W) (hW1 : W ≤ 100) (hPb : P ≤ 99 ∧ 0 ≤ P) (gb c n : Nat) (xs : List Int) (hn : n = xs.length) (hn1 : 0 < n) (hn2 : n ≤ 256) (lo g N : Nat) (w00 w : World) (hG00 : w00.grownBy w (some g)) (hlo2 : lo = w00.heap.size) (hO : Own w lo (.slice (some ⟨gb, 0, none⟩) n c) xs) (hlo : g < lo) (hR : Rdr w g N) (hN : N ≤ 100000000) :
    Calls Try.prog 68 #[.pointer (some ⟨g, 0, none⟩), .agg #[.int .i64 W, .int .i64 H, .int .i64 P, .slice (some ⟨gb, 0, none⟩) n c]] w (DrawIm g (N + 3) w00) := by
  have hgl := hR.lt
  have hgb := hO.lt gb rfl
  have hnc : n ≤ c := by
    obtain ⟨_, _, h1, h2⟩ := hO.slice'
    injection h1 with _ h3 h4
    omega
  obtain ⟨u0, hu⟩ : ∃ u0, u0 = (w.alloc (.cells #[.int .i64 W, .int .i64 H, .int .i64 P, .slice (some ⟨gb, 0, none⟩) n c] 29)).alloc (.cells #[.int .i64 0, .int .i64 0, .int .i64 0, .slice none 0 0] 29) := ⟨_, rfl⟩
  have Hz : Hid (u0.heap.size = w.heap.size + 2) := Lib.hid (by rw [hu]; simp)
  have HM0 : Hid (Bx u0 w.heap.size 29 (imC W H P (.slice (some ⟨gb, 0, none⟩) n c))) := Lib.hid (by rw [hu]; exact (Bx.new w 29 _).alloc _)
  have HX0 : Hid (Bx u0 (w.heap.size + 1) 29 (imC 0 0 0 (.slice none 0 0))) := Lib.hid (by rw [hu]; have := Bx.new (w.alloc (.cells #[.int .i64 W, .int .i64 H, .int .i64 P, .slice (some ⟨gb, 0, none⟩) n c] 29)) 29 (imC 0 0 0 (.slice none 0 0)); simpa [imC] using this)
  have HO0 : Hid (Own u0 lo (.slice (some ⟨gb, 0, none⟩) n c) xs) := Lib.hid (by rw [hu]; exact (hO.alloc _).alloc _)
  have HR0 : Hid (Rdr u0 g N) := Lib.hid (by rw [hu]; exact (hR.alloc _).alloc _)
  have HG0 : Hid (w00.grownBy u0 (some g)) := Lib.hid (by rw [hu]; exact gtrans (gtrans hG00 (World.grownBy_alloc w _ _)) (World.grownBy_alloc _ _ _))
  have hz00 := hG00.size
  have HU := Lib.hid hu
  have Hn := Lib.hid hn
  clear hO hR hu hn hG00
  go_enter Try.func68, Try.ntmps68
  go_wp2_with fail
  rw [← HU.out]
  clear HU
  refine (pick_any 40 g N u0 HR0.out (by omega) (by omega)).mono ?_
  intro e u1 hp
  obtain ⟨kd, rfl, hkd, hR1, hG1, hs1⟩ := picked_nat hp (by omega)
  have HO := Lib.hid (HO0.out.off hG1 hlo)
  have HM := Lib.hid (bx_gr HM0.out hG1 (by omega))
  have HX := Lib.hid (bx_gr HX0.out hG1 (by omega))
  have HG := Lib.hid (gtrans HG0.out hG1)
  have HR := Lib.hid hR1
  have hz1 : w.heap.size + 2 ≤ u1.heap.size := by have := Hz.out; omega
  clear hp hR1 hG1 hs1 HO0 HM0 HX0 HG0 HR0 Hz
  have hk4 : (kd : Int) = 0 ∨ (kd : Int) = 1 ∨ (kd : Int) = 2 ∨ (kd : Int) = 3 ∨ 4 ≤ (kd : Int) := by omega
  clear hkd
  generalize (kd : Int) = K at hk4 ⊢
  obtain ⟨m0, m1, m2, m3⟩ := HM.out.im
  have f0 := HM.out.fz 0
  have f2 := HM.out.fz 2
  have f3 := HM.out.fz 3
  obtain ⟨r0, r1, r2, r3⟩ := HX.out.im
  have e0 := HX.out.fz 0
  have e1 := HX.out.fz 1
  have e2 := HX.out.fz 2
  have e3 := HX.out.fz 3
  have hne : gb ≠ w.heap.size + 1 := by omega
  have hne0 : gb ≠ w.heap.size := by omega
  rcases hk4 with rfl | rfl | rfl | rfl | hk4
  · have hw1 : IntKind.i64.wrap (W + 1) = W + 1 := IntWalk.i64_in _ (by omega)
    go_wp2_with fail
    refine (one_litB _ [0, 17, W + 1] 3 3 _ g (N + 1) u1 rfl HR.out (by omega) (by simp) (by simp) rfl rfl).mono ?_
    rintro e u2 ⟨q, rfl, hq, hR2, hG2⟩
    have hR2' := Lib.hid hR2
    have HM2 := Lib.hid (bx_gr HM.out hG2 (by omega))
    have HX2 := Lib.hid (bx_gr HX.out hG2 (by omega))
    have HO2 := Lib.hid (HO.out.off hG2 hlo)
    have HG2 := Lib.hid (gtrans HG.out hG2)
    clear hq hR2 hG2 m0 m1 m2 m3 f0 f2 f3 r0 r1 r2 r3 e0 e1 e2 e3
    obtain ⟨m0, m1, m2, m3⟩ := HM2.out.im
    have f0 := HM2.out.fz 0
    obtain ⟨r0, r1, r2, r3⟩ := HX2.out.im
    have e0 := HX2.out.fz 0
    have e1 := HX2.out.fz 1
    have e2 := HX2.out.fz 2
    have e3 := HX2.out.fz 3
    have HE : Hid (∀ v0 v1 v2 v3 : Value, DrawIm g (N + 3) w00 (.returned (.agg #[.int .i64 q, .int .i64 H, .int .i64 P, .slice (some ⟨gb, 0, none⟩) n c])) (((((u2.setCell ⟨w.heap.size, 0, none⟩ (.int .i64 q)).setCell ⟨w.heap.size + 1, 0, none⟩ v0).setCell ⟨w.heap.size + 1, 1, none⟩ v1).setCell ⟨w.heap.size + 1, 2, none⟩ v2).setCell ⟨w.heap.size + 1, 3, none⟩ v3)) := Lib.hid fun v0 v1 v2 v3 => by
      have hs := hset w.heap.size u2 0 (.int .i64 q)
      rw [Hn.out]
      refine spoil_fin (off := 0) ((Rds.setOff (HO2.out.length_eq rfl |>.rds' Hn.out) hne0 _).more (by simp [World.setCell])) (hR2'.out.grown hs (fun k hk => by injection hk with hk; omega)) (gmix HG2.out hs (fun k hk => by injection hk with hk; omega)) hne (by omega) (by omega) (by omega) (by omega) _ _ _ ⟨by rw [← Hn.out]; exact hn2, by omega⟩ (by rw [← Hn.out]; exact hnc) v0 v1 v2 v3
    clear HM2 HX2 HO2 HG2 hR2' HM HX HO HG HR
    go_wp2
    exact bodyPost_ret (v := .agg #[.int .i64 q, .int .i64 H, .int .i64 P, .slice (some ⟨gb, 0, none⟩) n c]) (by simp [results, Try.results68, go_sem, r0, r1, r2, r3, m0, m1, m2, m3]) rfl (HE.out _ _ _ _)
  · obtain ⟨x, xt, hxs⟩ : ∃ x xt, xs = x :: xt := by
      match xs, Hn.out with
      | [], h => simp at h; omega
      | x :: xt, _ => exact ⟨x, xt, rfl⟩
    have HXS := Lib.hid hxs
    have hrds : Rds .i64 u1 u1.heap.size (some ⟨gb, 0, none⟩) xs := HO.out.rds' Hn.out
    have HT : Hid (Rds .i64 u1 u1.heap.size (some ⟨gb, 1, none⟩) xt) := Lib.hid (by
      obtain ⟨b, off, hA, hb, hc⟩ := hrds.cells_ (j := 0) (by rw [← Hn.out]; exact hn1)
      injection hA with hA
      injection hA with h1 h2
      subst h1 h2
      rw [hxs] at hc
      exact Rds.tail (off := 0) hb hc)
    have hxl : n - 1 = xt.length := by have := Hn.out; rw [hxs] at this; simp at this; omega
    have HXL := Lib.hid hxl
    by_cases hc1 : c = 1
    · have hxt : xt = [] := List.eq_nil_of_length_eq_zero (by omega)
      have hn11 : n = 1 := by omega
      have HXT := Lib.hid hxt
      clear hrds hxs hxl hxt HXL Hn HT
      subst hn11
      subst hc1
      have HE : Hid (∀ v0 v1 v2 v3 : Value, DrawIm g (N + 3) w00 (.returned (.agg #[.int .i64 W, .int .i64 H, .int .i64 P, .slice (some ⟨gb, 0, none⟩) 0 0])) (((((u1.setCell ⟨w.heap.size, 3, none⟩ (.slice (some ⟨gb, 0, none⟩) 0 0)).setCell ⟨w.heap.size + 1, 0, none⟩ v0).setCell ⟨w.heap.size + 1, 1, none⟩ v1).setCell ⟨w.heap.size + 1, 2, none⟩ v2).setCell ⟨w.heap.size + 1, 3, none⟩ v3)) := Lib.hid fun v0 v1 v2 v3 => by
        have hs := hset w.heap.size u1 3 (.slice (some ⟨gb, 0, none⟩) 0 0)
        exact spoil_fin (off := 0) (xs := []) (c := 0) (.inl rfl) (HR.out.grown hs (fun k hk => by injection hk with hk; omega)) (gmix HG.out hs (fun k hk => by injection hk with hk; omega)) hne (by omega) (by omega) (by omega) (by omega) _ _ _ ⟨by simp, by omega⟩ (by simp) v0 v1 v2 v3
      clear HM HX HO HG HR
      go_wp2
      exact bodyPost_ret (v := .agg #[.int .i64 W, .int .i64 H, .int .i64 P, .slice (some ⟨gb, 0, none⟩) 0 0]) (by simp [results, Try.results68, go_sem, r0, r1, r2, r3, m0, m1, m2, m3]) rfl (HE.out _ _ _ _)
    · have HE : Hid (∀ v0 v1 v2 v3 : Value, DrawIm g (N + 3) w00 (.returned (.agg #[.int .i64 W, .int .i64 H, .int .i64 P, .slice (some ⟨gb, 1, none⟩) (n - 1) (c - 1)])) (((((u1.setCell ⟨w.heap.size, 3, none⟩ (.slice (some ⟨gb, 1, none⟩) (n - 1) (c - 1))).setCell ⟨w.heap.size + 1, 0, none⟩ v0).setCell ⟨w.heap.size + 1, 1, none⟩ v1).setCell ⟨w.heap.size + 1, 2, none⟩ v2).setCell ⟨w.heap.size + 1, 3, none⟩ v3)) := Lib.hid fun v0 v1 v2 v3 => by
        have hs := hset w.heap.size u1 3 (.slice (some ⟨gb, 1, none⟩) (n - 1) (c - 1))
        rw [hxl]
        exact spoil_fin (off := 1) (xs := xt) ((HT.out.setOff hne0 _).more (by simp [World.setCell])) (HR.out.grown (hset w.heap.size u1 3 _) (fun k hk => by injection hk with hk; omega)) (gmix HG.out (hset w.heap.size u1 3 _) (fun k hk => by injection hk with hk; omega)) hne (by omega) (by omega) (by omega) (by omega) _ _ _ (by omega) (by omega) v0 v1 v2 v3
      have hc2 : 1 < c := by omega
      clear HM HX HO HG HR hrds hxs hxl HXL Hn HT HXS hc1
      go_wp2
      exact bodyPost_ret (v := .agg #[.int .i64 W, .int .i64 H, .int .i64 P, .slice (some ⟨gb, 1, none⟩) (n - 1) (c - 1)]) (by simp [results, Try.results68, go_sem, r0, r1, r2, r3, m0, m1, m2, m3]) rfl (HE.out _ _ _ _)
  · go_wp2
    have hml : w.heap.size < u1.heap.size := by omega
    go_region_held3 (fun w' => w'.cell? ⟨w.heap.size, 3, none⟩ = some (.slice (some ⟨gb, 0, none⟩) n c))
      (first | (with_reducible exact k3) | (with_reducible exact (World.cell?_setCell_other _ ⟨gb, 0, none⟩ ⟨w.heap.size, 3, none⟩ _ (fun e => by injection e with e1; exact hne0 e1)).trans k3) | exact m3 | go_keep)
      (first | (go_at_call 71; refine (one_litB _ [-1, 256] 2 2 _ g (N + 1) u1.drew rfl (by exact HR.out) (by omega) (by simp) (by simp) rfl rfl).mono ?_; rintro e u2 ⟨q, rfl, hq, hR2, hG2⟩; have HM2 := Lib.hid (bx_gr (w := u1.drew) HM.out hG2 (by omega)); obtain ⟨k0, k1, k2, k3⟩ := HM2.out.im; have HX2 := Lib.hid (bx_gr (w := u1.drew) HX.out hG2 (by omega)); have HO2 := Lib.hid (Own.off (w := u1.drew) HO.out hG2 hlo); have HG2 : Hid (w00.grownBy u2 (some g)) := Lib.hid (gtrans (b := u1.drew) ⟨HG.out.os, HG.out.tape, HG.out.output, HG.out.size, HG.out.block⟩ hG2); have HR2 := Lib.hid hR2; have hcw := HO2.out.cell Hn.out (j := 0) (by rw [← Hn.out]; exact hn1); have hfw := HO2.out.frozen Hn.out 0; clear hR2 hG2 hq))
    all_goals
      have HE : Hid (∀ v0 v1 v2 v3 : Value, DrawIm g (N + 3) w00 (.returned (.agg #[.int .i64 W, .int .i64 H, .int .i64 P, .slice (some ⟨gb, 0, none⟩) n c])) (((((u2.setCell ⟨gb, 0, none⟩ (.int .i64 q)).setCell ⟨w.heap.size + 1, 0, none⟩ v0).setCell ⟨w.heap.size + 1, 1, none⟩ v1).setCell ⟨w.heap.size + 1, 2, none⟩ v2).setCell ⟨w.heap.size + 1, 3, none⟩ v3)) := Lib.hid fun v0 v1 v2 v3 => by
        have hput := HO2.out.put Hn.out 0 q
        have hl : n = (xs.set 0 q).length := by rw [List.length_set]; exact Hn.out
        have hr := hput.1.rds' hl
        rw [hl]
        refine spoil_fin (off := 0) hr (HR2.out.grown hput.2 (fun k hk => by injection hk with hk; omega)) (gmix HG2.out hput.2 (fun k hk => by injection hk with hk; omega)) hne (by omega) (by omega) (by omega) (by omega) _ _ _ (by omega) (by omega) v0 v1 v2 v3
      have hz2 := HG2.out.size
      obtain ⟨r0, r1, r2, r3⟩ := HX2.out.im
      have e0 := HX2.out.fz 0
      have e1 := HX2.out.fz 1
      have e2 := HX2.out.fz 2
      have e3 := HX2.out.fz 3
      clear HM2 HX2 HO2 HG2 HR2 HM HX HO HG HR m0 m1 m2 m3 Hn
      go_wp2
      exact bodyPost_ret (v := .agg #[.int .i64 W, .int .i64 H, .int .i64 P, .slice (some ⟨gb, 0, none⟩) n c]) (by simp [results, Try.results68, go_sem, r0, r1, r2, r3, k0, k1, k2, k3]) rfl (HE.out _ _ _ _)
  · go_wp2_with fail
    refine (one_litB _ [0, 5] 2 2 _ g (N + 1) u1 rfl HR.out (by omega) (by simp) (by simp) rfl rfl).mono ?_
    rintro e u2 ⟨q, rfl, hq, hR2, hG2⟩
    have hR2' := Lib.hid hR2
    have HM2 := Lib.hid (bx_gr HM.out hG2 (by omega))
    have HX2 := Lib.hid (bx_gr HX.out hG2 (by omega))
    have HO2 := Lib.hid (HO.out.off hG2 hlo)
    have HG2 := Lib.hid (gtrans HG.out hG2)
    have hqb : q ≤ 99 ∧ 0 ≤ q := by simp at hq; omega
    clear hq hR2 hG2 m0 m1 m2 m3 f0 f2 f3 r0 r1 r2 r3 e0 e1 e2 e3
    obtain ⟨m0, m1, m2, m3⟩ := HM2.out.im
    have f2 := HM2.out.fz 2
    obtain ⟨r0, r1, r2, r3⟩ := HX2.out.im
    have e0 := HX2.out.fz 0
    have e1 := HX2.out.fz 1
    have e2 := HX2.out.fz 2
    have e3 := HX2.out.fz 3
    have HE : Hid (∀ v0 v1 v2 v3 : Value, DrawIm g (N + 3) w00 (.returned (.agg #[.int .i64 W, .int .i64 H, .int .i64 q, .slice (some ⟨gb, 0, none⟩) n c])) (((((u2.setCell ⟨w.heap.size, 2, none⟩ (.int .i64 q)).setCell ⟨w.heap.size + 1, 0, none⟩ v0).setCell ⟨w.heap.size + 1, 1, none⟩ v1).setCell ⟨w.heap.size + 1, 2, none⟩ v2).setCell ⟨w.heap.size + 1, 3, none⟩ v3)) := Lib.hid fun v0 v1 v2 v3 => by
      have hs := hset w.heap.size u2 2 (.int .i64 q)
      rw [Hn.out]
      refine spoil_fin (off := 0) ((Rds.setOff (HO2.out.length_eq rfl |>.rds' Hn.out) hne0 _).more (by simp [World.setCell])) (hR2'.out.grown hs (fun k hk => by injection hk with hk; omega)) (gmix HG2.out hs (fun k hk => by injection hk with hk; omega)) hne (by omega) (by omega) (by omega) (by omega) _ _ _ ⟨by rw [← Hn.out]; exact hn2, by omega⟩ (by rw [← Hn.out]; exact hnc) v0 v1 v2 v3
    clear HM2 HX2 HO2 HG2 hR2' HM HX HO HG HR
    go_wp2
    exact bodyPost_ret (v := .agg #[.int .i64 W, .int .i64 H, .int .i64 q, .slice (some ⟨gb, 0, none⟩) n c]) (by simp [results, Try.results68, go_sem, r0, r1, r2, r3, m0, m1, m2, m3]) rfl (HE.out _ _ _ _)
  · have b0 : (K == 0) = false := beq_eq_false_iff_ne.2 (by omega)
    have b1 : (K == 1) = false := beq_eq_false_iff_ne.2 (by omega)
    have b2 : (K == 2) = false := beq_eq_false_iff_ne.2 (by omega)
    have b3 : (K == 3) = false := beq_eq_false_iff_ne.2 (by omega)
    have HE : Hid (∀ v0 v1 v2 v3 : Value, DrawIm g (N + 3) w00 (.returned (.agg #[.int .i64 W, .int .i64 H, .int .i64 P, .slice (some ⟨gb, 0, none⟩) n c])) ((((u1.setCell ⟨w.heap.size + 1, 0, none⟩ v0).setCell ⟨w.heap.size + 1, 1, none⟩ v1).setCell ⟨w.heap.size + 1, 2, none⟩ v2).setCell ⟨w.heap.size + 1, 3, none⟩ v3)) := Lib.hid fun v0 v1 v2 v3 => by
      have hr := HO.out.rds' Hn.out
      rw [Hn.out]
      exact spoil_fin (off := 0) hr HR.out HG.out hne (by omega) (by omega) (by omega) (by omega) _ _ _ ⟨by rw [← Hn.out]; exact hn2, by omega⟩ (by rw [← Hn.out]; exact hnc) v0 v1 v2 v3
    clear HM HX HO HG HR Hn
    go_wp2
    exact bodyPost_ret (v := .agg #[.int .i64 W, .int .i64 H, .int .i64 P, .slice (some ⟨gb, 0, none⟩) n c]) (by simp [results, Try.results68, go_sem, r0, r1, r2, r3, m0, m1, m2, m3]) rfl (HE.out _ _ _ _)
set_option maxHeartbeats 2000000 in
theorem anyPlanes_any (g N : Nat) (w : World) (h : Rdr w g N) (hN : N ≤ 1000000000) :
    Calls Try.prog 70 #[.pointer (some ⟨g, 0, none⟩)] w (Drawn1 (fun d => 1 ≤ d ∧ d ≤ 4) g (N + 1) w) := by
  go_enter Try.func70, Try.ntmps70
  go_wp2_with fail
  refine (one_lit _ [1, 3, 1, 4, 2] _ _ g N w h hN (by simp) (by simp) rfl rfl).mono ?_
  rintro e w' ⟨k, rfl, hk, hr, hg⟩
  have hk' : 1 ≤ k ∧ k ≤ 4 := by simp at hk; omega
  clear hk h
  go_wp2
  go_ret
  exact ⟨k, rfl, hk', hr, hg⟩
theorem draw_store {w wr : World} {g N r : Nat} {W H P : Int} {A : Option Addr} {c : Nat} {xs : List Int} (hx : xs.length ≤ 256 ∧ P ≤ 99 ∧ 0 ≤ P) (hc : xs.length ≤ c) (hr : Rds .i64 wr wr.heap.size A xs) (hA : ∀ a : Addr, A = some a → r < a.block) (hR : Rdr wr g N) (hG : w.grownBy wr (some g)) (hgr : g < r) (hwr : w.heap.size ≤ r) (u0 u1 u2 u3 : Value) :
    DrawIm g N w (.returned (.agg #[.int .i64 W, .int .i64 H, .int .i64 P, .slice A xs.length c])) ((((wr.setCell ⟨r, 0, none⟩ u0).setCell ⟨r, 1, none⟩ u1).setCell ⟨r, 2, none⟩ u2).setCell ⟨r, 3, none⟩ u3) := by
  have hG4 := gtrans (gtrans (gtrans (hset r wr 0 u0) (hset r _ 1 u1)) (hset r _ 2 u2)) (hset r _ 3 u3)
  refine ⟨W, H, P, A, c, xs, rfl, hx, hc, ?_, hR.grown hG4 (fun k hk => by injection hk with hk; omega), gmix hG hG4 (fun k hk => by injection hk with hk; omega), fun a ha => by have := hA a ha; omega⟩
  rcases hr with h | ⟨b, off, rfl, hb, hcl⟩
  · exact .inl h
  · have hne : b ≠ r := by have : r < b := hA _ rfl; omega
    exact (((((Rds.setOff (.inr ⟨b, off, rfl, hb, hcl⟩ : Rds .i64 wr wr.heap.size (some ⟨b, off, none⟩) xs) hne u0).setOff hne u1).setOff hne u2).setOff hne u3).more (by simp [World.setCell]))
set_option maxHeartbeats 4000000 in
theorem anyImage_any (g N : Nat) (w : World) (h : Rdr w g N) (hN : N ≤ 1000000) :
    Calls Try.prog 43 #[.pointer (some ⟨g, 0, none⟩)] w (DrawIm g (N + 304) w) := by
  have hgl := h.lt
  obtain ⟨u0, hu⟩ : ∃ u0, u0 = w.alloc (.cells #[.int .i64 0, .int .i64 0, .int .i64 0, .slice none 0 0] 29) := ⟨_, rfl⟩
  have Hz : Hid (u0.heap.size = w.heap.size + 1) := Lib.hid (by rw [hu]; simp)
  have HX0 : Hid (Bx u0 w.heap.size 29 (imC 0 0 0 (.slice none 0 0))) := Lib.hid (by rw [hu]; exact Bx.new w _ _)
  have HR0 : Hid (Rdr u0 g N) := Lib.hid (by rw [hu]; exact h.alloc _)
  have HG0 : Hid (w.grownBy u0 (some g)) := Lib.hid (by rw [hu]; exact World.grownBy_alloc w _ _)
  have HU := Lib.hid hu
  clear h hu
  go_enter Try.func43, Try.ntmps43
  go_wp2_with fail
  rw [← HU.out]
  clear HU
  refine (anyPlanes_any g N u0 HR0.out (by omega)).mono ?_
  rintro e u1 ⟨P', rfl, hP', hR1, hG1⟩
  obtain ⟨P, rfl⟩ := Int.eq_ofNat_of_zero_le (show 0 ≤ P' by omega)
  have hP1 : 1 ≤ P := by omega
  have hP4 : P ≤ 4 := by omega
  have HX1 := Lib.hid (bx_gr HX0.out hG1 (by omega))
  have HG1 := Lib.hid (gtrans HG0.out hG1)
  have Hz1 : Hid (w.heap.size + 1 ≤ u1.heap.size) := Lib.hid (by have := hG1.size; have := Hz.out; omega)
  clear hP' hG1 HX0 HG0 HR0 Hz
  go_wp2_with fail
  refine (randomImage_any P hP1 hP4 g (N + 1) u1 hR1 (by omega)).mono ?_
  rintro e u2 ⟨W, H, gb, c, xs, rfl, hW1, hW8, hH1, hH8, hl, hO, hR2, hG2⟩
  have hWH : W * H ≤ 64 := by have := Nat.mul_le_mul hW8 hH8; omega
  have hn256 : W * H * P ≤ 256 := by have := Nat.mul_le_mul hWH hP4; omega
  have hnpos : 0 < W * H * P := Nat.mul_pos (Nat.mul_pos (by omega) (by omega)) (by omega)
  have HX2 := Lib.hid (bx_gr HX1.out hG2 (by omega))
  have Hz2 := Lib.hid hG2.size
  have HG2 := Lib.hid hG2
  have HL := Lib.hid (show 0 < xs.length ∧ xs.length ≤ 256 by omega)
  clear HX1 hG2 hR1 hl hWH hn256 hnpos
  go_wp2_with fail
  refine (spoilImage_any W H P (by omega) (by omega) (by omega) gb c xs.length xs rfl HL.out.1 HL.out.2 u1.heap.size g (N + 301) u1 u2 HG2.out rfl hO (by have := Hz1.out; omega) (hR2.more (by omega)) (by omega)).mono ?_
  rintro e u3 ⟨W3, H3, P3, A3, c3, ys, rfl, hy, hyc, hr3, hR3, hG3, hA3⟩
  have HX3 : Hid (Bx u3 w.heap.size 29 (imC 0 0 0 (.slice none 0 0))) := Lib.hid ((hG3.block _ (by have := Hz1.out; omega) (by simp; omega)).trans ((HG2.out.block _ (by have := Hz1.out; omega) (by simp; omega)).symm.trans HX2.out))
  obtain ⟨r0, r1, r2, r3⟩ := HX3.out.im
  have f0 := HX3.out.fz 0
  have f1 := HX3.out.fz 1
  have f2 := HX3.out.fz 2
  have f3 := HX3.out.fz 3
  have HE : Hid (∀ v0 v1 v2 v3 : Value, DrawIm g (N + 304) w (.returned (.agg #[.int .i64 W3, .int .i64 H3, .int .i64 P3, .slice A3 ys.length c3])) ((((u3.setCell ⟨w.heap.size, 0, none⟩ v0).setCell ⟨w.heap.size, 1, none⟩ v1).setCell ⟨w.heap.size, 2, none⟩ v2).setCell ⟨w.heap.size, 3, none⟩ v3)) := Lib.hid fun v0 v1 v2 v3 =>
    draw_store hy hyc hr3 (fun a ha => by have := hA3 a ha; have := Hz1.out; omega) hR3 (gtrans HG1.out hG3) hgl (Nat.le_refl _) v0 v1 v2 v3
  clear HX2 HX3 HG1 HG2 HL Hz1 Hz2 hO hR2 hr3 hR3 hG3 hA3 hy hyc
  go_wp2
  exact bodyPost_ret (v := .agg #[.int .i64 W3, .int .i64 H3, .int .i64 P3, .slice A3 ys.length c3]) (by simp [results, Try.results43, go_sem, r0, r1, r2, r3]) rfl (HE.out _ _ _ _)
def DrawnIm (w : World) (e : Ending) (w' : World) : Prop :=
  ∃ (W H P : Int) (A : Option Addr) (c : Nat) (xs : List Int), e = .returned (.agg #[.int .i64 W, .int .i64 H, .int .i64 P, .slice A xs.length c]) ∧ xs.length ≤ 256 ∧ xs.length ≤ c ∧ Rds .i64 w' w'.heap.size A xs ∧ Below w.heap.size w w'
end Go.Proofs.Ytjgcondkoaegnaa
namespace Go.Proofs.Ytjgcondkoaegnaa
open Go.RowKit
set_option linter.unusedSimpArgs false
set_option linter.unusedVariables false
set_option maxRecDepth 20000

theorem bx3K {u : World} {b : Nat} {T : TypeId} {c0 c1 c2 : Value} (h : Bx u b T #[c0, c1, c2]) : (u.cell? ⟨b, 0, none⟩ = some c0 ∧ u.cell? ⟨b, 1, none⟩ = some c1 ∧ u.cell? ⟨b, 2, none⟩ = some c2) ∧ u.frozen? ⟨b, 0, none⟩ = false ∧ u.frozen? ⟨b, 1, none⟩ = false ∧ u.frozen? ⟨b, 2, none⟩ = false :=
  ⟨⟨cell_of_row u b 0 _ _ _ h, cell_of_row u b 1 _ _ _ h, cell_of_row u b 2 _ _ _ h⟩, frozen_of_row u b 0 _ _ h, frozen_of_row u b 1 _ _ h, frozen_of_row u b 2 _ _ h⟩
theorem bx_putK {w : World} {b : Nat} {T : TypeId} {cs : Array Value} (h : Bx w b T cs) (i : Nat) (v : Value) : Bx (w.setCell ⟨b, i, none⟩ v) b T (cs.setIfInBounds i v) := heap_setCell_same w b i _ T v h
def DrawnK (g N : Nat) (w : World) (e : Ending) (w' : World) : Prop :=
  ∃ (R D : Int) (A : Option Addr) (c : Nat) (ks : List Int), e = .returned (.agg #[.int .i64 R, .slice A ks.length c, .int .i64 D]) ∧ ks.length ≤ 25 ∧ ks.length ≤ c ∧ Rds .i64 w' w'.heap.size A ks ∧ Rdr w' g N ∧ w.grownBy w' (some g) ∧ ∀ a : Addr, A = some a → w.heap.size ≤ a.block
theorem knl_fin {w u : World} {g N N' r base c n : Nat} {R D : Int} {A : Option Addr} {ks : List Int} (hn : n = ks.length) (hx : ks.length ≤ 25) (hO : Own u base (.slice A n c) ks) (hb : r < base) (hR : Rdr u g N') (hN : N' ≤ N) (hG : w.grownBy u (some g)) (hgr : g < r) (hwr : w.heap.size ≤ r) (v0 v1 v2 : Value) :
    DrawnK g N w (.returned (.agg #[.int .i64 R, .slice A n c, .int .i64 D])) (((u.setCell ⟨r, 0, none⟩ v0).setCell ⟨r, 1, none⟩ v1).setCell ⟨r, 2, none⟩ v2) := by
  have hG3 := gtrans (gtrans (hset r u 0 v0) (hset r _ 1 v1)) (hset r _ 2 v2)
  have hO3 : Own (((u.setCell ⟨r, 0, none⟩ v0).setCell ⟨r, 1, none⟩ v1).setCell ⟨r, 2, none⟩ v2) base (.slice A n c) ks := hO.off hG3 hb
  obtain ⟨A', c', e, hc⟩ := hO.slice
  injection e with e1 e2 e3
  subst e1 e3
  subst hn
  exact ⟨R, D, A, c, ks, rfl, hx, hc, hO3.rds.2, (hR.grown hG3 (fun k hk => by injection hk with hk; omega)).more hN, gmix hG hG3 (fun k hk => by injection hk with hk; omega), fun a ha => by have := hO.ge a ha; omega⟩
theorem one_litK (cs : Array Value) (xs : List Int) (n c p : Nat) (g N : Nat) (w : World) (hp : p = w.heap.size) (h : Rdr w g N) (hN : N ≤ 1000000000) (hx : 0 < xs.length) (hl : xs.length ≤ 1000) (hn : n = xs.length) (hcs : cs.toList = xs.map (.int .i64)) :
    Calls Try.prog 71 #[.pointer (some ⟨g, 0, none⟩), .slice (some ⟨p, 0, none⟩) n c] (w.alloc (.cells cs 3)) fun e w' => ∃ k : Int, e = .returned (.int .i64 k) ∧ k ∈ xs ∧ Rdr w' g (N + 1) ∧ w.grownBy w' (some g) := by
  subst hp
  exact one_lit cs xs n c g N w h hN hx hl hn hcs
set_option maxHeartbeats 16000000 in
theorem anyKernel_any (g N : Nat) (w : World) (h : Rdr w g N) (hN : N ≤ 1000000) :
    Calls Try.prog 44 #[.pointer (some ⟨g, 0, none⟩)] w (DrawnK g (N + 100) w) := by
  have hgl := h.lt
  obtain ⟨r, hr⟩ : ∃ r, r = w.heap.size := ⟨_, rfl⟩
  have HX0 : Hid (Bx (w.alloc (.cells #[.int .i64 0, .slice none 0 0, .int .i64 0] 32)) r 32 #[.int .i64 0, .slice none 0 0, .int .i64 0]) := Lib.hid (by rw [hr]; exact Bx.new w _ _)
  have HR0 := Lib.hid (h.alloc (.cells #[.int .i64 0, .slice none 0 0, .int .i64 0] 32))
  have HG0 := Lib.hid (World.grownBy_alloc w (.cells #[.int .i64 0, .slice none 0 0, .int .i64 0] 32) (some g))
  have HS0 : Hid (r + 1 = (w.alloc (.cells #[.int .i64 0, .slice none 0 0, .int .i64 0] 32)).heap.size) := Lib.hid (by simp [hr])
  have Hr := Lib.hid hr
  clear h
  go_enter Try.func44, Try.ntmps44
  go_wp2_with fail
  rw [← hr]
  generalize w.alloc (.cells #[.int .i64 0, .slice none 0 0, .int .i64 0] 32) = u1 at *
  refine (one_litK _ [0, 1, 1, 2] 4 4 _ g N u1 HS0.out HR0.out (by omega) (by simp) (by simp) rfl rfl).mono ?_
  rintro e u2 ⟨q, rfl, hq, hR2, hG2⟩
  obtain ⟨R, rfl, hRb⟩ : ∃ R : Nat, q = (R : Int) ∧ R ≤ 2 := ⟨q.toNat, by simp at hq; omega, by simp at hq; omega⟩
  have HX2 := Lib.hid (bx_gr HX0.out hG2 (by omega))
  have HR2 := Lib.hid hR2
  have HS2 : Hid (r + 1 ≤ u2.heap.size) := Lib.hid (by have := hG2.size; have := HS0.out; omega)
  have HG2 := Lib.hid (gtrans HG0.out hG2)
  clear hq hR2 hG2 HX0 HR0 HG0 HS0 hr
  go_wp2_with fail
  refine (one_litK _ [1, 9, 4, 16, 3] 5 5 _ g (N + 1) u2 rfl HR2.out (by omega) (by simp) (by simp) rfl rfl).mono ?_
  rintro e u3 ⟨D, rfl, hD, hR3, hG3⟩
  clear hD
  obtain ⟨kb, hkb⟩ : ∃ kb, kb = u3.heap.size := ⟨_, rfl⟩
  have HS3 : Hid (r < kb ∧ kb + 1 = (u3.alloc (.cells #[.int .i64 (R : Int), .slice none 0 0, .int .i64 D] 32)).heap.size) := Lib.hid (by have := hG3.size; have := HS2.out; rw [hkb]; simp; omega)
  have HX3 := Lib.hid ((bx_gr HX2.out hG3 (by have := Hr.out; omega)).alloc (.cells #[.int .i64 (R : Int), .slice none 0 0, .int .i64 D] 32))
  have HK3 : Hid (Bx (u3.alloc (.cells #[.int .i64 (R : Int), .slice none 0 0, .int .i64 D] 32)) kb 32 #[.int .i64 (R : Int), .slice none 0 0, .int .i64 D]) := Lib.hid (by rw [hkb]; exact Bx.new u3 _ _)
  have HR3 := Lib.hid (hR3.alloc (.cells #[.int .i64 (R : Int), .slice none 0 0, .int .i64 D] 32))
  have HG3 := Lib.hid (gtrans (gtrans HG2.out hG3) (World.grownBy_alloc u3 (.cells #[.int .i64 (R : Int), .slice none 0 0, .int .i64 D] 32) (some g)))
  have Hkb := Lib.hid hkb
  clear hR3 hG3 HX2 HR2 HG2 HS2 hkb
  go_upto_region 2 with fail
  rw [← Hkb.out]
  generalize u3.alloc (.cells #[.int .i64 (R : Int), .slice none 0 0, .int .i64 D] 32) = u4 at *
  obtain ⟨S, hS⟩ : ∃ S : Nat, (2 * (R : Int) + 1) = (S : Int) := ⟨2 * R + 1, by omega⟩
  obtain ⟨q, hq⟩ : ∃ q : Nat, (S : Int) * (S : Int) = (q : Int) := ⟨S * S, by simp⟩
  have hS1 : 1 ≤ S ∧ S ≤ 5 := by omega
  have hq25 : 1 ≤ q ∧ q ≤ 25 := by
    have h5 : (S : Int) * (S : Int) ≤ 5 * 5 := Int.mul_le_mul (by omega) (by omega) (by omega) (by omega)
    have h6 : 1 * 1 ≤ (S : Int) * (S : Int) := Int.mul_le_mul (by omega) (by omega) (by omega) (by omega)
    omega
  have w1 : IntKind.i64.wrap (2 * (R : Int)) = 2 * (R : Int) := IntWalk.i64_in _ (by omega)
  have w2 : IntKind.i64.wrap (S : Int) = (S : Int) := IntWalk.i64_in _ (by omega)
  have w3 : IntKind.i64.wrap (q : Int) = (q : Int) := IntWalk.i64_in _ (by omega)
  have HO4 : Hid (Own (u4.alloc (.cells #[] 3)) (kb + 1) (.slice (some ⟨kb + 1, 0, none⟩) 0 0) []) := Lib.hid (by rw [HS3.out.2]; exact own_none u4)
  have HX4 := Lib.hid (HX3.out.alloc (.cells #[] 3))
  have HK4 := Lib.hid (HK3.out.alloc (.cells #[] 3))
  have HR4 := Lib.hid (HR3.out.alloc (.cells #[] 3))
  have HG4 := Lib.hid (gtrans HG3.out (World.grownBy_alloc u4 (.cells #[] 3) (some g)))
  have HS4 : Hid (kb + 1 ≤ (u4.alloc (.cells #[] 3)).heap.size) := Lib.hid (by have := HS3.out.2; simp; omega)
  obtain ⟨⟨k0, k1, k2⟩, _⟩ := bx3K HK4.out
  have hgr : g < r := by have := Hr.out; omega
  have hrk : r < kb := HS3.out.1
  have HE4 : Hid (u4.heap.size = kb + 1) := Lib.hid HS3.out.2.symm
  clear HX3 HK3 HR3 HG3 HS3
  go_wp2
  (try rw [HE4.out])
  generalize u4.alloc (.cells #[] 3) = u5 at *
  clear k0 k1 k2 hS hq w1 w2 w3
  go_loopw [4, 5] (fun v m wr => ∃ (k : Nat) (ys : List Int), m = .int .i64 (k : Int) ∧ ys.length + k = q ∧ Hid (Own wr (kb + 1) v ys ∧ Rdr wr g (N + 2 + ys.length) ∧ w.grownBy wr (some g)) ∧ Hid (Bx wr r 32 #[.int .i64 0, .slice none 0 0, .int .i64 0] ∧ Bx wr kb 32 #[.int .i64 (R : Int), .slice none 0 0, .int .i64 D] ∧ kb + 1 ≤ wr.heap.size)) (fun _ m _ => (intOf m).toNat)
  case atStart => exact ⟨q, [], rfl, by simp, Lib.hid ⟨HO4.out, HR4.out.more (by simp), HG4.out⟩, Lib.hid ⟨HX4.out, HK4.out, HS4.out⟩⟩
  case round =>
    clear HO4 HX4 HK4 HR4 HG4 HS4 HE4
    obtain ⟨k, ys, rfl, hyl, HI, HB⟩ := hrel
    obtain ⟨hO, hR, hG⟩ := HI.out
    obtain ⟨hX, hK, hz⟩ := HB.out
    obtain ⟨A1, c1, rfl, hc1⟩ := hO.slice
    have HYL := Lib.hid hyl
    have hyl2 : ys.length ≤ 25 := by omega
    have HO := Lib.hid hO
    have HRd := Lib.hid hR
    have HG := Lib.hid hG
    have HX := Lib.hid hX
    have HK := Lib.hid hK
    have HZ := Lib.hid hz
    clear hO hR hG hX hK hz HI HB hyl
    by_cases hlt : 0 < k
    · have hkI : (0 : Int) < (k : Int) := by omega
      have hkw : IntKind.i64.wrap ((k : Int) - 1) = (k : Int) - 1 := IntWalk.i64_in _ (by have := HYL.out; omega)
      go_wp2_with fail
      refine (pick_any 9 g (N + 2 + ys.length) wr HRd.out (by omega) (by omega)).mono ?_
      intro e w2 hp
      obtain ⟨x, rfl, hx, hR2, hG2, hs2⟩ := picked_nat hp (by omega)
      obtain ⟨z, hz⟩ : ∃ z : Int, (x : Int) - 3 = z := ⟨_, rfl⟩
      have hzw : IntKind.i64.wrap z = z := IntWalk.i64_in _ (by omega)
      have HO2 := Lib.hid ((HO.out.off hG2 (by omega)).alloc (.cells #[.int .i64 z] 3))
      have HR2 := Lib.hid (hR2.alloc (.cells #[.int .i64 z] 3))
      have HG2 := Lib.hid (gtrans (gtrans HG.out hG2) (World.grownBy_alloc w2 (.cells #[.int .i64 z] 3) (some g)))
      have HX2 := Lib.hid ((bx_gr HX.out hG2 (by omega)).alloc (.cells #[.int .i64 z] 3))
      have HK2 := Lib.hid ((bx_gr HK.out hG2 (by omega)).alloc (.cells #[.int .i64 z] 3))
      have HQ := Lib.hid (rds_one w2 z)
      have hz2 : kb + 1 ≤ w2.heap.size := by have h1 := HZ.out; have h2 := hG2.size; omega
      have HZ2 : Hid (kb + 1 ≤ (w2.alloc (.cells #[.int .i64 z] 3)).heap.size) := Lib.hid (by simp; omega)
      clear hp hR2 hG2 hs2 HO HRd HG HX HK HZ
      go_wp2_with (at_builtin; refine wpList_app rfl (.tmp 27) (.tmp 31) rfl (kb + 1) (.slice A1 ys.length c1) ys rfl HO2.out (some ⟨w2.heap.size, 0, none⟩) 1 1 _ [z] rfl rfl HQ.out (by simp; omega) (by simp; omega) ?_; intro v3 w3 hO3 hG3)
      have hne : ∀ j, (Value.slice A1 ys.length c1).ownBlock = some j → kb + 1 ≤ j := fun j hj => (HO2.out.lt j hj).1
      have HN1 : Hid (Own w3 (kb + 1) v3 (ys ++ [z]) ∧ Rdr w3 g (N + 2 + (ys ++ [z]).length) ∧ w.grownBy w3 (some g)) := Lib.hid ⟨hO3, (HR2.out.grown hG3 (fun j hj => by have := hne j hj; omega)).more (by simp; omega), gmix HG2.out hG3 (fun j hj => by have := hne j hj; have := Hr.out; omega)⟩
      have HN2 : Hid (Bx w3 r 32 #[.int .i64 0, .slice none 0 0, .int .i64 0] ∧ Bx w3 kb 32 #[.int .i64 (R : Int), .slice none 0 0, .int .i64 D] ∧ kb + 1 ≤ w3.heap.size) := Lib.hid ⟨HX2.out.kept hG3 (fun e => by have := hne r e.symm; omega), HK2.out.kept hG3 (fun e => by have := hne kb e.symm; omega), by have := hG3.size; have := HZ2.out; omega⟩
      clear hO3 hG3 HO2 HR2 HG2 HQ HX2 HK2 HZ2 hne
      go_roundw
      case rel => exact ⟨k - 1, ys ++ [z], by first | go_num | (congr 1; omega) | (simp; omega), by have := HYL.out; simp; omega, HN1, HN2⟩
      case measure => simp [intOf]; omega
    · have hk0 : k = 0 := by omega
      subst hk0
      have hyq : ys.length = q := by have := HYL.out; omega
      obtain ⟨m, hm⟩ : ∃ m, m = ys.length := ⟨_, rfl⟩
      have Hm := Lib.hid hm
      have hm1 : 1 ≤ m ∧ m ≤ 25 := by omega
      rw [← hm] at HO hc1 HRd ⊢
      clear hyq hm hyl2
      -- the weights are stored
      obtain ⟨⟨k0, k1, k2⟩, f0, f1, f2⟩ := bx3K HK.out
      have hG6 := hset kb wr 1 (.slice A1 m c1)
      have HO6 := Lib.hid (HO.out.off hG6 (by omega))
      have HK6 : Hid (Bx (wr.setCell ⟨kb, 1, none⟩ (.slice A1 m c1)) kb 32 #[.int .i64 (R : Int), .slice A1 m c1, .int .i64 D]) := Lib.hid (by simpa using bx_putK HK.out 1 (.slice A1 m c1))
      have HX6 := Lib.hid (HX.out.kept hG6 (by simp; omega))
      have HR6 := Lib.hid (HRd.out.grown hG6 (fun j hj => by injection hj with hj; omega))
      have HG6 := Lib.hid (gmix HG.out hG6 (fun j hj => by injection hj with hj; have := Hr.out; omega))
      have HZ6 : Hid (kb + 1 ≤ (wr.setCell ⟨kb, 1, none⟩ (.slice A1 m c1)).heap.size) := Lib.hid (by have := HZ.out; have := hG6.size; omega)
      clear hG6 HO HK HX HRd HG HZ
      go_wp2_with fail
      generalize wr.setCell ⟨kb, 1, none⟩ (.slice A1 m c1) = u6 at *
      clear k0 k1 k2 f0 f1 f2
      refine (pick_any 20 g (N + 2 + m) u6 HR6.out (by omega) (by omega)).mono ?_
      intro e u7 hp
      obtain ⟨x, rfl, hx, hR7, hG7, hs7⟩ := picked_nat hp (by omega)
      have HO7 := Lib.hid (HO6.out.off hG7 (by omega))
      have HK7 := Lib.hid (bx_gr HK6.out hG7 (by omega))
      have HX7 := Lib.hid (bx_gr HX6.out hG7 (by omega))
      have HG7 := Lib.hid (gtrans HG6.out hG7)
      have HZ7 : Hid (kb + 1 ≤ u7.heap.size) := Lib.hid (by have := HZ6.out; have := hG7.size; omega)
      have HR7 := Lib.hid hR7
      clear hp hR7 hG7 hs7 HO6 HK6 HX6 HR6 HG6 HZ6
      obtain ⟨X, hX⟩ : ∃ X : Int, (x : Int) = X := ⟨_, rfl⟩
      rw [hX]
      clear hx hX
      -- the end
      have HFin : Hid (∀ (u : World) (R D : Int) (zs : List Int) (N' : Nat), m = zs.length → Own u (kb + 1) (.slice A1 m c1) zs → Rdr u g N' → N' ≤ N + 100 → w.grownBy u (some g) → ∀ v0 v1 v2 : Value, DrawnK g (N + 100) w (.returned (.agg #[.int .i64 R, .slice A1 m c1, .int .i64 D])) (((u.setCell ⟨r, 0, none⟩ v0).setCell ⟨r, 1, none⟩ v1).setCell ⟨r, 2, none⟩ v2)) :=
        Lib.hid (fun u R D zs N' h1 h2 h3 h4 h5 v0 v1 v2 => knl_fin h1 (by omega) h2 (by omega) h3 h4 h5 hgr (by have := Hr.out; omega) v0 v1 v2)
      by_cases hc0 : X = 0
      · subst hc0
        go_wp2_with fail
        refine (one_litK _ [0, 999, 1000] 3 3 _ g (N + 2 + m + 1) u7 rfl HR7.out (by omega) (by simp) (by simp) rfl rfl).mono ?_
        rintro e u8 ⟨D', rfl, hD, hR8, hG8⟩
        have HK8 := Lib.hid (bx_gr HK7.out hG8 (by omega))
        obtain ⟨⟨k0, k1, k2⟩, f0, f1, f2⟩ := bx3K HK8.out
        have hX8 := bx_gr HX7.out hG8 (by omega)
        have hG9 := hset kb u8 2 (.int .i64 D')
        have HE := Lib.hid (HFin.out (u8.setCell ⟨kb, 2, none⟩ (.int .i64 D')) R D' ys _ Hm.out ((HO7.out.off hG8 (by omega)).off hG9 (by omega)) (hR8.grown hG9 (fun j hj => by injection hj with hj; omega)) (by omega) (gmix (gtrans HG7.out hG8) hG9 (fun j hj => by injection hj with hj; have := Hr.out; omega)))
        obtain ⟨⟨r0, r1, r2⟩, e0, e1, e2⟩ := bx3K hX8
        clear hD hR8 hG8 hG9 hX8 HK7 HX7 HR7 HG7 HO7 HK8
        go_wp2
        exact bodyPost_ret (v := .agg #[.int .i64 (R : Int), .slice A1 m c1, .int .i64 D']) (by simp [results, Try.results44, go_sem, r0, r1, r2, k0, k1, k2]) rfl (HE.out _ _ _)
      · by_cases hc1' : X = 1
        · subst hc1'
          go_wp2_with fail
          refine (one_litK _ [-1, 3] 2 2 _ g (N + 2 + m + 1) u7 rfl HR7.out (by omega) (by simp) (by simp) rfl rfl).mono ?_
          rintro e u8 ⟨R', rfl, hD, hR8, hG8⟩
          have HK8 := Lib.hid (bx_gr HK7.out hG8 (by omega))
          obtain ⟨⟨k0, k1, k2⟩, f0, f1, f2⟩ := bx3K HK8.out
          have hX8 := bx_gr HX7.out hG8 (by omega)
          have hG9 := hset kb u8 0 (.int .i64 R')
          have HE := Lib.hid (HFin.out (u8.setCell ⟨kb, 0, none⟩ (.int .i64 R')) R' D ys _ Hm.out ((HO7.out.off hG8 (by omega)).off hG9 (by omega)) (hR8.grown hG9 (fun j hj => by injection hj with hj; omega)) (by omega) (gmix (gtrans HG7.out hG8) hG9 (fun j hj => by injection hj with hj; have := Hr.out; omega)))
          obtain ⟨⟨r0, r1, r2⟩, e0, e1, e2⟩ := bx3K hX8
          clear hD hR8 hG8 hG9 hX8 HK7 HX7 HR7 HG7 HO7 HK8
          go_wp2
          exact bodyPost_ret (v := .agg #[.int .i64 R', .slice A1 m c1, .int .i64 D]) (by simp [results, Try.results44, go_sem, r0, r1, r2, k0, k1, k2]) rfl (HE.out _ _ _)
        · by_cases hc2' : X = 2
          · subst hc2'
            go_wp2_with fail
            refine (one_litK _ [99, 100, -99, -100] 4 4 _ g (N + 2 + m + 1) u7 rfl HR7.out (by omega) (by simp) (by simp) rfl rfl).mono ?_
            rintro e u8 ⟨z, rfl, hD, hR8, hG8⟩
            have HK8 := Lib.hid (bx_gr HK7.out hG8 (by omega))
            have hO8 := HO7.out.off hG8 (by omega)
            obtain ⟨gb, c5, e5, hgb1, hgb2⟩ := hO8.form (by have := Hm.out; omega)
            injection e5 with e5 e6 e7
            subst e5 e7
            clear e6
            have hcw := hO8.cell Hm.out (j := 0) (by have := Hm.out; omega)
            have hfw := hO8.frozen Hm.out 0
            have hput := hO8.put Hm.out 0 z
            have hG9 : u8.grownBy (u8.setCell ⟨gb, 0, none⟩ (.int .i64 z)) (some gb) := hput.2
            have HK9 := Lib.hid (HK8.out.kept hG9 (by simp; omega))
            obtain ⟨⟨k0, k1, k2⟩, f0, f1, f2⟩ := bx3K HK9.out
            have hX9 := (bx_gr HX7.out hG8 (by omega)).kept hG9 (by simp; omega)
            have HE := Lib.hid (HFin.out (u8.setCell ⟨gb, 0, none⟩ (.int .i64 z)) R D (ys.set 0 z) _ (by rw [List.length_set]; exact Hm.out) hput.1 (hR8.grown hG9 (fun j hj => by injection hj with hj; omega)) (by omega) (gmix (gtrans HG7.out hG8) hG9 (fun j hj => by injection hj with hj; have := Hr.out; omega)))
            obtain ⟨⟨r0, r1, r2⟩, e0, e1, e2⟩ := bx3K hX9
            generalize ys.getD 0 0 = old at *
            clear hD hR8 hG8 hG9 hX9 HK7 HX7 HR7 HG7 HO7 HK8 HK9 hput hO8
            go_wp2_with fail
            go_wp2
            exact bodyPost_ret (v := .agg #[.int .i64 (R : Int), .slice (some ⟨gb, 0, none⟩) m c1, .int .i64 D]) (by simp [results, Try.results44, go_sem, r0, r1, r2, k0, k1, k2]) rfl (HE.out _ _ _)
          · have b0 : (X == 0) = false := beq_eq_false_iff_ne.2 hc0
            have b1 : (X == 1) = false := beq_eq_false_iff_ne.2 hc1'
            have b2 : (X == 2) = false := beq_eq_false_iff_ne.2 hc2'
            obtain ⟨⟨k0, k1, k2⟩, f0, f1, f2⟩ := bx3K HK7.out
            obtain ⟨⟨r0, r1, r2⟩, e0, e1, e2⟩ := bx3K HX7.out
            have HE := Lib.hid (HFin.out u7 R D ys _ Hm.out HO7.out HR7.out (by omega) HG7.out)
            clear HK7 HX7 HR7 HG7 HO7
            go_wp2
            exact bodyPost_ret (v := .agg #[.int .i64 (R : Int), .slice A1 m c1, .int .i64 D]) (by simp [results, Try.results44, go_sem, r0, r1, r2, k0, k1, k2]) rfl (HE.out _ _ _)
theorem cv_sc4 {w : World} {r b : Nat} (h : b ≠ r) (v0 v1 v2 v3 : Value) {i : Nat} : ((((w.setCell ⟨r, 0, none⟩ v0).setCell ⟨r, 1, none⟩ v1).setCell ⟨r, 2, none⟩ v2).setCell ⟨r, 3, none⟩ v3).cell? ⟨b, i, none⟩ = w.cell? ⟨b, i, none⟩ := by
  rw [World.cell?_setCell_other _ ⟨r, 3, none⟩ ⟨b, i, none⟩ _ (fun e => by injection e with e1; exact h e1.symm), World.cell?_setCell_other _ ⟨r, 2, none⟩ ⟨b, i, none⟩ _ (fun e => by injection e with e1; exact h e1.symm), World.cell?_setCell_other _ ⟨r, 1, none⟩ ⟨b, i, none⟩ _ (fun e => by injection e with e1; exact h e1.symm), World.cell?_setCell_other _ ⟨r, 0, none⟩ ⟨b, i, none⟩ _ (fun e => by injection e with e1; exact h e1.symm)]
theorem cv_sc3 {w : World} {r b : Nat} (h : b ≠ r) (v0 v1 v2 : Value) {i : Nat} : (((w.setCell ⟨r, 0, none⟩ v0).setCell ⟨r, 1, none⟩ v1).setCell ⟨r, 2, none⟩ v2).cell? ⟨b, i, none⟩ = w.cell? ⟨b, i, none⟩ := by
  rw [World.cell?_setCell_other _ ⟨r, 2, none⟩ ⟨b, i, none⟩ _ (fun e => by injection e with e1; exact h e1.symm), World.cell?_setCell_other _ ⟨r, 1, none⟩ ⟨b, i, none⟩ _ (fun e => by injection e with e1; exact h e1.symm), World.cell?_setCell_other _ ⟨r, 0, none⟩ ⟨b, i, none⟩ _ (fun e => by injection e with e1; exact h e1.symm)]
theorem cv_gr4 (u : World) (r : Nat) (v0 v1 v2 v3 : Value) : u.grownBy ((((u.setCell ⟨r, 0, none⟩ v0).setCell ⟨r, 1, none⟩ v1).setCell ⟨r, 2, none⟩ v2).setCell ⟨r, 3, none⟩ v3) (some r) :=
  gtrans (gtrans (gtrans (hset r u 0 v0) (hset r _ 1 v1)) (hset r _ 2 v2)) (hset r _ 3 v3)
theorem cv_gr3 (u : World) (r : Nat) (v0 v1 v2 : Value) : u.grownBy (((u.setCell ⟨r, 0, none⟩ v0).setCell ⟨r, 1, none⟩ v1).setCell ⟨r, 2, none⟩ v2) (some r) :=
  gtrans (gtrans (hset r u 0 v0) (hset r _ 1 v1)) (hset r _ 2 v2)
def DrawnCv (w : World) (e : Ending) (w' : World) : Prop :=
  ∃ (W H P : Int) (A : Option Addr) (c : Nat) (xs : List Int) (R D : Int) (A2 : Option Addr) (c2 : Nat) (ks : List Int), e = .returned (.tuple #[.agg #[.int .i64 W, .int .i64 H, .int .i64 P, .slice A xs.length c], .agg #[.int .i64 R, .slice A2 ks.length c2, .int .i64 D]]) ∧ xs.length ≤ 256 ∧ xs.length ≤ c ∧ ks.length ≤ 25 ∧ ks.length ≤ c2 ∧ Rds .i64 w' w'.heap.size A xs ∧ Rds .i64 w' w'.heap.size A2 ks ∧ Below w.heap.size w w'
theorem cv_fin {w u u' u'' : World} {r1 : Nat} {W H P R D : Int} {A A2 : Option Addr} {c c2 n m : Nat} {xs ks : List Int} (hn : n = xs.length) (hm : m = ks.length) (hx : xs.length ≤ 256) (hc : xs.length ≤ c) (hk : ks.length ≤ 25) (hck : ks.length ≤ c2) (hr : Rds .i64 u u.heap.size A xs) (hr2 : Rds .i64 u u.heap.size A2 ks) (hA : ∀ a : Addr, A = some a → r1 < a.block) (hA2 : ∀ a : Addr, A2 = some a → r1 < a.block) (hB : Below w.heap.size w u) (h1 : r1 = w.heap.size + 1)
    (hg1 : u.grownBy u' (some w.heap.size)) (hg2 : u'.grownBy u'' (some r1)) : DrawnCv w (.returned (.tuple #[.agg #[.int .i64 W, .int .i64 H, .int .i64 P, .slice A n c], .agg #[.int .i64 R, .slice A2 m c2, .int .i64 D]])) u'' := by
  subst hn hm
  have hs1 := hg1.size
  have hs2 := hg2.size
  have k1 := (Rds.offG (lo := w.heap.size + 2) hr (Nat.le_refl _) (fun a ha => by have := hA a ha; omega) hg1 (by omega)).more hs1
  have k2 := (Rds.offG (lo := w.heap.size + 2) k1 (Nat.le_refl _) (fun a ha => by have := hA a ha; omega) hg2 (by omega)).more hs2
  have k3 := (Rds.offG (lo := w.heap.size + 2) hr2 (Nat.le_refl _) (fun a ha => by have := hA2 a ha; omega) hg1 (by omega)).more hs1
  have k4 := (Rds.offG (lo := w.heap.size + 2) k3 (Nat.le_refl _) (fun a ha => by have := hA2 a ha; omega) hg2 (by omega)).more hs2
  have hB1 := hB.grown hg1 hB.size (fun k hk => by injection hk with hk; omega)
  exact ⟨W, H, P, A, c, xs, R, D, A2, c2, ks, rfl, hx, hc, hk, hck, k2, k4, hB1.grown hg2 hB1.size (fun k hk => by injection hk with hk; omega)⟩
set_option maxHeartbeats 8000000 in
theorem drawCv_any (A : Option Addr) (c : Nat) (bs : List Int) (w : World) (hc : bs.length ≤ c) (h : Rdw .u8 w w.heap.size A bs) :
    Calls Try.prog 17 #[.slice A bs.length c] w (DrawnCv w) := by
  obtain ⟨u0, hu⟩ : ∃ u0, u0 = (w.alloc (.cells #[.int .i64 0, .int .i64 0, .int .i64 0, .slice none 0 0] 29)).alloc (.cells #[.int .i64 0, .slice none 0 0, .int .i64 0] 32) := ⟨_, rfl⟩
  obtain ⟨r1, hr1⟩ : ∃ r1, r1 = w.heap.size + 1 := ⟨_, rfl⟩
  have hz : u0.heap.size = w.heap.size + 2 := by rw [hu]; simp
  have HX0 : Hid (Bx u0 w.heap.size 29 (imC 0 0 0 (.slice none 0 0))) := Lib.hid (by rw [hu]; exact (Bx.new w 29 _).alloc _)
  have HY0 : Hid (Bx u0 r1 32 #[.int .i64 0, .slice none 0 0, .int .i64 0]) := Lib.hid (by rw [hu, hr1]; have := Bx.new (w.alloc (.cells #[.int .i64 0, .int .i64 0, .int .i64 0, .slice none 0 0] 29)) 32 #[.int .i64 0, .slice none 0 0, .int .i64 0]; simpa using this)
  have HB0 : Hid (Below w.heap.size w u0) := Lib.hid (by rw [hu]; exact ((Below.refl _ _).alloc (Nat.le_refl _) _).alloc (by simp) _)
  have Hh : Hid (Rdw .u8 u0 u0.heap.size A bs) := Lib.hid ⟨(h.1.below HB0.out).more HB0.out.size, h.2⟩
  have HU := Lib.hid hu
  have Hr1 := Lib.hid hr1
  clear h hu
  go_enter Try.func17, Try.ntmps17
  go_wp2_with fail
  rw [← HU.out, ← hr1]
  clear HU hr1
  refine (newReader_any A c bs u0 hc Hh.out).mono ?_
  rintro e u1 ⟨rfl, hrd, hb1, hs1⟩
  have HX1 := Lib.hid (HX0.out.below hb1)
  have HY1 := Lib.hid (HY0.out.below hb1)
  have HB1 := Lib.hid (HB0.out.trans (hb1.mono HB0.out.size))
  obtain ⟨g, hg⟩ : ∃ g, g = u0.heap.size := ⟨_, rfl⟩
  rw [← hg] at hrd ⊢
  have Hg : Hid (g = w.heap.size + 2) := Lib.hid (by omega)
  have Hs1 : Hid (u1.heap.size = w.heap.size + 3) := Lib.hid (by omega)
  clear hs1 hb1 HX0 HY0 HB0 Hh hg hz
  go_wp2_with fail
  refine (anyImage_any g 0 u1 hrd (by omega)).mono ?_
  rintro e u3 ⟨W3, H3, P3, A3, c3, ys, rfl, hy, hyc, hr3, hR3, hG3, hA3⟩
  obtain ⟨u4, hu4⟩ : ∃ u4, u4 = u3.alloc (.cells #[.int .i64 W3, .int .i64 H3, .int .i64 P3, .slice A3 ys.length c3] 29) := ⟨_, rfl⟩
  obtain ⟨b3, hb3⟩ : ∃ b3, b3 = u3.heap.size := ⟨_, rfl⟩
  have hz3 : w.heap.size + 3 ≤ u3.heap.size := by have := hG3.size; have := Hs1.out; omega
  have HX4 : Hid (Bx u4 w.heap.size 29 (imC 0 0 0 (.slice none 0 0))) := Lib.hid (by rw [hu4]; exact (bx_gr HX1.out hG3 (by have := Hg.out; omega)).alloc _)
  have HY4 : Hid (Bx u4 r1 32 #[.int .i64 0, .slice none 0 0, .int .i64 0]) := Lib.hid (by rw [hu4]; exact (bx_gr HY1.out hG3 (by have := Hg.out; have := Hr1.out; omega)).alloc _)
  have HT4 : Hid (Bx u4 b3 29 (imC W3 H3 P3 (.slice A3 ys.length c3))) := Lib.hid (by rw [hu4, hb3]; exact Bx.new u3 _ _)
  have HR4 : Hid (Rdr u4 g 304) := Lib.hid (by rw [hu4]; have h := hR3.alloc (.cells #[.int .i64 W3, .int .i64 H3, .int .i64 P3, .slice A3 ys.length c3] 29); rwa [Nat.zero_add] at h)
  have Hr4 : Hid (Rds .i64 u4 u4.heap.size A3 ys) := Lib.hid (by rw [hu4]; exact (hr3.alloc (Nat.le_refl _) _).more (by simp))
  have HB4 : Hid (Below w.heap.size w u4) := Lib.hid (by rw [hu4]; exact (HB1.out.grown hG3 HB1.out.size (fun k hk => by injection hk with hk; have := Hg.out; omega)).alloc (by omega) _)
  have HA := Lib.hid (show ∀ a : Addr, A3 = some a → w.heap.size + 3 ≤ a.block from fun a ha => by have := hA3 a ha; have := Hs1.out; omega)
  have Hs4 : Hid (w.heap.size + 3 ≤ u4.heap.size) := Lib.hid (by rw [hu4]; simp; omega)
  have hb3g : g < b3 := by have := Hg.out; omega
  have hnb : b3 ≠ w.heap.size := by have := Hg.out; omega
  have hnb1 : b3 ≠ r1 := by have := Hg.out; have := Hr1.out; omega
  have hn1 : ¬ r1 = w.heap.size := by have := Hr1.out; omega
  have hn2 : ¬ w.heap.size = r1 := by have := Hr1.out; omega
  have HU4 := Lib.hid hu4
  have HU3 := Lib.hid hb3
  clear HX1 HY1 HB1 hrd hr3 hR3 hG3 hA3 hu4 hb3 hz3
  obtain ⟨t0, t1, t2, t3⟩ := HT4.out.im
  have htl := HT4.out.lt
  go_upto_region 3 with fail
  (try rw [← HU3.out])
  rw [← HU4.out]
  clear HU4 HU3
  refine wp_region_held_drew (S := (fun w' => w'.cell? ⟨b3, 0, none⟩ = some (.int .i64 W3) ∧ w'.cell? ⟨b3, 1, none⟩ = some (.int .i64 H3) ∧ w'.cell? ⟨b3, 2, none⟩ = some (.int .i64 P3) ∧ w'.cell? ⟨b3, 3, none⟩ = some (.slice A3 ys.length c3))) (by kernel_rfl) (by exact ⟨t0, t1, t2, t3⟩) (fun hHeld => ?_)
  refine' wpAnyH_take (i := 0) (oi := _) (v := _) ?hi1 (by kernel_rfl) (by kernel_rfl) (by kernel_rfl) ?hq1 (Or.inl ⟨?hw1, ?hy1⟩) (by assumption) ?rest1
  case hi1 => (simp only [List.getElem?_toArray, List.getElem?_cons_succ, List.getElem?_cons_zero]; rfl)
  case hq1 => exact fun _ _ _ h => h
  case hw1 => rfl
  case hy1 => (intro wq hSw; (try dsimp only at hSw); go_simp; (try with_reducible rfl))
  (try simp only [Act.put, List.setIfInBounds_toArray, List.set_cons_zero, List.set_cons_succ])
  refine' wpAnyH_take (i := 1) (oi := _) (v := _) ?hi2 (by kernel_rfl) (by kernel_rfl) (by kernel_rfl) ?hq2 (Or.inl ⟨?hw2, ?hy2⟩) (by assumption) ?rest2
  case hi2 => (simp only [List.getElem?_toArray, List.getElem?_cons_succ, List.getElem?_cons_zero]; rfl)
  case hq2 => exact fun _ _ _ h => h
  case hw2 => rfl
  case hy2 => (intro wq hSw; (try dsimp only at hSw); go_simp; (try with_reducible rfl))
  (try simp only [Act.put, List.setIfInBounds_toArray, List.set_cons_zero, List.set_cons_succ])
  refine wpAnyH_ready (rs := [2]) (by kernel_rfl) (by simp) ?_
  refine' AllReadyH.cons (o := _) ?hi3 (fun K hK => ?rest3) AllReadyH.nil
  case hi3 => (simp only [List.getElem?_toArray, List.getElem?_cons_succ, List.getElem?_cons_zero]; rfl)
  go_simp
  go_at_call 44
  refine (anyKernel_any g 304 u4.drew (by exact HR4.out) (by omega)).mono ?_
  rintro e u5 ⟨R5, D5, A5, c5, ks, rfl, hk25, hkc, hr5, hR5, hG5, hA5⟩
  have HT5 := Lib.hid (bx_gr (w := u4.drew) HT4.out hG5 (by omega))
  clear t0 t1 t2 t3
  obtain ⟨k0, k1, k2, k3⟩ := HT5.out.im
  have HX5 := Lib.hid (bx_gr (w := u4.drew) HX4.out hG5 (by have := Hg.out; omega))
  have HY5 := Lib.hid (bx_gr (w := u4.drew) HY4.out hG5 (by have := Hg.out; have := Hr1.out; omega))
  have HG5 := Lib.hid hG5
  have HA5 := Lib.hid hA5
  have Hr5 := Lib.hid hr5
  obtain ⟨r0, r1', r2, r3⟩ := HX5.out.im
  have f0 := HX5.out.fz 0
  have f1 := HX5.out.fz 1
  have f2 := HX5.out.fz 2
  have f3 := HX5.out.fz 3
  obtain ⟨⟨q0, q1, q2⟩, p0, p1, p2⟩ := bx3K HY5.out
  clear hR5 hG5 hA5 hr5
  go_wp2_with fail
  refine hK.out _ _ (by (try dsimp only); exact ⟨k0, k1, k2, k3⟩) (fun hHeld => ?_)
  clear hK K
  (try simp only [Act.put, List.setIfInBounds_toArray, List.set_cons_zero, List.set_cons_succ])
  refine wpAnyH_ready (rs := [3]) (by kernel_rfl) (by simp) ?_
  refine' AllReadyH.cons (o := _) ?hi4 (fun K hK => ?rest4) AllReadyH.nil
  case hi4 => (simp only [List.getElem?_toArray, List.getElem?_cons_succ, List.getElem?_cons_zero]; rfl)
  go_simp
  refine hK.out _ _ (by (try dsimp only); exact ⟨(cv_sc4 hnb _ _ _ _).trans k0, (cv_sc4 hnb _ _ _ _).trans k1, (cv_sc4 hnb _ _ _ _).trans k2, (cv_sc4 hnb _ _ _ _).trans k3⟩) (fun hHeld => ?_)
  clear hK K
  (try simp only [Act.put, List.setIfInBounds_toArray, List.set_cons_zero, List.set_cons_succ])
  refine wpAnyH_ready (rs := [4]) (by kernel_rfl) (by simp) ?_
  refine' AllReadyH.cons (o := _) ?hi5 (fun K hK => ?rest5) AllReadyH.nil
  case hi5 => (simp only [List.getElem?_toArray, List.getElem?_cons_succ, List.getElem?_cons_zero]; rfl)
  go_simp
  refine hK.out _ _ (by (try dsimp only); exact ⟨(cv_sc3 hnb1 _ _ _).trans ((cv_sc4 hnb _ _ _ _).trans k0), (cv_sc3 hnb1 _ _ _).trans ((cv_sc4 hnb _ _ _ _).trans k1), (cv_sc3 hnb1 _ _ _).trans ((cv_sc4 hnb _ _ _ _).trans k2), (cv_sc3 hnb1 _ _ _).trans ((cv_sc4 hnb _ _ _ _).trans k3)⟩) (fun hHeld => ?_)
  clear hK K
  (try simp only [Act.put, List.setIfInBounds_toArray, List.set_cons_zero, List.set_cons_succ])
  refine wpAnyH_done (by kernel_rfl) ?_ _
  have hG : u4.grownBy u5 (some g) := ⟨HG5.out.os, HG5.out.tape, HG5.out.output, HG5.out.size, HG5.out.block⟩
  have hB : Below w.heap.size w u5 := HB4.out.grown hG HB4.out.size (fun k hk => by injection hk with hk; have := Hg.out; omega)
  have hr : Rds .i64 u5 u5.heap.size A3 ys := (Rds.offG Hr4.out (Nat.le_refl _) (lo := w.heap.size + 3) (fun a ha => HA.out a ha) hG (by have := Hg.out; omega)).more hG.size
  have hA5 : ∀ a : Addr, A5 = some a → r1 < a.block := fun a ha => by have h1 := HA5.out a ha; have h2 : u4.drew.heap.size = u4.heap.size := rfl; rw [h2] at h1; have := Hs4.out; have := Hr1.out; omega
  have HE : Hid (∀ v0 v1 v2 v3 k0 k1 k2 : Value, DrawnCv w (.returned (.tuple #[.agg #[.int .i64 W3, .int .i64 H3, .int .i64 P3, .slice A3 ys.length c3], .agg #[.int .i64 R5, .slice A5 ks.length c5, .int .i64 D5]])) (((((((u5.setCell ⟨w.heap.size, 0, none⟩ v0).setCell ⟨w.heap.size, 1, none⟩ v1).setCell ⟨w.heap.size, 2, none⟩ v2).setCell ⟨w.heap.size, 3, none⟩ v3).setCell ⟨r1, 0, none⟩ k0).setCell ⟨r1, 1, none⟩ k1).setCell ⟨r1, 2, none⟩ k2)) := Lib.hid (fun v0 v1 v2 v3 k0 k1 k2 =>
    cv_fin rfl rfl hy.1 hyc hk25 hkc hr Hr5.out (fun a ha => by have := HA.out a ha; have := Hr1.out; omega) hA5 hB Hr1.out (cv_gr4 u5 w.heap.size v0 v1 v2 v3) (cv_gr3 _ r1 k0 k1 k2))
  clear HT4 HX4 HY4 HR4 Hr4 HB4 HT5 HG5 HX5 HY5 hG hB hr hA5 HA5 Hr5 HA
  go_wp2
  exact bodyPost_ret (v := .tuple #[.agg #[.int .i64 W3, .int .i64 H3, .int .i64 P3, .slice A3 ys.length c3], .agg #[.int .i64 R5, .slice A5 ks.length c5, .int .i64 D5]]) (by simp [results, Try.results17, go_sem, r0, r1', r2, r3, q0, q1, q2, hn1, hn2]) rfl (HE.out _ _ _ _ _ _ _)
end Go.Proofs.Ytjgcondkoaegnaa
