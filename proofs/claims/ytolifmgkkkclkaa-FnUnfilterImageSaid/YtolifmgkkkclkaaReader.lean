/- Contracts of the drawing of inputs: the reader's numbers lie in their range, and only the reader's own block changes. -/
import Derived.Test.YtolifmgkkkclkaaProg
import Derived.WalkKit
import Derived.Deep.QuietTactic
import Derived.BigQuiet
import Derived.Laws.BitsAllLaws
import Derived.Laws.BitsLemmas
import Derived.OpenShut
import Derived.Deep.Light
import Derived.Test.YtolifmgkkkclkaaWords
namespace Go.Proofs.Ytolifmgkkkclkaa
open Go.RowKit
set_option linter.unusedSimpArgs false
set_option linter.unusedVariables false

/-- Block g holds a reader that has given at most N numbers; its bytes lie below g. -/
def Rdr (w : World) (g N : Nat) : Prop := ∃ (A : Option Addr) (bs : List Int) (c p : Nat),
  w.heap[g]? = some (.cells #[.slice A bs.length c, .int .i64 p] 62 (0, 0)) ∧ Rds .u8 w g A bs ∧ p ≤ N ∧ bs.length ≤ 2000 ∧ ∀ j : Nat, 0 ≤ bs[j]?.getD 0 ∧ bs[j]?.getD 0 ≤ 255
def Picked (n : Int) (g N : Nat) (w : World) (e : Ending) (w' : World) : Prop :=
  ∃ k : Int, e = .returned (.int .i64 k) ∧ 0 ≤ k ∧ (k < n ∨ k = 0) ∧ Rdr w' g (N + 1) ∧ w.grownBy w' (some g) ∧ w'.heap.size = w.heap.size

theorem Rdr.grown {w w' : World} {g N : Nat} {row : Option Nat} (h : Rdr w g N) (hg : w.grownBy w' row) (hr : ∀ k, row = some k → g < k) : Rdr w' g N := by
  obtain ⟨A, bs, c, p, hb, hr', hp, hl, hw⟩ := h
  have hlt : g < w.heap.size := by
    rcases Nat.lt_or_ge g w.heap.size with h | h
    · exact h
    · rw [Array.getElem?_eq_none h] at hb; cases hb
  refine ⟨A, bs, c, p, (hg.block g hlt (fun e => by have := hr _ e.symm; omega)).trans hb, hr'.grown hg (by omega) (fun k hk => by have := hr k hk; omega), hp, hl, hw⟩
theorem Rdr.alloc {w : World} {g N : Nat} (h : Rdr w g N) (o : Obj) : Rdr (w.alloc o) g N := h.grown (World.grownBy_alloc w o none) (by simp)
theorem Rdr.below {w w' : World} {B g N : Nat} (h : Rdr w g N) (hb : Below B w w') (hB : g < B) : Rdr w' g N := by
  obtain ⟨A, bs, c, p, hh, hr', hp, hl, hw⟩ := h
  exact ⟨A, bs, c, p, (hb.block g hB).trans hh, hr'.belowTo hb (by omega), hp, hl, hw⟩
theorem Rdr.lt {w : World} {g N : Nat} (h : Rdr w g N) : g < w.heap.size := by
  obtain ⟨A, bs, c, p, hb, _⟩ := h
  rcases Nat.lt_or_ge g w.heap.size with h | h
  · exact h
  · rw [Array.getElem?_eq_none h] at hb; cases hb
theorem Rdr.more {w : World} {g N N' : Nat} (h : Rdr w g N) (hN : N ≤ N') : Rdr w g N' := by
  obtain ⟨A, bs, c, p, hb, hr', hp, r⟩ := h
  exact ⟨A, bs, c, p, hb, hr', by omega, r⟩

theorem blk_cell {w : World} {g : Nat} {cs : Array Value} {t : TypeId} {fz : Nat × Nat} (h : w.heap[g]? = some (.cells cs t fz)) (i : Nat) : w.cell? ⟨g, i, none⟩ = cs[i]? := cell_of_row w g i cs t fz h
theorem blk_frozen {w : World} {g : Nat} {cs : Array Value} {t : TypeId} (h : w.heap[g]? = some (.cells cs t (0, 0))) (i : Nat) : w.frozen? ⟨g, i, none⟩ = false := frozen_of_row w g i cs t h
theorem blk_set {w : World} {g : Nat} {cs : Array Value} {t : TypeId} (h : w.heap[g]? = some (.cells cs t (0, 0))) (i : Nat) (u : Value) : (w.setCell ⟨g, i, none⟩ u).heap[g]? = some (.cells (cs.setIfInBounds i u) t (0, 0)) := heap_setCell_same w g i cs t u h

set_option maxHeartbeats 1000000 in
theorem newReader_any (A : Option Addr) (c : Nat) (bs : List Int) (w : World) (hc : bs.length ≤ c) (h : Rdw .u8 w w.heap.size A bs) :
    Calls Try.prog 26 #[.slice A bs.length c] w fun e w' => e = .returned (.pointer (some ⟨w.heap.size, 0, none⟩)) ∧ Rdr w' w.heap.size 0 ∧ Below w.heap.size w w' ∧ w'.heap.size = w.heap.size + 1 := by
  obtain ⟨hr, hm, hw⟩ := h
  have hb := range_u8 hw
  have Hr := Lib.hid hr
  have Hb := Lib.hid hb
  clear hr hw hb
  unfold maxLen at hm
  by_cases h2 : bs.length ≤ 2000
  · go_enter Try.func26, Try.ntmps26
    go_wp2
    go_ret
    refine ⟨rfl, ⟨A, bs, c, 0, heap_alloc_new w _, Hr.out.alloc (Nat.le_refl _) _, Nat.le_refl _, h2, Hb.out⟩, (Below.refl _ _).alloc (Nat.le_refl _) _, by simp⟩
  · go_enter Try.func26, Try.ntmps26
    go_wp2
    go_ret
    have hl : (bs.take 2000).length = 2000 := by simp; omega
    refine ⟨rfl, ⟨A, bs.take 2000, c, 0, by rw [hl]; exact heap_alloc_new w _, (Rds.take Hr.out 2000).alloc (Nat.le_refl _) _, Nat.le_refl _, by omega, fun j => ?_⟩, (Below.refl _ _).alloc (Nat.le_refl _) _, by simp⟩
    rw [List.getElem?_take]
    split
    · exact Hb.out j
    · simp

theorem xor_nat (a b : Nat) (ha : a < 9223372036854775808) (hb : b < 9223372036854775808) : 0 ≤ bits .xor .i64 (a : Int) (b : Int) := by
  have ofI : ∀ x : Nat, x < 9223372036854775808 → (BitVec.ofInt 64 (x : Int)).toNat = x := fun x hx => by
    rw [BitVec.ofInt_natCast, BitVec.toNat_ofNat]; exact Nat.mod_eq_of_lt (by omega)
  have hx : a ^^^ b < 2 ^ 63 := Nat.xor_lt_two_pow (by omega) (by omega)
  show 0 ≤ IntKind.i64.wrap ((BitVec.ofInt 64 (a : Int) ^^^ BitVec.ofInt 64 (b : Int)).toNat : Int)
  rw [BitVec.toNat_xor, ofI a ha, ofI b hb, IntKind.wrap_i64]
  omega

set_option maxHeartbeats 2000000 in
theorem pick_any (n : Int) (g N : Nat) (w : World) (h : Rdr w g N) (hN : N ≤ 1000000000) (hn : n ≤ 1000000000) :
    Calls Try.prog 34 #[.pointer (some ⟨g, 0, none⟩), .int .i64 n] w (Picked n g N w) := by
  obtain ⟨A, bs, c, p, hb, hr, hp, hl, hw⟩ := h
  have Hpost : ∀ k : Int, 0 ≤ k → (k < n ∨ k = 0) → ∀ m : Nat, Picked n g N w (.returned (.int .i64 k)) ((w.setCell ⟨g, 1, none⟩ (.int .i64 ((p : Int) + 1))).drewN m) := by
    intro k h0 h1 m
    have hgr : w.grownBy ((w.setCell ⟨g, 1, none⟩ (.int .i64 ((p : Int) + 1))).drewN m) (some g) :=
      ⟨rfl, rfl, rfl, by simp [World.setCell, World.drewN], fun i _ hne => heap_setCell_other w ⟨g, 1, none⟩ i _ (fun e => hne (by simp [e]))⟩
    refine ⟨k, rfl, h0, h1, ⟨A, bs, c, p + 1, ?_, ?_, by omega, hl, hw⟩, hgr, by simp [World.setCell, World.drewN]⟩
    · exact (blk_set hb 1 _).trans (by simp)
    · exact hr.keep fun q hq => World.cell?_setCell_other w ⟨g, 1, none⟩ q _ (fun e => by subst e; simp at hq)
  have HP := Lib.hid Hpost
  clear Hpost
  have c0 : w.cell? ⟨g, 0, none⟩ = some (.slice A bs.length c) := by simp [blk_cell hb]
  have c1 : w.cell? ⟨g, 1, none⟩ = some (.int .i64 p) := by simp [blk_cell hb]
  have f1 := blk_frozen hb 1
  have HB := Lib.hid hb
  clear hb
  by_cases hn1 : n < 1
  · go_enter Try.func34, Try.ntmps34
    go_wp2
    go_ret
    exact HP.out 0 (by omega) (by omega) 0
  · rcases hr with rfl | ⟨b, off, rfl, hbg, hc⟩
    · go_enter Try.func34, Try.ntmps34
      go_wp2
      go_ret
      exact HP.out 0 (by omega) (by omega) 0
    · by_cases hz : bs.length = 0
      · have hz' : ((bs.length : Int) == 0) = true := by simp [hz]
        clear hz
        go_enter Try.func34, Try.ntmps34
        go_wp2
        go_ret
        exact HP.out 0 (by omega) (by omega) 0
      · have hpost := HP.out
        have HPP : Hid (∀ k : Int, 0 ≤ k → (k < n ∨ k = 0) → ∀ m : Nat, Picked n g N w (.returned (.int .i64 k)) ((w.setCell ⟨g, 1, none⟩ (.int .i64 ((p : Int) + 1))).drewN m)) := hpost
        clear hpost HP HB
        obtain ⟨B, hB⟩ : ∃ B : Nat → Int, ∀ j, B j = bs[j]?.getD 0 := ⟨_, fun _ => rfl⟩
        have hc' : ∀ j, j < bs.length → w.cell? ⟨b, off + j, none⟩ = some (.int .u8 (B j)) := fun j hj => by rw [hc j hj, hB]; simp
        have hw' : ∀ j, 0 ≤ B j ∧ B j ≤ 255 := fun j => by rw [hB]; exact hw j
        clear hc hw hB
        generalize bs.length = L at *
        clear bs
        have hz1 : ((L : Int) == 0) = false := beq_eq_false_iff_ne.2 (by omega)
        have hz2 : 0 < L := by omega
        have hz3 : ¬ ((L : Int) = 0) := by omega
        clear hz
        by_cases hpl : p < L
        · have hcp := hc' p hpl
          have hwp := hw' p
          clear hc' hw'
          generalize B p = x at *
          go_enter Try.func34, Try.ntmps34
          go_wp2
          go_ret
          exact HPP.out _ (Int.emod_nonneg _ (by omega)) (.inl (Int.emod_lt_of_pos _ (by omega))) 0
        · have hm1 : p % L < L := Nat.mod_lt _ hz2
          have hm2 : (p * 7 + 3) % L < L := Nat.mod_lt _ hz2
          have hm3 : ((p : Int) * 7 + 3) % (L : Int) < (L : Int) := Int.emod_lt_of_pos _ (by omega)
          have hm4 : 0 ≤ ((p : Int) * 7 + 3) % (L : Int) := Int.emod_nonneg _ (by omega)
          have hc1 := hc' (p % L) hm1
          have hc2 := hc' ((p * 7 + 3) % L) hm2
          have hw1 := hw' (p % L)
          have hw2 := hw' ((p * 7 + 3) % L)
          clear hc' hw'
          generalize B (p % L) = x1 at *
          generalize B ((p * 7 + 3) % L) = x2 at *
          have hq1 : 0 ≤ (p : Int) / (L : Int) := Int.ediv_nonneg (by omega) (by omega)
          have hq2 : (p : Int) / (L : Int) ≤ (p : Int) := Int.ediv_le_self _ (by omega)
          obtain ⟨X, hX⟩ : ∃ X : Int, X = x1 * 131 + x2 * 1117 + (p : Int) * 29 + (p : Int) / (L : Int) * 53 := ⟨_, rfl⟩
          have hX0 : 0 ≤ X := by omega
          have hX1 : X < 1000000000000 := by omega
          have hxor : 0 ≤ bits .xor .i64 X (X / 64) := by
            obtain ⟨x, rfl⟩ := Int.eq_ofNat_of_zero_le hX0
            exact xor_nat x (x / 64) (by omega) (by omega)
          rw [hX] at hxor
          clear hX hX0 hX1 X
          go_enter Try.func34, Try.ntmps34
          go_wp2
          refine wp_region_quiet_lit (by kernel_rfl) (by kernel_rfl) ?_
          repeat (go_big_quiet_step (fail))
          refine wpQuiet_nil ?_
          intro _ hw'
          obtain ⟨nq, hw''⟩ := hw'
          subst hw''
          go_wp2
          go_ret
          exact HPP.out _ (Int.emod_nonneg _ (by omega)) (.inl (Int.emod_lt_of_pos _ (by omega))) nq

/-- One of a list's numbers, as the reader gives it. -/
def OneOf (xs : List Int) (g N : Nat) (w : World) (e : Ending) (w' : World) : Prop :=
  ∃ k : Int, e = .returned (.int .i64 k) ∧ k ∈ xs ∧ Rdr w' g (N + 1) ∧ w.grownBy w' (some g) ∧ w'.heap.size = w.heap.size

theorem picked_nat {n : Int} {g N : Nat} {w w' : World} {e : Ending} (h : Picked n g N w e w') (hn : 0 < n) : ∃ k : Nat, e = .returned (.int .i64 (k : Int)) ∧ (k : Int) < n ∧ Rdr w' g (N + 1) ∧ w.grownBy w' (some g) ∧ w'.heap.size = w.heap.size := by
  obtain ⟨k, rfl, h0, h1, r⟩ := h
  obtain ⟨j, rfl⟩ := Int.eq_ofNat_of_zero_le h0
  exact ⟨j, rfl, by omega, r⟩

set_option maxHeartbeats 1000000 in
theorem one_any (b off c : Nat) (xs : List Int) (g N : Nat) (w : World) (h : Rdr w g N) (hN : N ≤ 1000000000) (hx : 0 < xs.length) (hl : xs.length ≤ 1000) (hb : b < w.heap.size) (hne : b ≠ g)
    (hc : ∀ j, j < xs.length → w.cell? ⟨b, off + j, none⟩ = some (.int .i64 (xs.getD j 0))) :
    Calls Try.prog 35 #[.pointer (some ⟨g, 0, none⟩), .slice (some ⟨b, off, none⟩) xs.length c] w (OneOf xs g N w) := by
  have Hc := Lib.hid hc
  clear hc
  go_enter Try.func35, Try.ntmps35
  go_wp2_with fail
  refine (pick_any _ g N _ h hN (by omega)).mono ?_
  intro e w' hp
  obtain ⟨k, rfl, hk, hr, hg, hs⟩ := picked_nat hp (by omega)
  have hk' : k < xs.length := by omega
  have hcell : w'.cell? ⟨b, off + k, none⟩ = some (.int .i64 (xs.getD k 0)) := (World.cell?_of_block (hg.block b hb (by simpa using hne))).trans (Hc.out k hk')
  have Hs := Lib.hid hs
  clear hs hp h
  go_wp2
  go_ret
  refine ⟨_, rfl, ?_, hr, hg, Hs.out⟩
  simp [hk']
end Go.Proofs.Ytolifmgkkkclkaa
