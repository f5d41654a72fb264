/- Rows of bits that are shifted. -/
import Derived.Test.YtbjgjjhfnaiocaaDoorBitO
namespace Go.Proofs.YtbjgjjhfnaiocaaDoor
open Go.RowKit
set_option linter.unusedSimpArgs false
set_option linter.unusedVariables false
set_option maxRecDepth 100000

/-- A row moved by x columns. -/
def shV (x : Int) (r : Nat) : Nat := if 0 ≤ x then r * 2 ^ x.toNat % 65536 else r / 2 ^ (-x).toNat
/-- The first k rows of moved rows of bits. -/
def shB (B : Nat → Nat) (x y : Int) (k q : Nat) : Nat := if q < k then shV x (bRow B ((q : Int) - y)) else 0
theorem shV_lt (x : Int) {r : Nat} (h : r < 65536) : shV x r < 65536 := by
  unfold shV
  split
  · exact Nat.mod_lt _ (by omega)
  · exact Nat.lt_of_le_of_lt (Nat.div_le_self _ _) h
theorem bRow_lt {B : Nat → Nat} (hB : ∀ y, B y < 65536) (y : Int) : bRow B y < 65536 := by
  unfold bRow
  split
  · exact hB _
  · omega
theorem shB_lt {B : Nat → Nat} (hB : ∀ y, B y < 65536) (x y : Int) (k q : Nat) : shB B x y k q < 65536 := by
  unfold shB
  split
  · exact shV_lt x (bRow_lt hB _)
  · omega
theorem shB_up (B : Nat → Nat) (x y : Int) (k : Nat) : upB (shB B x y k) k (shV x (bRow B ((k : Int) - y))) = shB B x y (k + 1) := by
  funext q
  unfold upB shB
  by_cases e : q = k
  · subst e; rw [if_pos rfl, if_pos (Nat.lt_succ_self q)]
  · rw [if_neg e]
    by_cases h : q < k
    · rw [if_pos h, if_pos (by omega)]
    · rw [if_neg h, if_neg (by omega)]
/-- The pixels of a moved row. -/
theorem shV_bit (x : Int) (r c : Nat) (hr : r < 65536) (hc : c < 16) (hx : -16 ≤ x ∧ x ≤ 16) : (shV x r).testBit c = (decide (0 ≤ (c : Int) - x ∧ (c : Int) - x ≤ 15) && r.testBit ((c : Int) - x).toNat) := by
  unfold shV
  by_cases h : 0 ≤ x
  · obtain ⟨X, rfl⟩ := Int.eq_ofNat_of_zero_le h
    rw [if_pos h, Int.toNat_natCast, show (65536 : Nat) = 2 ^ 16 from rfl, Nat.testBit_mod_two_pow, decide_eq_true hc, Bool.true_and, Nat.testBit_mul_two_pow]
    by_cases hX : X ≤ c
    · rw [decide_eq_true hX, decide_eq_true (by omega), Bool.true_and, Bool.true_and, show ((c : Int) - (X : Int)).toNat = c - X by omega]
    · rw [decide_eq_false hX, decide_eq_false (by omega)]; simp
  · obtain ⟨X, hX⟩ : ∃ X : Nat, -x = X := ⟨(-x).toNat, by omega⟩
    rw [if_neg h, hX, Int.toNat_natCast, tb_div, show ((c : Int) - x).toNat = X + c by omega]
    by_cases h15 : X + c < 16
    · rw [decide_eq_true (by omega), Bool.true_and]
    · rw [decide_eq_false (by omega), Bool.false_and]
      exact bG_hi hr (by omega)
set_option maxHeartbeats 16000000 in
theorem i_shifted (B : Nat → Nat) (hB : ∀ y, B y < 65536) (x y : Int) (hx : -16 ≤ x ∧ x ≤ 16) (hy : -16 ≤ y ∧ y ≤ 16) (w : World) :
    Calls Tryd.prog 43 #[.agg (btC B), .int .i64 x, .int .i64 y] w fun e w' => e = .returned (.agg (btC (shB B x y 16))) ∧ Below w.heap.size w w' := by
  obtain ⟨u, hu⟩ : ∃ u, u = ((w.alloc (.cells (btC B) 56)).alloc (.cells #[.int .u16 0, .int .u16 0, .int .u16 0, .int .u16 0, .int .u16 0, .int .u16 0, .int .u16 0, .int .u16 0, .int .u16 0, .int .u16 0, .int .u16 0, .int .u16 0, .int .u16 0, .int .u16 0, .int .u16 0, .int .u16 0] 56)).alloc (.cells #[.int .u16 0, .int .u16 0, .int .u16 0, .int .u16 0, .int .u16 0, .int .u16 0, .int .u16 0, .int .u16 0, .int .u16 0, .int .u16 0, .int .u16 0, .int .u16 0, .int .u16 0, .int .u16 0, .int .u16 0, .int .u16 0] 56) := ⟨_, rfl⟩
  obtain ⟨b1, hb1⟩ : ∃ b, b = w.heap.size := ⟨_, rfl⟩
  obtain ⟨b6, hb6⟩ : ∃ b, b = w.heap.size + 1 := ⟨_, rfl⟩
  obtain ⟨b7, hb7⟩ : ∃ b, b = w.heap.size + 1 + 1 := ⟨_, rfl⟩
  have HI0 : Hid (Bx u b7 56 (btC (shB B x y 0)) ∧ Bx u b6 56 (btC fun _ => 0) ∧ Bx u b1 56 (btC B) ∧ Below w.heap.size w u) := Lib.hid (by
    rw [hu, hb1, hb6, hb7]
    have e1 : Bx ((w.alloc (.cells (btC B) 56)).alloc (.cells #[.int .u16 0, .int .u16 0, .int .u16 0, .int .u16 0, .int .u16 0, .int .u16 0, .int .u16 0, .int .u16 0, .int .u16 0, .int .u16 0, .int .u16 0, .int .u16 0, .int .u16 0, .int .u16 0, .int .u16 0, .int .u16 0] 56)) (w.heap.size + 1) 56 #[.int .u16 0, .int .u16 0, .int .u16 0, .int .u16 0, .int .u16 0, .int .u16 0, .int .u16 0, .int .u16 0, .int .u16 0, .int .u16 0, .int .u16 0, .int .u16 0, .int .u16 0, .int .u16 0, .int .u16 0, .int .u16 0] := by simpa using Bx.new (w.alloc (.cells (btC B) 56)) 56 #[.int .u16 0, .int .u16 0, .int .u16 0, .int .u16 0, .int .u16 0, .int .u16 0, .int .u16 0, .int .u16 0, .int .u16 0, .int .u16 0, .int .u16 0, .int .u16 0, .int .u16 0, .int .u16 0, .int .u16 0, .int .u16 0]
    have e2 : Bx (((w.alloc (.cells (btC B) 56)).alloc (.cells #[.int .u16 0, .int .u16 0, .int .u16 0, .int .u16 0, .int .u16 0, .int .u16 0, .int .u16 0, .int .u16 0, .int .u16 0, .int .u16 0, .int .u16 0, .int .u16 0, .int .u16 0, .int .u16 0, .int .u16 0, .int .u16 0] 56)).alloc (.cells #[.int .u16 0, .int .u16 0, .int .u16 0, .int .u16 0, .int .u16 0, .int .u16 0, .int .u16 0, .int .u16 0, .int .u16 0, .int .u16 0, .int .u16 0, .int .u16 0, .int .u16 0, .int .u16 0, .int .u16 0, .int .u16 0] 56)) (w.heap.size + 1 + 1) 56 #[.int .u16 0, .int .u16 0, .int .u16 0, .int .u16 0, .int .u16 0, .int .u16 0, .int .u16 0, .int .u16 0, .int .u16 0, .int .u16 0, .int .u16 0, .int .u16 0, .int .u16 0, .int .u16 0, .int .u16 0, .int .u16 0] := by simpa using Bx.new ((w.alloc (.cells (btC B) 56)).alloc (.cells #[.int .u16 0, .int .u16 0, .int .u16 0, .int .u16 0, .int .u16 0, .int .u16 0, .int .u16 0, .int .u16 0, .int .u16 0, .int .u16 0, .int .u16 0, .int .u16 0, .int .u16 0, .int .u16 0, .int .u16 0, .int .u16 0] 56)) 56 #[.int .u16 0, .int .u16 0, .int .u16 0, .int .u16 0, .int .u16 0, .int .u16 0, .int .u16 0, .int .u16 0, .int .u16 0, .int .u16 0, .int .u16 0, .int .u16 0, .int .u16 0, .int .u16 0, .int .u16 0, .int .u16 0]
    exact ⟨e2, e1.alloc _, ((Bx.new w _ _).alloc _).alloc _, (((Below.refl _ _).alloc (Nat.le_refl _) _).alloc (by simp) _).alloc (by simp; omega) _⟩)
  have HU := Lib.hid hu
  have Hb1 := Lib.hid hb1
  have Hb6 := Lib.hid hb6
  have Hb7 := Lib.hid hb7
  clear hu hb1 hb6 hb7
  go_enter Tryd.func43, Tryd.ntmps43
  go_wp2
  rw [← HU.out, ← Hb7.out, ← Hb6.out, ← Hb1.out]
  clear HU
  go_loopw [9] (fun i wr => ∃ k : Nat, k ≤ 16 ∧ i = .int .i64 (k : Int) ∧ Hid (Bx wr b7 56 (btC (shB B x y k)) ∧ Bx wr b6 56 (btC fun _ => 0) ∧ Bx wr b1 56 (btC B) ∧ Below w.heap.size w wr)) (fun i _ => 16 - (intOf i).toNat)
  case atStart => exact ⟨0, Nat.zero_le _, rfl, HI0⟩
  case round =>
    clear HI0
    obtain ⟨k, hk, rfl, hI⟩ := hrel
    rename World => wr
    by_cases hlt : k < 16
    · have hkI : (k : Int) < 16 := by omega
      obtain ⟨c0, c1, c2, c3, c4, c5, c6, c7, c8, c9, c10, c11, c12, c13, c14, c15⟩ := b16 hI.out.2.2.1
      have l1 := hI.out.2.2.1.lt
      go_wp2_with fail
      refine (i_row B ((k : Int) - y) wr).mono ?_
      rintro e w5 ⟨rfl, hb⟩
      obtain ⟨r, hr⟩ : ∃ r, r = bRow B ((k : Int) - y) := ⟨_, rfl⟩
      have hrl : r < 65536 := by rw [hr]; exact bRow_lt hB _
      rw [← hr]
      have H7 := Lib.hid (show Bx w5 b7 56 (btC (shB B x y k)) from (hb.block b7 hI.out.1.lt).trans hI.out.1)
      have H6 := Lib.hid (show Bx w5 b6 56 (btC fun _ => 0) from (hb.block b6 hI.out.2.1.lt).trans hI.out.2.1)
      have H1 := Lib.hid (show Bx w5 b1 56 (btC B) from (hb.block b1 hI.out.2.2.1.lt).trans hI.out.2.2.1)
      have HB5 := Lib.hid (hI.out.2.2.2.trans (hb.mono hI.out.2.2.2.size))
      have hc := bx_cell H7.out hlt
      have hf : w5.frozen? ⟨b7, k, none⟩ = false := frozen_of_row w5 b7 k _ _ H7.out
      have l7 := H7.out.lt
      have HN : Hid (Bx (w5.setCell ⟨b7, k, none⟩ (.int .u16 ((shV x r : Nat) : Int))) b7 56 (btC (shB B x y (k + 1))) ∧ Bx (w5.setCell ⟨b7, k, none⟩ (.int .u16 ((shV x r : Nat) : Int))) b6 56 (btC fun _ => 0) ∧ Bx (w5.setCell ⟨b7, k, none⟩ (.int .u16 ((shV x r : Nat) : Int))) b1 56 (btC B) ∧ Below w.heap.size w (w5.setCell ⟨b7, k, none⟩ (.int .u16 ((shV x r : Nat) : Int)))) := Lib.hid (by
        have h1 := Hb1.out
        have h6 := Hb6.out
        have h7 := Hb7.out
        refine ⟨?_, (heap_setCell_other w5 ⟨b7, k, none⟩ b6 _ (fun e => by have e' : b6 = b7 := e; omega)).trans H6.out, (heap_setCell_other w5 ⟨b7, k, none⟩ b1 _ (fun e => by have e' : b1 = b7 := e; omega)).trans H1.out, HB5.out.setCell (show w.heap.size ≤ b7 by omega) _⟩
        rw [← shB_up, ← hr]
        exact bx_up H7.out hlt _)
      clear hr hI hb H7 H6 H1 HB5 c0 c1 c2 c3 c4 c5 c6 c7 c8 c9 c10 c11 c12 c13 c14 c15
      by_cases hx0 : 0 ≤ x
      · obtain ⟨X, hX⟩ : ∃ X : Nat, x = X := ⟨x.toNat, by omega⟩
        subst hX
        have hsv : shV (X : Int) r = r * 2 ^ X % 65536 := by unfold shV; rw [if_pos hx0, Int.toNat_natCast]
        have hv : IntKind.u16.wrap ((r : Int) * 2 ^ X) / 2 ^ (if 0 < X then (0 : Int) else -(X : Int)).toNat = ((shV (X : Int) r : Nat) : Int) := by
          have e0 : (if 0 < X then (0 : Int) else -(X : Int)).toNat = 0 := by split <;> omega
          have e1 : (r : Int) * 2 ^ X = ((r * 2 ^ X : Nat) : Int) := by rw [Int.natCast_mul, Int.natCast_pow]; rfl
          rw [e0, hsv, IntKind.wrap_u16, Int.pow_zero, Int.ediv_one, e1]
          generalize r * 2 ^ X = q
          omega
        have Hv := Lib.hid hv
        clear hv hsv
        go_wp2
        go_roundw
        case rel =>
          refine ⟨k + 1, by omega, by go_num, ?_⟩
          rw [Hv.out]
          exact HN
        case measure => simp [intOf]; omega
      · have hv : (r : Int) / 2 ^ (-x).toNat = ((shV x r : Nat) : Int) := by
          unfold shV
          rw [if_neg hx0]
          have e1 : (2 : Int) ^ (-x).toNat = ((2 ^ (-x).toNat : Nat) : Int) := by rw [Int.natCast_pow]; rfl
          rw [e1]
          rfl
        have Hv := Lib.hid hv
        clear hv
        go_wp2
        go_roundw
        case rel =>
          refine ⟨k + 1, by omega, by go_num, ?_⟩
          rw [Hv.out]
          exact HN
        case measure => simp [intOf]; omega
    · obtain rfl : k = 16 := by omega
      obtain ⟨c0, c1, c2, c3, c4, c5, c6, c7, c8, c9, c10, c11, c12, c13, c14, c15⟩ := b16 hI.out.1
      obtain ⟨z0, z1, z2, z3, z4, z5, z6, z7, z8, z9, z10, z11, z12, z13, z14, z15⟩ := b16 hI.out.2.1
      have z0' : wr.frozen? ⟨b6, 0, none⟩ = false := frozen_of_row wr b6 0 _ _ hI.out.2.1
      have z1' : wr.frozen? ⟨b6, 1, none⟩ = false := frozen_of_row wr b6 1 _ _ hI.out.2.1
      have z2' : wr.frozen? ⟨b6, 2, none⟩ = false := frozen_of_row wr b6 2 _ _ hI.out.2.1
      have z3' : wr.frozen? ⟨b6, 3, none⟩ = false := frozen_of_row wr b6 3 _ _ hI.out.2.1
      have z4' : wr.frozen? ⟨b6, 4, none⟩ = false := frozen_of_row wr b6 4 _ _ hI.out.2.1
      have z5' : wr.frozen? ⟨b6, 5, none⟩ = false := frozen_of_row wr b6 5 _ _ hI.out.2.1
      have z6' : wr.frozen? ⟨b6, 6, none⟩ = false := frozen_of_row wr b6 6 _ _ hI.out.2.1
      have z7' : wr.frozen? ⟨b6, 7, none⟩ = false := frozen_of_row wr b6 7 _ _ hI.out.2.1
      have z8' : wr.frozen? ⟨b6, 8, none⟩ = false := frozen_of_row wr b6 8 _ _ hI.out.2.1
      have z9' : wr.frozen? ⟨b6, 9, none⟩ = false := frozen_of_row wr b6 9 _ _ hI.out.2.1
      have z10' : wr.frozen? ⟨b6, 10, none⟩ = false := frozen_of_row wr b6 10 _ _ hI.out.2.1
      have z11' : wr.frozen? ⟨b6, 11, none⟩ = false := frozen_of_row wr b6 11 _ _ hI.out.2.1
      have z12' : wr.frozen? ⟨b6, 12, none⟩ = false := frozen_of_row wr b6 12 _ _ hI.out.2.1
      have z13' : wr.frozen? ⟨b6, 13, none⟩ = false := frozen_of_row wr b6 13 _ _ hI.out.2.1
      have z14' : wr.frozen? ⟨b6, 14, none⟩ = false := frozen_of_row wr b6 14 _ _ hI.out.2.1
      have z15' : wr.frozen? ⟨b6, 15, none⟩ = false := frozen_of_row wr b6 15 _ _ hI.out.2.1
      have hF := s16_box hI.out.2.1 (shB B x y 16)
      obtain ⟨p0, p1, p2, p3, p4, p5, p6, p7, p8, p9, p10, p11, p12, p13, p14, p15⟩ := b16 hF
      dsimp only [s16] at p0 p1 p2 p3 p4 p5 p6 p7 p8 p9 p10 p11 p12 p13 p14 p15
      have hlt2 := hI.out.2.1.lt
      have hlt3 := hI.out.1.lt
      have HE : Hid (Below w.heap.size w (s16 wr b6 (shB B x y 16))) := Lib.hid (s16_below hI.out.2.2.2 (by have := Hb6.out; omega) _)
      have hkI : ¬ ((16 : Nat) : Int) < 16 := by omega
      clear hI hF
      dsimp only [s16] at HE
      go_wp2
      exact bodyPost_ret (v := .agg (btC (shB B x y 16))) (by simp [results, Tryd.results43, go_sem, p0, p1, p2, p3, p4, p5, p6, p7, p8, p9, p10, p11, p12, p13, p14, p15]) rfl ⟨rfl, HE.out⟩
end Go.Proofs.YtbjgjjhfnaiocaaDoor
