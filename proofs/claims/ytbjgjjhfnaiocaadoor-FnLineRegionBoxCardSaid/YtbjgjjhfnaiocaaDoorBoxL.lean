/- Mathematics of box regions: they are regions, their bounds are the box, their area is its width times its height. And equal lists of runs. -/
import Derived.Test.YtbjgjjhfnaiocaaDoorBoxR
import Derived.Test.YtbjgjjhfnaiocaaDoorBndM
import Derived.Test.YtbjgjjhfnaiocaaDoorArea
import Derived.Deep.QuietTactic
import Derived.BigQuiet
namespace Go.Proofs.YtbjgjjhfnaiocaaDoor
open Go.RowKit
set_option linter.unusedSimpArgs false
set_option linter.unusedVariables false
set_option maxRecDepth 20000

theorem brow_get (x y bw : Int) : ∀ (k j : Nat), j < k → (brow x y bw k).getD (j * 3) 0 = y + j ∧ (brow x y bw k).getD (j * 3 + 1) 0 = x ∧ (brow x y bw k).getD (j * 3 + 2) 0 = x + bw
  | 0, j, h => by omega
  | k + 1, j, h => by
    have hl := brow_len x y bw k
    by_cases e : j = k
    · subst e
      unfold brow
      simp only [List.getD_eq_getElem?_getD]
      rw [List.getElem?_append_right (by omega), List.getElem?_append_right (by omega), List.getElem?_append_right (by omega), hl]
      rw [show j * 3 - j * 3 = 0 by omega, show j * 3 + 1 - j * 3 = 1 by omega, show j * 3 + 2 - j * 3 = 2 by omega]
      exact ⟨rfl, rfl, rfl⟩
    · have ih := brow_get x y bw k j (by omega)
      unfold brow
      simp only [List.getD_eq_getElem?_getD] at ih ⊢
      rw [List.getElem?_append_left (by omega), List.getElem?_append_left (by omega), List.getElem?_append_left (by omega)]
      exact ih
section
variable {x y bw : Int} {N : Nat}
theorem brow_Y {j : Nat} (h : j < N) : gY (brow x y bw N) j = y + j := (brow_get x y bw N j h).1
theorem brow_F {j : Nat} (h : j < N) : gF (brow x y bw N) j = x := (brow_get x y bw N j h).2.1
theorem brow_T {j : Nat} (h : j < N) : gT (brow x y bw N) j = x + bw := (brow_get x y bw N j h).2.2
theorem brow_reg (x0 : 0 ≤ x) (x1 : x ≤ 15) (b0 : 1 ≤ bw) (b1 : x + bw ≤ 16) (y0 : 0 ≤ y) (h1 : y + N ≤ 16) : reg (brow x y bw N) N := by
  intro j hj
  refine regA_yes ?_ fun h0 => ?_
  · rw [brow_Y hj, brow_F hj, brow_T hj]
    simp only [vrunB, Bool.and_eq_true, decide_eq_true_eq]
    omega
  · rw [brow_Y hj, brow_F hj, brow_Y (show j - 1 < N by omega), brow_T (show j - 1 < N by omega)]
    exact decide_eq_true (by omega)
theorem brow_lo (hN : 0 < N) : ∀ k, k ≤ N → lo (brow x y bw N) k = x
  | 0, _ => brow_F hN
  | k + 1, h => by unfold lo; rw [brow_lo hN k (by omega), brow_F (show k < N by omega)]; omega
theorem brow_hi (hN : 0 < N) : ∀ k, k ≤ N → hi (brow x y bw N) k = x + bw
  | 0, _ => brow_T hN
  | k + 1, h => by unfold hi; rw [brow_hi hN k (by omega), brow_T (show k < N by omega)]; omega
theorem brow_area : ∀ k : Nat, k ≤ N → area (brow x y bw N) k = bw * k
  | 0, _ => by simp [area]
  | k + 1, h => by
    unfold area
    rw [brow_area k (by omega), brow_F (show k < N by omega), brow_T (show k < N by omega)]
    have : bw * ((k + 1 : Nat) : Int) = bw * k + bw := by rw [Int.natCast_add, Int.mul_add]; simp
    omega
end
/-- What the law of BoxRegion needs of a box that fits. -/
theorem box_law {x y bw bh : Int} (h : ftB x y bw bh 16 16 = true) :
    regB (brL x y bw bh) (brN x y bw bh) = true ∧ bok (brL x y bw bh) (brN x y bw bh) = true ∧ bX (brL x y bw bh) (brN x y bw bh) = x ∧ bY (brL x y bw bh) (brN x y bw bh) = y ∧
    bW (brL x y bw bh) (brN x y bw bh) = bw ∧ bH (brL x y bw bh) (brN x y bw bh) = bh ∧ areaV (brL x y bw bh) (brN x y bw bh) = bw * bh ∧ 0 ≤ bw * bh ∧ bw * bh ≤ 256 := by
  obtain ⟨⟨x0, x1⟩, ⟨b0, b1⟩, ⟨y0, y1⟩, h0, h1⟩ := ftB_bd h
  obtain ⟨N, hN⟩ : ∃ N : Nat, bh = N := ⟨bh.toNat, by omega⟩
  have en : brN x y bw bh = N := by rw [brN_yes h]; omega
  unfold brL
  rw [en]
  subst hN
  have hr := brow_reg (x := x) (y := y) (bw := bw) (N := N) x0 x1 b0 b1 y0 h1
  have hrb := regB_yes hr
  have hn0 : 0 < N := by omega
  have hb : bok (brow x y bw N) N = true := by unfold bok; rw [hrb, decide_eq_true hn0]; rfl
  obtain ⟨e1, e2, e3, e4⟩ := b_yes hb
  have ea : areaV (brow x y bw N) N = bw * N := by unfold areaV; rw [hrb, if_pos rfl]; exact brow_area N (Nat.le_refl _)
  have m0 : 0 ≤ bw * (N : Int) := Int.mul_nonneg (by omega) (by omega)
  have m1 : bw * (N : Int) ≤ 16 * (N : Int) := Int.mul_le_mul_of_nonneg_right (by omega) (by omega)
  refine ⟨hrb, hb, ?_, ?_, ?_, ?_, ea, m0, by omega⟩
  · rw [e1]; exact brow_lo hn0 N (Nat.le_refl _)
  · rw [e2, brow_Y hn0]; simp
  · rw [e3, brow_hi hn0 N (Nat.le_refl _), brow_lo hn0 N (Nat.le_refl _)]; omega
  · rw [e4, brow_Y (show N - 1 < N by omega), brow_Y hn0]; omega
set_option maxHeartbeats 4000000 in
theorem equalRuns_same (A A' : Option Addr) (n c c' : Nat) (xs : List Int) (B B' : Nat) (w : World) (hx : xs.length = 3 * n) (h : Rds .i64 w B A xs) (h' : Rds .i64 w B' A' xs) (hl : n ≤ 2000000) :
    Calls Tryd.prog 14 #[.slice A n c, .slice A' n c'] w fun e w' => e = .returned (.bool true) ∧ ∃ m, w' = w.drewN m := by
  have Hh := Lib.hid h
  have Hh' := Lib.hid h'
  have HX := Lib.hid hx
  clear h h' hx
  go_enter Tryd.func14, Tryd.ntmps14
  go_wp2
  go_loopw [5] (fun i wr => ∃ k : Nat, k ≤ n ∧ i = .int .i64 k ∧ ∃ m, wr = w.drewN m) (fun i _ => n - (intOf i).toNat)
  case atStart => exact ⟨0, Nat.zero_le _, rfl, 0, rfl⟩
  case round =>
    obtain ⟨k, hk, rfl, m, rfl⟩ := hrel
    by_cases hlt : k < n
    · obtain ⟨t0, t1, t2⟩ := trio hlt HX.out
      obtain ⟨b, off, rfl, hb, hc⟩ := Hh.out.cells_ t0
      obtain ⟨b', off', rfl, hb', hc'⟩ := Hh'.out.cells_ t0
      have hc0 := hc _ t0
      have hc1 : w.cell? ⟨b, off + k * 3 + 1, none⟩ = _ := hc _ t1
      have hc2 : w.cell? ⟨b, off + k * 3 + 2, none⟩ = _ := hc _ t2
      have hd0 := hc' _ t0
      have hd1 : w.cell? ⟨b', off' + k * 3 + 1, none⟩ = _ := hc' _ t1
      have hd2 : w.cell? ⟨b', off' + k * 3 + 2, none⟩ = _ := hc' _ t2
      clear hc hc'
      generalize xs.getD (k * 3) 0 = x at *
      generalize xs.getD (k * 3 + 1) 0 = y at *
      generalize xs.getD (k * 3 + 2) 0 = z at *
      go_wp2
      go_quiet (fail)
      go_wp2
      go_roundw
      case rel => exact ⟨k + 1, by omega, by go_num, _, rfl⟩
      case measure => simp [intOf]; omega
    · have hk' : k = n := by omega
      have Hk := Lib.hid hk'
      clear hk'
      go_wp2
      go_ret
      exact ⟨rfl, _, rfl⟩
end Go.Proofs.YtbjgjjhfnaiocaaDoor
