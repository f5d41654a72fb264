/- Contracts of TokenCost, in the model and in the program. -/
import Derived.Test.YtkfgcpoobbejkaaTri
import Derived.LoopN
namespace Go.Proofs.Ytkfgcpoobbejkaa
open Go.RowKit
set_option linter.unusedSimpArgs false
set_option linter.unusedVariables false
set_option maxRecDepth 20000

def tk (l : Int) : Int := if l = 0 then 9 else 11
/-- The cost of the first k tokens. -/
def tcost (xs : List Int) : Nat → Int
  | 0 => 0
  | k + 1 => tcost xs k + tk (xs.getD (k * 3 + 1) 0)
theorem tcost_bd (xs : List Int) : ∀ k : Nat, 0 ≤ tcost xs k ∧ tcost xs k ≤ 11 * k
  | 0 => by simp [tcost]
  | k + 1 => by
    have := tcost_bd xs k
    unfold tcost tk
    split <;> omega
theorem tcost_z {xs : List Int} {k : Nat} (h : xs.getD (k * 3 + 1) 0 = 0) : tcost xs (k + 1) = tcost xs k + 9 := by show tcost xs k + tk _ = _; rw [h]; rfl
theorem tcost_n {xs : List Int} {k : Nat} (h : ¬ xs.getD (k * 3 + 1) 0 = 0) : tcost xs (k + 1) = tcost xs k + 11 := by show tcost xs k + tk _ = _; unfold tk; rw [if_neg h]
set_option maxHeartbeats 2000000 in
theorem sBits_any (a b c : Int) (w : World) : Calls Try.prog 9 #[.agg #[.int .i64 a, .int .i64 b, .int .i64 c]] w fun e w' => e = .returned (.int .i64 (tk b)) ∧ Below w.heap.size w w' := by
  by_cases h : b = 0
  · have h' : (b == 0) = true := by rw [h]; rfl
    have HT : Hid (tk b = 9) := Lib.hid (if_pos h)
    clear h
    go_enter Try.func9, Try.ntmps9
    go_wp2
    go_ret
    exact ⟨ret_int HT.out.symm, by (repeat' (first | (exact Below.refl _ _) | (refine Below.setCell ?_ (by first | omega | (simp; done) | (simp; omega)) _) | (refine below_dn ?_ _) | (refine Below.drew ?_) | (refine Below.alloc ?_ (by first | omega | (simp; done) | (simp; omega)) _) | (exact Below.refl _ _)))⟩
  · have h' : (b == 0) = false := beq_eq_false_iff_ne.2 h
    have HT : Hid (tk b = 11) := Lib.hid (if_neg h)
    clear h
    go_enter Try.func9, Try.ntmps9
    go_wp2
    go_ret
    exact ⟨ret_int HT.out.symm, by (repeat' (first | (exact Below.refl _ _) | (refine Below.setCell ?_ (by first | omega | (simp; done) | (simp; omega)) _) | (refine below_dn ?_ _) | (refine Below.drew ?_) | (refine Below.alloc ?_ (by first | omega | (simp; done) | (simp; omega)) _) | (exact Below.refl _ _)))⟩
set_option maxHeartbeats 4000000 in
theorem s_TokenCost (A : Option Addr) (n c B : Nat) (xs : List Int) (w : World) (hx : xs.length = 3 * n) (h : Rds .i64 w B A xs) (hB : B ≤ w.heap.size) (hl : n ≤ 2000000) :
    Calls Try.prog 6 #[.slice A n c] w fun e w' => e = .returned (.int .i64 (tcost xs (min n 1200))) ∧ Below w.heap.size w w' := by
  have Hh := Lib.hid h
  have HX := Lib.hid hx
  clear h hx
  go_enter Try.func6, Try.ntmps6
  go_wp2
  go_loopw [3, 4] (fun s i wr => ∃ k : Nat, k ≤ n ∧ k ≤ 1200 ∧ i = .int .i64 k ∧ s = .int .i64 (tcost xs k) ∧ Below w.heap.size w wr) (fun _ i _ => n - (intOf i).toNat)
  case atStart => exact ⟨0, Nat.zero_le _, by omega, rfl, rfl, Below.refl _ _⟩
  case round =>
    obtain ⟨k, hk, hk2, rfl, rfl, hbel⟩ := hrel
    have hbd := tcost_bd xs k
    by_cases hlt : k < n
    · by_cases hlt2 : k < 1200
      · obtain ⟨t0, t1, t2⟩ := trio hlt HX.out
        obtain ⟨b, off, rfl, hb, hc⟩ := Hh.out.cells_ t0
        have hc0 := (hbel.cell (p := ⟨b, off + k * 3, none⟩) (by show b < _; omega)).trans (hc _ t0)
        have hc1 := (hbel.cell (p := ⟨b, off + k * 3 + 1, none⟩) (by show b < _; omega)).trans (hc _ t1)
        have hc2 := (hbel.cell (p := ⟨b, off + k * 3 + 2, none⟩) (by show b < _; omega)).trans (hc _ t2)
        have HS : Hid (tcost xs (k + 1) = tcost xs k + tk (xs.getD (k * 3 + 1) 0)) := Lib.hid rfl
        have htk : 9 ≤ tk (xs.getD (k * 3 + 1) 0) ∧ tk (xs.getD (k * 3 + 1) 0) ≤ 11 := by unfold tk; split <;> omega
        clear hc
        generalize tcost xs k = S at *
        generalize xs.getD (k * 3) 0 = x at *
        generalize xs.getD (k * 3 + 1) 0 = y at *
        generalize xs.getD (k * 3 + 2) 0 = z at *
        go_wp2_with fail
        refine (sBits_any x y z _).mono ?_
        rintro e w2 ⟨rfl, hB2⟩
        have hb2 := hbel.trans (hB2.mono hbel.size)
        clear hB2 hbel
        generalize tk y = T at *
        go_wp2
        go_roundw
        case rel => exact ⟨k + 1, by omega, by omega, by go_num, by rw [HS.out], hb2⟩
        case measure => simp [intOf]; omega
      · have HE : Hid (min n 1200 = k) := Lib.hid (by omega)
        go_wp2
        go_ret
        exact ⟨ret_int (by rw [HE.out]), hbel⟩
    · have HE : Hid (min n 1200 = k) := Lib.hid (by omega)
      go_wp2
      go_ret
      exact ⟨ret_int (by rw [HE.out]), hbel⟩
set_option maxHeartbeats 4000000 in
theorem i_TokenCost_loop (b off n c : Nat) (xs : List Int) (w : World) (hn : 0 < n) (hx : xs.length = 3 * n) (h : Rds .i64 w w.heap.size (some ⟨b, off, none⟩) xs) (hl : n ≤ 2000000) (hc : n ≤ c) (hcm : c ≤ 9223372036854775807) :
    Calls Try.prog 5 #[.slice (some ⟨b, off, none⟩) n c] w fun e w' => e = .returned (.int .i64 (tcost xs (min n 1200))) ∧ Below w.heap.size w w' := by
  have Hh := Lib.hid h
  have HX := Lib.hid hx
  clear h hx
  obtain ⟨m, hm⟩ : ∃ m, m = min n 1200 := ⟨_, rfl⟩
  rw [← hm]
  by_cases hlim : n ≤ 1200
  · have HM : Hid (m = n) := Lib.hid (by omega)
    have hmn : m ≤ n := by omega
    have hm2 : n ≤ m := by omega
    clear hm
    go_enter Try.func5, Try.ntmps5
    go_wp2
    go_loopw [12, 3] (fun i s wr => ∃ k : Nat, k ≤ n ∧ i = .int .i64 k ∧ s = .int .i64 (tcost xs k) ∧ Below w.heap.size w wr) (fun i _ _ => n - (intOf i).toNat)
    case atStart => exact ⟨0, Nat.zero_le _, rfl, rfl, Below.refl _ _⟩
    case round =>
      obtain ⟨k, hk, rfl, rfl, hbel⟩ := hrel
      have hbd := tcost_bd xs k
      by_cases hlt : k < n
      · obtain ⟨t0, t1, t2⟩ := trio (show k < n by omega) HX.out
        obtain ⟨_, _, he, hb, hc0⟩ := Hh.out.cells_ t0
        simp only [Option.some.injEq, Addr.mk.injEq, and_true] at he
        obtain ⟨rfl, rfl⟩ := he
        have hd0 := (hbel.cell (p := ⟨b, off + k * 3, none⟩) (by show b < _; omega)).trans (hc0 _ t0)
        have hd1 := (hbel.cell (p := ⟨b, off + k * 3 + 1, none⟩) (by show b < _; omega)).trans (hc0 _ t1)
        have hd2 := (hbel.cell (p := ⟨b, off + k * 3 + 2, none⟩) (by show b < _; omega)).trans (hc0 _ t2)
        have Hz := Lib.hid (fun h => tcost_z (xs := xs) (k := k) h)
        have Hn := Lib.hid (fun h => tcost_n (xs := xs) (k := k) h)
        clear hc0
        generalize xs.getD (k * 3) 0 = x at *
        generalize xs.getD (k * 3 + 1) 0 = y at *
        generalize xs.getD (k * 3 + 2) 0 = z at *
        have hb2 := Lib.hid (hbel.alloc hbel.size (.cells #[.int .i64 x, .int .i64 y, .int .i64 z] 31))
        clear hbel
        by_cases hy : y = 0
        · have hy' : (y == 0) = true := by rw [hy]; rfl
          have HE := Lib.hid (Hz.out hy)
          clear hy Hz Hn
          generalize tcost xs k = S at *
          go_wp2
          go_roundw
          case rel => exact ⟨k + 1, by omega, by go_num, by rw [HE.out], hb2.out⟩
          case measure => simp [intOf]; omega
        · have hy' : (y == 0) = false := beq_eq_false_iff_ne.2 hy
          have HE := Lib.hid (Hn.out hy)
          clear hy Hz Hn
          generalize tcost xs k = S at *
          go_wp2
          go_roundw
          case rel => exact ⟨k + 1, by omega, by go_num, by rw [HE.out], hb2.out⟩
          case measure => simp [intOf]; omega
      · have HE : Hid (m = k) := Lib.hid (by have := HM.out; omega)
        go_wp2
        go_ret
        exact ⟨ret_int (by rw [HE.out]), hbel⟩
  · have HM : Hid (m = 1200) := Lib.hid (by omega)
    clear hm
    go_enter Try.func5, Try.ntmps5
    go_wp2
    go_loopw [12, 3] (fun i s wr => ∃ k : Nat, k ≤ 1200 ∧ i = .int .i64 k ∧ s = .int .i64 (tcost xs k) ∧ Below w.heap.size w wr) (fun i _ _ => 1200 - (intOf i).toNat)
    case atStart => exact ⟨0, Nat.zero_le _, rfl, rfl, Below.refl _ _⟩
    case round =>
      obtain ⟨k, hk, rfl, rfl, hbel⟩ := hrel
      have hbd := tcost_bd xs k
      by_cases hlt : k < 1200
      · obtain ⟨t0, t1, t2⟩ := trio (show k < n by omega) HX.out
        obtain ⟨_, _, he, hb, hc0⟩ := Hh.out.cells_ t0
        simp only [Option.some.injEq, Addr.mk.injEq, and_true] at he
        obtain ⟨rfl, rfl⟩ := he
        have hd0 := (hbel.cell (p := ⟨b, off + k * 3, none⟩) (by show b < _; omega)).trans (hc0 _ t0)
        have hd1 := (hbel.cell (p := ⟨b, off + k * 3 + 1, none⟩) (by show b < _; omega)).trans (hc0 _ t1)
        have hd2 := (hbel.cell (p := ⟨b, off + k * 3 + 2, none⟩) (by show b < _; omega)).trans (hc0 _ t2)
        have Hz := Lib.hid (fun h => tcost_z (xs := xs) (k := k) h)
        have Hn := Lib.hid (fun h => tcost_n (xs := xs) (k := k) h)
        clear hc0
        generalize xs.getD (k * 3) 0 = x at *
        generalize xs.getD (k * 3 + 1) 0 = y at *
        generalize xs.getD (k * 3 + 2) 0 = z at *
        have hb2 := Lib.hid (hbel.alloc hbel.size (.cells #[.int .i64 x, .int .i64 y, .int .i64 z] 31))
        clear hbel
        by_cases hy : y = 0
        · have hy' : (y == 0) = true := by rw [hy]; rfl
          have HE := Lib.hid (Hz.out hy)
          clear hy Hz Hn
          generalize tcost xs k = S at *
          go_wp2
          go_roundw
          case rel => exact ⟨k + 1, by omega, by go_num, by rw [HE.out], hb2.out⟩
          case measure => simp [intOf]; omega
        · have hy' : (y == 0) = false := beq_eq_false_iff_ne.2 hy
          have HE := Lib.hid (Hn.out hy)
          clear hy Hz Hn
          generalize tcost xs k = S at *
          go_wp2
          go_roundw
          case rel => exact ⟨k + 1, by omega, by go_num, by rw [HE.out], hb2.out⟩
          case measure => simp [intOf]; omega
      · have HE : Hid (m = k) := Lib.hid (by have := HM.out; omega)
        go_wp2
        go_ret
        exact ⟨ret_int (by rw [HE.out]), hbel⟩
theorem i_TokenCost (A : Option Addr) (n c B : Nat) (xs : List Int) (w : World) (hx : xs.length = 3 * n) (h : Rds .i64 w B A xs) (hB : B ≤ w.heap.size) (hl : n ≤ 2000000) (hc : n ≤ c) (hcm : c ≤ 9223372036854775807) :
    Calls Try.prog 5 #[.slice A n c] w fun e w' => e = .returned (.int .i64 (tcost xs (min n 1200))) ∧ Below w.heap.size w w' := by
  by_cases hn : 0 < n
  · obtain ⟨b, off, rfl, _, _⟩ := h.cells_ (j := 0) (by omega)
    exact i_TokenCost_loop b off n c xs w hn hx (h.more hB) hl hc hcm
  · obtain rfl : n = 0 := by omega
    clear h hx
    rcases A with _ | ad
    all_goals
      go_enter Try.func5, Try.ntmps5
      go_wp2
      refine wp_loop_rounds 1 ?_
      rw [rounds_succ]
      go_wp2
      go_ret
      exact ⟨rfl, Below.refl _ _⟩
end Go.Proofs.Ytkfgcpoobbejkaa
