/- Lines in the model. -/
import Derived.Test.YtbjgjjhfnaiocaaDoorLnL
import Derived.Test.YtbjgjjhfnaiocaaDoorDsc
import Derived.Test.YtbjgjjhfnaiocaaDoorRnS
import Derived.Test.YtbjgjjhfnaiocaaDoorHasS
import Derived.Test.YtbjgjjhfnaiocaaDoorDiv
namespace Go.Proofs.YtbjgjjhfnaiocaaDoor
open Go.RowKit
set_option linter.unusedSimpArgs false
set_option linter.unusedVariables false
set_option maxRecDepth 100000

theorem gset (r : Nat) (u : World) (i : Nat) (x : Value) : u.grownBy (u.setCell ⟨r, i, none⟩ x) (some r) := ⟨rfl, rfl, rfl, by simp [World.setCell], fun k _ hk => heap_setCell_other u ⟨r, i, none⟩ k x (fun e => hk (by simp [e]))⟩
theorem mul_450 {u v : Int} (hu : 0 ≤ u ∧ u ≤ 30) (hv : -15 ≤ v ∧ v ≤ 15) : -450 ≤ u * v ∧ u * v ≤ 450 := by
  have h1 := Int.mul_le_mul_of_nonneg_left hv.2 hu.1
  have h2 := Int.mul_le_mul_of_nonneg_left hv.1 hu.1
  omega
def lnOk (x0 y0 x1 y1 : Int) : Bool := ongB x0 y0 && ongB x1 y1
theorem ong_gr {x y : Int} (h : ongB x y = true) : grB x y := by
  unfold ongB at h
  simp only [Bool.and_eq_true, decide_eq_true_eq] at h
  exact h
set_option maxHeartbeats 1000000 in
theorem s_dst (z : Int) (w : World) (h0 : -100 ≤ z) (h1 : z ≤ 100) : Calls Tryd.prog 50 #[.int .i64 z] w fun e w' => e = .returned (.int .i64 ((z.natAbs : Nat) : Int)) ∧ w = w' := by
  by_cases h : z < 0
  all_goals
    go_enter Tryd.func50, Tryd.ntmps50
    go_wp2
    go_ret
    exact ⟨ret_int (by omega), rfl⟩
set_option maxHeartbeats 16000000 in
theorem s_line (g c : Nat) (x0 y0 x1 y1 : Int) (h0 : grB x0 y0) (h1 : grB x1 y1) (w : World) (hg : GridFn w g (fun _ => false)) :
    Calls Tryd.prog 25 #[.slice (some ⟨g, 0, none⟩) 256 c, .int .i64 x0, .int .i64 y0, .int .i64 x1, .int .i64 y1] w fun e w' => e = .returned (.tuple #[]) ∧ GridFn w' g (lnF x0 y0 x1 y1) ∧ w.grownBy w' (some g) := by
  obtain ⟨dx, hdx⟩ : ∃ d, d = (x1 - x0).natAbs := ⟨_, rfl⟩
  obtain ⟨dy, hdy⟩ : ∃ d, d = (y1 - y0).natAbs := ⟨_, rfl⟩
  obtain ⟨n, hn⟩ : ∃ n, n = lnS x0 y0 x1 y1 := ⟨_, rfl⟩
  have hmx : n = max dx dy := by rw [hn, hdx, hdy]; rfl
  have Hn := Lib.hid hn
  have H0 := Lib.hid h0
  have H1 := Lib.hid h1
  obtain ⟨⟨p0, p1⟩, p2, p3⟩ := h0
  obtain ⟨⟨q0, q1⟩, q2, q3⟩ := h1
  have hdx15 : dx ≤ 15 := by omega
  have hdy15 : dy ≤ 15 := by omega
  have HDX : Hid (∀ w : World, Calls Tryd.prog 50 #[.int .i64 (x1 - x0)] w fun e w' => e = .returned (.int .i64 ((dx : Nat) : Int)) ∧ w = w') := Lib.hid (fun w => by rw [hdx]; exact s_dst (x1 - x0) w (by omega) (by omega))
  have HDY : Hid (∀ w : World, Calls Tryd.prog 50 #[.int .i64 (y1 - y0)] w fun e w' => e = .returned (.int .i64 ((dy : Nat) : Int)) ∧ w = w') := Lib.hid (fun w => by rw [hdy]; exact s_dst (y1 - y0) w (by omega) (by omega))
  have HI0 : Hid (GridFn w g (ptB (lnP x0 y0 x1 y1) 0) ∧ w.grownBy w (some g)) := Lib.hid ⟨hg, World.grownBy.refl _ _⟩
  have hn15 : n ≤ 15 := by omega
  have hdd : (x1 - x0).natAbs ≤ n ∧ (y1 - y0).natAbs ≤ n := by omega
  have HDD := Lib.hid hdd
  clear hn hg hdx hdy hdd
  have ha : -15 ≤ x1 - x0 ∧ x1 - x0 ≤ 15 := by omega
  have hb : -15 ≤ y1 - y0 ∧ y1 - y0 ≤ 15 := by omega
  by_cases hcmp : (dx : Int) < (dy : Int)
  · have e : dy = n := by omega
    clear hmx
    rw [e] at hcmp HDY
    clear e hdy15
    go_enter Tryd.func25, Tryd.ntmps25
    go_wp2_with fail
    refine (HDX.out w).mono ?_
    rintro e w1 ⟨rfl, rfl⟩
    go_wp2_with fail
    refine (HDY.out w).mono ?_
    rintro e w1 ⟨rfl, rfl⟩
    clear HDX HDY
    go_wp2
    clear hcmp
    go_loopw [11] (fun i wr => ∃ k : Nat, k ≤ n + 1 ∧ i = .int .i64 (k : Int) ∧ Hid (GridFn wr g (ptB (lnP x0 y0 x1 y1) k) ∧ w.grownBy wr (some g))) (fun i _ => n + 1 - (intOf i).toNat)
    case atStart => exact ⟨0, Nat.zero_le _, rfl, HI0⟩
    case round =>
      clear HI0
      obtain ⟨k, hk, rfl, hI⟩ := hrel
      rename World => wr
      by_cases hlt : k ≤ n
      · have hkI : (k : Int) ≤ (n : Int) := by omega
        obtain ⟨P, hP⟩ : ∃ P, P = lnP x0 y0 x1 y1 k := ⟨_, rfl⟩
        have hat := lnP_at H0.out H1.out (i := k) (by rw [← Hn.out]; exact hlt)
        rw [← Hn.out, ← hP] at hat
        have hin := ln_in H0.out H1.out (i := k) (by rw [← Hn.out]; exact hlt)
        rw [← Hn.out] at hin
        obtain ⟨hP256, hPd, hPm⟩ := hat
        have z0 : wr.frozen? ⟨g, P, none⟩ = false := hI.out.1.frozen P
        have s0 := hI.out.1.cell hP256
        have HN : Hid (GridFn (wr.setCell ⟨g, P, none⟩ (.bool true)) g (ptB (lnP x0 y0 x1 y1) (k + 1)) ∧ w.grownBy (wr.setCell ⟨g, P, none⟩ (.bool true)) (some g)) := Lib.hid ⟨(hI.out.1.put hP256 true).congr (fun j hj => by
          show (if j = P then true else ptB (lnP x0 y0 x1 y1) k j) = (ptB (lnP x0 y0 x1 y1) k j || decide (j = lnP x0 y0 x1 y1 k))
          rw [← hP]
          by_cases ej : j = P
          · rw [if_pos ej, decide_eq_true ej, Bool.or_true]
          · rw [if_neg ej, decide_eq_false ej, Bool.or_false]), gtrans hI.out.2 (gset g wr P _)⟩
        clear hI hP
        generalize ptB (lnP x0 y0 x1 y1) k P = sp at s0
        by_cases hn0 : 0 < n
        · have hnI : (0 : Int) < (n : Int) := by omega
          obtain ⟨ux, hux⟩ : ∃ u, u = (2 * (k : Int) * (x1 - x0) + n) / (2 * n) := ⟨_, rfl⟩
          obtain ⟨uy, huy⟩ : ∃ u, u = (2 * (k : Int) * (y1 - y0) + n) / (2 * n) := ⟨_, rfl⟩
          have ex : lnX x0 x1 n k = x0 + ux := by rw [hux]; rfl
          have ey : lnX y0 y1 n k = y0 + uy := by rw [huy]; rfl
          rw [ex, ey] at hin
          rw [ey] at hPd
          rw [ex] at hPm
          clear ex ey
          have hxi : ((P : Nat) : Int) = (y0 + uy) * 16 + (x0 + ux) := by omega
          have hxj : ((y0 + uy) * 16 + (x0 + ux)).toNat = P := by omega
          have hxb : 0 ≤ (y0 + uy) * 16 + (x0 + ux) ∧ (y0 + uy) * 16 + (x0 + ux) < 256 := by omega
          obtain ⟨⟨i0, i1⟩, i2, i3⟩ := hin
          have v0 : 0 ≤ x0 + ux ∧ x0 + ux ≤ 15 := by omega
          have v1 : 0 ≤ y0 + uy ∧ y0 + uy ≤ 15 := by omega
          clear hPd hPm i0 i1 i2 i3
          obtain ⟨m0, m1⟩ := mul_450 (u := 2 * (k : Int)) (by omega) ha
          obtain ⟨m2, m3⟩ := mul_450 (u := 2 * (k : Int)) (by omega) hb
          have HFX : Hid (∀ W : World, Calls Tryd.prog 51 #[.int .i64 (2 * (k : Int) * (x1 - x0) + n), .int .i64 (2 * (n : Int))] W fun e w' => e = .returned (.int .i64 ux) ∧ W = w') := Lib.hid (fun W => by rw [hux]; exact sFlr_any _ _ W (by omega) (by omega) (by omega))
          have HFY : Hid (∀ W : World, Calls Tryd.prog 51 #[.int .i64 (2 * (k : Int) * (y1 - y0) + n), .int .i64 (2 * (n : Int))] W fun e w' => e = .returned (.int .i64 uy) ∧ W = w') := Lib.hid (fun W => by rw [huy]; exact sFlr_any _ _ W (by omega) (by omega) (by omega))
          clear hux huy
          go_wp2_with fail
          refine (HFX.out wr).mono ?_
          rintro e w1 ⟨rfl, rfl⟩
          go_wp2_with fail
          refine (HFY.out wr).mono ?_
          rintro e w1 ⟨rfl, rfl⟩
          clear HFX HFY m0 m1 m2 m3
          go_wp2
          go_roundw
          case rel => exact ⟨k + 1, by omega, by go_num, HN⟩
          case measure => simp [intOf]; omega
        · have hnI : ¬ (0 : Int) < (n : Int) := by omega
          have e0 : n = 0 := by omega
          have ex : lnX x0 x1 n k = x0 := by rw [e0]; exact lnX_zero _ _ _
          have ey : lnX y0 y1 n k = y0 := by rw [e0]; exact lnX_zero _ _ _
          rw [ey] at hPd
          rw [ex] at hPm
          have hxi : ((P : Nat) : Int) = y0 * 16 + x0 := by omega
          have hxj : (y0 * 16 + x0).toNat = P := by omega
          have hxb : 0 ≤ y0 * 16 + x0 ∧ y0 * 16 + x0 < 256 := by omega
          clear hPd hPm ex ey hin e0
          go_wp2
          go_roundw
          case rel => exact ⟨k + 1, by omega, by go_num, HN⟩
          case measure => simp [intOf]; omega
      · obtain rfl : k = n + 1 := by omega
        have hkI : ¬ ((n + 1 : Nat) : Int) ≤ (n : Int) := by omega
        have HE : Hid (GridFn wr g (lnF x0 y0 x1 y1) ∧ w.grownBy wr (some g)) := Lib.hid ⟨by unfold lnF; rw [← Hn.out]; exact hI.out.1, hI.out.2⟩
        clear hI
        go_wp2
        go_end0
        exact ⟨rfl, HE.out⟩
  · have e : dx = n := by omega
    clear hmx
    rw [e] at hcmp HDX
    clear e hdx15
    go_enter Tryd.func25, Tryd.ntmps25
    go_wp2_with fail
    refine (HDX.out w).mono ?_
    rintro e w1 ⟨rfl, rfl⟩
    go_wp2_with fail
    refine (HDY.out w).mono ?_
    rintro e w1 ⟨rfl, rfl⟩
    clear HDX HDY
    go_wp2
    clear hcmp
    go_loopw [11] (fun i wr => ∃ k : Nat, k ≤ n + 1 ∧ i = .int .i64 (k : Int) ∧ Hid (GridFn wr g (ptB (lnP x0 y0 x1 y1) k) ∧ w.grownBy wr (some g))) (fun i _ => n + 1 - (intOf i).toNat)
    case atStart => exact ⟨0, Nat.zero_le _, rfl, HI0⟩
    case round =>
      clear HI0
      obtain ⟨k, hk, rfl, hI⟩ := hrel
      rename World => wr
      by_cases hlt : k ≤ n
      · have hkI : (k : Int) ≤ (n : Int) := by omega
        obtain ⟨P, hP⟩ : ∃ P, P = lnP x0 y0 x1 y1 k := ⟨_, rfl⟩
        have hat := lnP_at H0.out H1.out (i := k) (by rw [← Hn.out]; exact hlt)
        rw [← Hn.out, ← hP] at hat
        have hin := ln_in H0.out H1.out (i := k) (by rw [← Hn.out]; exact hlt)
        rw [← Hn.out] at hin
        obtain ⟨hP256, hPd, hPm⟩ := hat
        have z0 : wr.frozen? ⟨g, P, none⟩ = false := hI.out.1.frozen P
        have s0 := hI.out.1.cell hP256
        have HN : Hid (GridFn (wr.setCell ⟨g, P, none⟩ (.bool true)) g (ptB (lnP x0 y0 x1 y1) (k + 1)) ∧ w.grownBy (wr.setCell ⟨g, P, none⟩ (.bool true)) (some g)) := Lib.hid ⟨(hI.out.1.put hP256 true).congr (fun j hj => by
          show (if j = P then true else ptB (lnP x0 y0 x1 y1) k j) = (ptB (lnP x0 y0 x1 y1) k j || decide (j = lnP x0 y0 x1 y1 k))
          rw [← hP]
          by_cases ej : j = P
          · rw [if_pos ej, decide_eq_true ej, Bool.or_true]
          · rw [if_neg ej, decide_eq_false ej, Bool.or_false]), gtrans hI.out.2 (gset g wr P _)⟩
        clear hI hP
        generalize ptB (lnP x0 y0 x1 y1) k P = sp at s0
        by_cases hn0 : 0 < n
        · have hnI : (0 : Int) < (n : Int) := by omega
          obtain ⟨ux, hux⟩ : ∃ u, u = (2 * (k : Int) * (x1 - x0) + n) / (2 * n) := ⟨_, rfl⟩
          obtain ⟨uy, huy⟩ : ∃ u, u = (2 * (k : Int) * (y1 - y0) + n) / (2 * n) := ⟨_, rfl⟩
          have ex : lnX x0 x1 n k = x0 + ux := by rw [hux]; rfl
          have ey : lnX y0 y1 n k = y0 + uy := by rw [huy]; rfl
          rw [ex, ey] at hin
          rw [ey] at hPd
          rw [ex] at hPm
          clear ex ey
          have hxi : ((P : Nat) : Int) = (y0 + uy) * 16 + (x0 + ux) := by omega
          have hxj : ((y0 + uy) * 16 + (x0 + ux)).toNat = P := by omega
          have hxb : 0 ≤ (y0 + uy) * 16 + (x0 + ux) ∧ (y0 + uy) * 16 + (x0 + ux) < 256 := by omega
          obtain ⟨⟨i0, i1⟩, i2, i3⟩ := hin
          have v0 : 0 ≤ x0 + ux ∧ x0 + ux ≤ 15 := by omega
          have v1 : 0 ≤ y0 + uy ∧ y0 + uy ≤ 15 := by omega
          clear hPd hPm i0 i1 i2 i3
          obtain ⟨m0, m1⟩ := mul_450 (u := 2 * (k : Int)) (by omega) ha
          obtain ⟨m2, m3⟩ := mul_450 (u := 2 * (k : Int)) (by omega) hb
          have HFX : Hid (∀ W : World, Calls Tryd.prog 51 #[.int .i64 (2 * (k : Int) * (x1 - x0) + n), .int .i64 (2 * (n : Int))] W fun e w' => e = .returned (.int .i64 ux) ∧ W = w') := Lib.hid (fun W => by rw [hux]; exact sFlr_any _ _ W (by omega) (by omega) (by omega))
          have HFY : Hid (∀ W : World, Calls Tryd.prog 51 #[.int .i64 (2 * (k : Int) * (y1 - y0) + n), .int .i64 (2 * (n : Int))] W fun e w' => e = .returned (.int .i64 uy) ∧ W = w') := Lib.hid (fun W => by rw [huy]; exact sFlr_any _ _ W (by omega) (by omega) (by omega))
          clear hux huy
          go_wp2_with fail
          refine (HFX.out wr).mono ?_
          rintro e w1 ⟨rfl, rfl⟩
          go_wp2_with fail
          refine (HFY.out wr).mono ?_
          rintro e w1 ⟨rfl, rfl⟩
          clear HFX HFY m0 m1 m2 m3
          go_wp2
          go_roundw
          case rel => exact ⟨k + 1, by omega, by go_num, HN⟩
          case measure => simp [intOf]; omega
        · have hnI : ¬ (0 : Int) < (n : Int) := by omega
          have e0 : n = 0 := by omega
          have ex : lnX x0 x1 n k = x0 := by rw [e0]; exact lnX_zero _ _ _
          have ey : lnX y0 y1 n k = y0 := by rw [e0]; exact lnX_zero _ _ _
          rw [ey] at hPd
          rw [ex] at hPm
          have hxi : ((P : Nat) : Int) = y0 * 16 + x0 := by omega
          have hxj : (y0 * 16 + x0).toNat = P := by omega
          have hxb : 0 ≤ y0 * 16 + x0 ∧ y0 * 16 + x0 < 256 := by omega
          clear hPd hPm ex ey hin e0
          go_wp2
          go_roundw
          case rel => exact ⟨k + 1, by omega, by go_num, HN⟩
          case measure => simp [intOf]; omega
      · obtain rfl : k = n + 1 := by omega
        have hkI : ¬ ((n + 1 : Nat) : Int) ≤ (n : Int) := by omega
        have HE : Hid (GridFn wr g (lnF x0 y0 x1 y1) ∧ w.grownBy wr (some g)) := Lib.hid ⟨by unfold lnF; rw [← Hn.out]; exact hI.out.1, hI.out.2⟩
        clear hI
        go_wp2
        go_end0
        exact ⟨rfl, HE.out⟩
set_option maxHeartbeats 8000000 in
theorem s_LineRegion (x0 y0 x1 y1 : Int) (w : World) : Calls Tryd.prog 8 #[.int .i64 x0, .int .i64 y0, .int .i64 x1, .int .i64 y1] w (RunsIf (lnOk x0 y0 x1 y1) (lnG x0 y0 x1 y1) w) := by
  have hmk := make_grid
  cases h1 : ongB x0 y0
  · have H : Hid (lnOk x0 y0 x1 y1 = false) := Lib.hid (by unfold lnOk; rw [h1, Bool.false_and])
    go_enter Tryd.func8, Tryd.ntmps8
    go_wp2_with fail
    refine (sOng_any x0 y0 _).mono ?_
    rintro e w1 ⟨rfl, hb1⟩
    rw [h1]
    go_wp2
    go_ret
    exact RunsIf.no H.out hb1
  · cases h2 : ongB x1 y1
    · have H : Hid (lnOk x0 y0 x1 y1 = false) := Lib.hid (by unfold lnOk; rw [h2, Bool.and_false])
      go_enter Tryd.func8, Tryd.ntmps8
      go_wp2_with fail
      refine (sOng_any x0 y0 _).mono ?_
      rintro e w1 ⟨rfl, hb1⟩
      rw [h1]
      have HB1 := Lib.hid hb1
      clear hb1
      go_wp2_with fail
      refine (sOng_any x1 y1 _).mono ?_
      rintro e w2 ⟨rfl, hb2⟩
      rw [h2]
      have HB2 := Lib.hid (HB1.out.trans (hb2.mono HB1.out.size))
      clear hb2
      go_wp2
      go_ret
      exact RunsIf.no H.out HB2.out
    · have H : Hid (lnOk x0 y0 x1 y1 = true) := Lib.hid (by unfold lnOk; rw [h1, h2]; rfl)
      have H0 := Lib.hid (ong_gr h1)
      have H1 := Lib.hid (ong_gr h2)
      go_enter Tryd.func8, Tryd.ntmps8
      go_wp2_with fail
      refine (sOng_any x0 y0 _).mono ?_
      rintro e w1 ⟨rfl, hb1⟩
      rw [h1]
      have HB1 := Lib.hid hb1
      clear hb1
      go_wp2_with fail
      refine (sOng_any x1 y1 _).mono ?_
      rintro e w2 ⟨rfl, hb2⟩
      rw [h2]
      have HB2 := Lib.hid (HB1.out.trans (hb2.mono HB1.out.size))
      have HG0 := Lib.hid (GridFn.start w2)
      have HBu : Hid (Below w.heap.size w (w2.alloc (.cells gz 4))) := Lib.hid (HB2.out.alloc HB2.out.size _)
      have Hgw : Hid (w.heap.size ≤ w2.heap.size) := Lib.hid HB2.out.size
      clear hb2 h1 h2 HB1
      go_wp2_with fail
      clear hmk
      generalize w2.alloc (.cells gz 4) = u at *
      generalize w2.heap.size = g at *
      refine (s_line g 256 x0 y0 x1 y1 H0.out H1.out u HG0.out).mono ?_
      rintro e w3 ⟨rfl, hg3, hgr⟩
      have HG3 := Lib.hid hg3
      have HB3 : Hid (Below w.heap.size w w3) := Lib.hid (HBu.out.grown hgr HBu.out.size (fun k hk => by cases hk; exact Hgw.out))
      clear hg3 hgr HB2 HG0 HBu Hgw
      go_wp2_with fail
      refine (s_runsOf g 256 (lnG x0 y0 x1 y1) w3 HG3.out.lt (fun x y hx hy => HG3.out.cell (j := y * 16 + x) (by omega))).mono ?_
      rintro e w4 hR
      have HE := Lib.hid (RunsIf.yes (w := w) (G := lnG x0 y0 x1 y1) H.out (fun a b _ _ => rfl) HB3.out hR)
      obtain ⟨v4, rfl, _, _⟩ := hR
      clear HB3 HG3
      go_wp2
      go_ret
      exact HE.out
end Go.Proofs.YtbjgjjhfnaiocaaDoor
