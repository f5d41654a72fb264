/- Contract of BoundsOf, in the model. -/
import Derived.Test.YtjekhlhnjknbeaaBndM
import Derived.Test.YtjekhlhnjknbeaaBnd
import Derived.StillTailTactics
namespace Go.Proofs.Ytjekhlhnjknbeaa
open Go.RowKit
set_option linter.unusedSimpArgs false
set_option linter.unusedVariables false
set_option maxRecDepth 20000

set_option maxHeartbeats 8000000 in
theorem s_boundsOf (A : Option Addr) (n c B : Nat) (xs : List Int) (w : World) (hx : xs.length = 3 * n) (h : Rds .i64 w B A xs) (hB : B ≤ w.heap.size) (hl : n ≤ 2000000) (hr : reg xs n) (hn1 : 0 < n) :
    Calls Try.prog 82 #[.slice A n c] w fun e w' => e = .returned (.agg #[.int .i64 (lo xs n), .int .i64 (gY xs 0), .int .i64 (hi xs n - lo xs n), .int .i64 (gY xs (n - 1) - gY xs 0 + 1)]) ∧ Below w.heap.size w w' := by
  have HbA : Hid (Below w.heap.size w (w.alloc (.cells #[.int .i64 0, .int .i64 0, .int .i64 0, .int .i64 0] 47))) := Lib.hid ((Below.refl _ _).alloc (Nat.le_refl _) _)
  have HrA := Lib.hid ((h.alloc hB (.cells #[.int .i64 0, .int .i64 0, .int .i64 0, .int .i64 0] 47)).more (show B ≤ (w.alloc (.cells #[.int .i64 0, .int .i64 0, .int .i64 0, .int .i64 0] 47)).heap.size by simp; omega))
  have HgA : Hid ((w.alloc (.cells #[.int .i64 0, .int .i64 0, .int .i64 0, .int .i64 0] 47)).heap[w.heap.size]? = some (.cells #[.int .i64 0, .int .i64 0, .int .i64 0, .int .i64 0] 47 (0, 0))) := Lib.hid (heap_alloc_new w _)
  have HX := Lib.hid hx
  have HR := Lib.hid hr
  clear h hx hr
  have s0 : 0 * 3 < xs.length := by have := HX.out; omega
  have s1 : (n - 1) * 3 < xs.length := by have := HX.out; omega
  obtain ⟨b, off, rfl, hb, hc⟩ := HrA.out.cells_ s0
  have d0 := hc 0 (by omega)
  have d1 := hc 1 (by have := HX.out; omega)
  have d2 := hc 2 (by have := HX.out; omega)
  have d3 := hc ((n - 1) * 3) s1
  have HC := Lib.hid hc
  have Hy0 : Hid (gY xs 0 = xs.getD 0 0) := Lib.hid rfl
  have Hf0 : Hid (gF xs 0 = xs.getD 1 0) := Lib.hid rfl
  have Ht0 : Hid (gT xs 0 = xs.getD 2 0) := Lib.hid rfl
  have Hyn : Hid (gY xs (n - 1) = xs.getD ((n - 1) * 3) 0) := Lib.hid rfl
  obtain ⟨⟨y00, y01⟩, ⟨f00, f01⟩, t00, t01⟩ := reg_bd HR.out hn1
  obtain ⟨⟨yn0, yn1⟩, _, _⟩ := reg_bd HR.out (show n - 1 < n by omega)
  rw [Hy0.out] at y00 y01
  rw [Hf0.out] at f00 f01
  rw [Ht0.out] at t00 t01
  rw [Hyn.out] at yn0 yn1
  have Hlo0 : Hid (lo xs 0 = xs.getD 1 0) := Lib.hid rfl
  have Hhi0 : Hid (hi xs 0 = xs.getD 2 0) := Lib.hid rfl
  have HLo := Lib.hid (fun k hk => lohi_bd HR.out hn1 k hk)
  clear hc
  generalize xs.getD 0 0 = y0 at *
  generalize xs.getD 1 0 = f0 at *
  generalize xs.getD 2 0 = t0 at *
  generalize xs.getD ((n - 1) * 3) 0 = yn at *
  have e0 : (w.alloc (.cells #[.int .i64 0, .int .i64 0, .int .i64 0, .int .i64 0] 47)).cell? ⟨b, off, none⟩ = some (.int .i64 y0) := d0
  clear d0
  go_enter Try.func82, Try.ntmps82
  go_wp2_with fail
  generalize w.alloc (.cells #[.int .i64 0, .int .i64 0, .int .i64 0, .int .i64 0] 47) = u at *
  go_loop [3, 4, 5] (fun l r i => ∃ (k : Nat) (L R : Int), k ≤ n ∧ i = .int .i64 k ∧ l = .int .i64 L ∧ r = .int .i64 R ∧ Hid (L = lo xs k ∧ R = hi xs k)) (fun _ _ i => n - (intOf i).toNat)
  case atStart => exact ⟨0, f0, t0, Nat.zero_le _, rfl, rfl, rfl, Lib.hid ⟨Hlo0.out.symm, Hhi0.out.symm⟩⟩
  case round =>
    obtain ⟨k, L, R, hk, rfl, rfl, rfl, hLR⟩ := hrel
    obtain ⟨⟨l0, l1⟩, q0, q1⟩ := HLo.out k hk
    rw [← hLR.out.1] at l0 l1
    rw [← hLR.out.2] at q0 q1
    by_cases hlt : k < n
    · obtain ⟨p0, p1, p2⟩ := trio hlt HX.out
      have hc1 : u.cell? ⟨b, off + k * 3 + 1, none⟩ = _ := HC.out _ p1
      have hc2 : u.cell? ⟨b, off + k * 3 + 2, none⟩ = _ := HC.out _ p2
      have Hf : Hid (gF xs k = xs.getD (k * 3 + 1) 0) := Lib.hid rfl
      have Ht : Hid (gT xs k = xs.getD (k * 3 + 2) 0) := Lib.hid rfl
      generalize xs.getD (k * 3 + 1) 0 = f at *
      generalize xs.getD (k * 3 + 2) 0 = t at *
      have HSl : Hid (lo xs (k + 1) = min L f) := Lib.hid (by rw [hLR.out.1, ← Hf.out]; rfl)
      have HSr : Hid (hi xs (k + 1) = max R t) := Lib.hid (by rw [hLR.out.2, ← Ht.out]; rfl)
      clear hLR
      go_wp2
      all_goals
        go_round
        case rel => exact ⟨k + 1, _, _, by omega, by go_num, rfl, rfl, Lib.hid ⟨by rw [HSl.out]; omega, by rw [HSr.out]; omega⟩⟩
        case measure => simp [intOf]; omega
    · have hk' : k = n := by omega
      have HF : Hid (L = lo xs n ∧ R = hi xs n) := Lib.hid (by rw [← hk']; exact hLR.out)
      have r1 : IntKind.i64.wrap ((n : Int) - 1) = (n : Int) - 1 := IntWalk.i64_in _ (by omega)
      have r2 : ((n : Int) - 1).toNat = n - 1 := by omega
      have r3 : 0 ≤ (n : Int) - 1 := by omega
      have r4 : (n : Int) - 1 < (n : Int) := by omega
      have r5 : (1 : Int) ≤ (n : Int) := by omega
      clear hk' hLR
      go_wp2
      go_still_tail 22, (by kernel_rfl)
      change wpList _ _ _ _ _ u.drew
      clear r1 r2 d1 d2 d3 e0
      have HBe := Lib.hid HbA.out.drew
      have hg1 := HgA.out
      have c0 : u.drew.cell? ⟨w.heap.size, 0, none⟩ = some (.int .i64 0) := (cell_of_row _ _ _ _ _ _ hg1).trans rfl
      have c1 : u.drew.cell? ⟨w.heap.size, 1, none⟩ = some (.int .i64 0) := (cell_of_row _ _ _ _ _ _ hg1).trans rfl
      have c2 : u.drew.cell? ⟨w.heap.size, 2, none⟩ = some (.int .i64 0) := (cell_of_row _ _ _ _ _ _ hg1).trans rfl
      have c3 : u.drew.cell? ⟨w.heap.size, 3, none⟩ = some (.int .i64 0) := (cell_of_row _ _ _ _ _ _ hg1).trans rfl
      have v0 : u.drew.frozen? ⟨w.heap.size, 0, none⟩ = false := frozen_of_row _ _ 0 _ _ hg1
      have v1 : u.drew.frozen? ⟨w.heap.size, 1, none⟩ = false := frozen_of_row _ _ 1 _ _ hg1
      have v2 : u.drew.frozen? ⟨w.heap.size, 2, none⟩ = false := frozen_of_row _ _ 2 _ _ hg1
      have v3 : u.drew.frozen? ⟨w.heap.size, 3, none⟩ = false := frozen_of_row _ _ 3 _ _ hg1
      clear hg1
      generalize u.drew = v at *
      go_wp2
      exact bodyPost_ret (v := .agg #[.int .i64 L, .int .i64 y0, .int .i64 (R - L), .int .i64 (yn - y0 + 1)]) (by simp [results, Try.results82, go_sem, c0, c1, c2, c3]) rfl ⟨by rw [HF.out.1, HF.out.2, Hy0.out, Hyn.out], by (repeat' (first | (exact HBe.out) | (refine Below.setCell ?_ (by first | omega | (simp; done) | (simp; omega)) _) | (refine below_dn ?_ _) | (refine Below.drew ?_) | (refine Below.alloc ?_ (by first | omega | (simp; done) | (simp; omega)) _) | (exact Below.refl _ _)))⟩
set_option maxHeartbeats 4000000 in
theorem s_BoundsOf (A : Option Addr) (n c B : Nat) (xs : List Int) (w : World) (hx : xs.length = 3 * n) (h : Rds .i64 w B A xs) (hB : B ≤ w.heap.size) (hl : n ≤ 2000000) :
    Calls Try.prog 43 #[.slice A n c] w (BoxOf xs n w) := by
  have HV := Lib.hid (s_validRuns A n c B xs (w.alloc (.cells #[.int .i64 0, .int .i64 0, .int .i64 0, .int .i64 0] 47)) hx (h.alloc hB _) (by simp; omega) hl)
  have HbA : Hid (Below w.heap.size w (w.alloc (.cells #[.int .i64 0, .int .i64 0, .int .i64 0, .int .i64 0] 47))) := Lib.hid ((Below.refl _ _).alloc (Nat.le_refl _) _)
  have HgA : Hid ((w.alloc (.cells #[.int .i64 0, .int .i64 0, .int .i64 0, .int .i64 0] 47)).heap[w.heap.size]? = some (.cells #[.int .i64 0, .int .i64 0, .int .i64 0, .int .i64 0] 47 (0, 0))) := Lib.hid (heap_alloc_new w _)
  have HsA : Hid (w.heap.size < (w.alloc (.cells #[.int .i64 0, .int .i64 0, .int .i64 0, .int .i64 0] 47)).heap.size) := Lib.hid (by simp)
  have Hh := Lib.hid h
  have HX := Lib.hid hx
  clear h hx
  cases hr : regB xs n
  · have HN : Hid (bok xs n = false) := Lib.hid (by unfold bok; rw [hr, Bool.and_false])
    go_enter Try.func43, Try.ntmps43
    go_wp2_with fail
    generalize w.alloc (.cells #[.int .i64 0, .int .i64 0, .int .i64 0, .int .i64 0] 47) = u at *
    refine HV.out.mono ?_
    rintro e w1 ⟨rfl, hb1⟩
    rw [hr]
    have hB1 := Lib.hid (HbA.out.trans (hb1.mono HbA.out.size))
    have hg1 := (hb1.block w.heap.size HsA.out).trans HgA.out
    have c0 : w1.cell? ⟨w.heap.size, 0, none⟩ = some (.int .i64 0) := by rw [cell_of_row _ _ _ _ _ _ hg1]; rfl
    have c1 : w1.cell? ⟨w.heap.size, 1, none⟩ = some (.int .i64 0) := by rw [cell_of_row _ _ _ _ _ _ hg1]; rfl
    have c2 : w1.cell? ⟨w.heap.size, 2, none⟩ = some (.int .i64 0) := by rw [cell_of_row _ _ _ _ _ _ hg1]; rfl
    have c3 : w1.cell? ⟨w.heap.size, 3, none⟩ = some (.int .i64 0) := by rw [cell_of_row _ _ _ _ _ _ hg1]; rfl
    have f0 := frozen_of_row _ _ 0 _ _ hg1
    have f1 := frozen_of_row _ _ 1 _ _ hg1
    have f2 := frozen_of_row _ _ 2 _ _ hg1
    have f3 := frozen_of_row _ _ 3 _ _ hg1
    clear hg1 hb1
    go_wp2
    exact bodyPost_ret (v := .tuple #[.agg #[.int .i64 0, .int .i64 0, .int .i64 0, .int .i64 0], .bool false]) (by simp [results, Try.results43, go_sem, c0, c1, c2, c3]) rfl (boxOf_no HN.out (by (repeat' (first | (exact hB1.out) | (refine Below.setCell ?_ (by first | omega | (simp; done) | (simp; omega)) _) | (refine below_dn ?_ _) | (refine Below.drew ?_) | (refine Below.alloc ?_ (by first | omega | (simp; done) | (simp; omega)) _) | (exact Below.refl _ _)))))
  · by_cases hn0 : n = 0
    · have HN : Hid (bok xs n = false) := Lib.hid (by unfold bok; rw [decide_eq_false (by omega)]; rfl)
      have hz : ((n : Int) == 0) = true := by rw [hn0]; rfl
      clear hn0
      go_enter Try.func43, Try.ntmps43
      go_wp2_with fail
      generalize w.alloc (.cells #[.int .i64 0, .int .i64 0, .int .i64 0, .int .i64 0] 47) = u at *
      refine HV.out.mono ?_
      rintro e w1 ⟨rfl, hb1⟩
      rw [hr]
      have hB1 := Lib.hid (HbA.out.trans (hb1.mono HbA.out.size))
      have hg1 := (hb1.block w.heap.size HsA.out).trans HgA.out
      have c0 : w1.cell? ⟨w.heap.size, 0, none⟩ = some (.int .i64 0) := by rw [cell_of_row _ _ _ _ _ _ hg1]; rfl
      have c1 : w1.cell? ⟨w.heap.size, 1, none⟩ = some (.int .i64 0) := by rw [cell_of_row _ _ _ _ _ _ hg1]; rfl
      have c2 : w1.cell? ⟨w.heap.size, 2, none⟩ = some (.int .i64 0) := by rw [cell_of_row _ _ _ _ _ _ hg1]; rfl
      have c3 : w1.cell? ⟨w.heap.size, 3, none⟩ = some (.int .i64 0) := by rw [cell_of_row _ _ _ _ _ _ hg1]; rfl
      have f0 := frozen_of_row _ _ 0 _ _ hg1
      have f1 := frozen_of_row _ _ 1 _ _ hg1
      have f2 := frozen_of_row _ _ 2 _ _ hg1
      have f3 := frozen_of_row _ _ 3 _ _ hg1
      clear hg1 hb1
      go_wp2
      exact bodyPost_ret (v := .tuple #[.agg #[.int .i64 0, .int .i64 0, .int .i64 0, .int .i64 0], .bool false]) (by simp [results, Try.results43, go_sem, c0, c1, c2, c3]) rfl (boxOf_no HN.out (by (repeat' (first | (exact hB1.out) | (refine Below.setCell ?_ (by first | omega | (simp; done) | (simp; omega)) _) | (refine below_dn ?_ _) | (refine Below.drew ?_) | (refine Below.alloc ?_ (by first | omega | (simp; done) | (simp; omega)) _) | (exact Below.refl _ _)))))
    · have hz : ((n : Int) == 0) = false := beq_eq_false_iff_ne.2 (by omega)
      have hn1 : 0 < n := by omega
      have HN : Hid (bok xs n = true) := Lib.hid (by unfold bok; rw [hr, decide_eq_true hn1]; rfl)
      have HR := Lib.hid (regB_of hr)
      clear hn0
      go_enter Try.func43, Try.ntmps43
      go_wp2_with fail
      generalize w.alloc (.cells #[.int .i64 0, .int .i64 0, .int .i64 0, .int .i64 0] 47) = u at *
      refine HV.out.mono ?_
      rintro e w1 ⟨rfl, hb1⟩
      rw [hr]
      clear hr
      have HB0 := Lib.hid (HbA.out.trans (hb1.mono HbA.out.size))
      have HH1 := Lib.hid (hb1.block w.heap.size HsA.out)
      go_wp2_with fail
      refine (s_boundsOf A n c w1.heap.size xs w1 HX.out ((Hh.out.belowTo HB0.out hB).more (by have := HB0.out.size; omega)) (Nat.le_refl _) hl HR.out hn1).mono ?_
      rintro e w2 ⟨rfl, hb2⟩
      have hB1 := Lib.hid (HB0.out.trans (hb2.mono HB0.out.size))
      have hg1 := (hb2.block w.heap.size (by have := HsA.out; have := hb1.size; omega)).trans (HH1.out.trans HgA.out)
      have c0 : w2.cell? ⟨w.heap.size, 0, none⟩ = some (.int .i64 0) := by rw [cell_of_row _ _ _ _ _ _ hg1]; rfl
      have c1 : w2.cell? ⟨w.heap.size, 1, none⟩ = some (.int .i64 0) := by rw [cell_of_row _ _ _ _ _ _ hg1]; rfl
      have c2 : w2.cell? ⟨w.heap.size, 2, none⟩ = some (.int .i64 0) := by rw [cell_of_row _ _ _ _ _ _ hg1]; rfl
      have c3 : w2.cell? ⟨w.heap.size, 3, none⟩ = some (.int .i64 0) := by rw [cell_of_row _ _ _ _ _ _ hg1]; rfl
      have v0 := frozen_of_row _ _ 0 _ _ hg1
      have v1 := frozen_of_row _ _ 1 _ _ hg1
      have v2 := frozen_of_row _ _ 2 _ _ hg1
      have v3 := frozen_of_row _ _ 3 _ _ hg1
      clear hg1 hb1 hb2
      generalize hL : lo xs n = L at *
      generalize hH : hi xs n - L = HH at *
      generalize hY : gY xs 0 = YY at *
      generalize hZ : gY xs (n - 1) - YY + 1 = ZZ at *
      have EL := Lib.hid hL
      have EH := Lib.hid hH
      have EY := Lib.hid hY
      have EZ := Lib.hid hZ
      clear hL hH hY hZ
      go_wp2
      exact bodyPost_ret (v := .tuple #[.agg #[.int .i64 L, .int .i64 YY, .int .i64 HH, .int .i64 ZZ], .bool true]) (by simp [results, Try.results43, go_sem, c0, c1, c2, c3]) rfl (boxOf_yes HN.out EL.out.symm EY.out.symm (by rw [EL.out]; exact EH.out.symm) (by rw [EY.out]; exact EZ.out.symm) (by (repeat' (first | (exact hB1.out) | (refine Below.setCell ?_ (by first | omega | (simp; done) | (simp; omega)) _) | (refine below_dn ?_ _) | (refine Below.drew ?_) | (refine Below.alloc ?_ (by first | omega | (simp; done) | (simp; omega)) _) | (exact Below.refl _ _)))))
end Go.Proofs.Ytjekhlhnjknbeaa
