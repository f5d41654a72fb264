/- Contract of BoundsOf, in the program. -/
import Derived.Test.YtbjgjjhfnaiocaaDoorBndM
import Derived.Deep.QuietTactic
import Derived.BigQuiet
import Derived.RegionTactic
import Derived.BigRegion
namespace Go.Proofs.YtbjgjjhfnaiocaaDoor
open Go.RowKit
set_option linter.unusedSimpArgs false
set_option linter.unusedVariables false
set_option maxRecDepth 20000

def BoxOf (xs : List Int) (n : Nat) (w : World) (e : Ending) (w' : World) : Prop :=
  e = .returned (.tuple #[.agg #[.int .i64 (bX xs n), .int .i64 (bY xs n), .int .i64 (bW xs n), .int .i64 (bH xs n)], .bool (bok xs n)]) ∧ Below w.heap.size w w'
theorem boxOf_no {xs : List Int} {n : Nat} {w w' : World} (h : bok xs n = false) (hb : Below w.heap.size w w') : BoxOf xs n w (.returned (.tuple #[.agg #[.int .i64 0, .int .i64 0, .int .i64 0, .int .i64 0], .bool false])) w' := by
  obtain ⟨a, b, c, d⟩ := b_no h
  exact ⟨by rw [a, b, c, d, h], hb⟩
theorem boxOf_yes {xs : List Int} {n : Nat} {w w' : World} {a b c d : Int} (h : bok xs n = true) (ha : a = lo xs n) (hb' : b = gY xs 0) (hc : c = hi xs n - lo xs n) (hd : d = gY xs (n - 1) - gY xs 0 + 1) (hb : Below w.heap.size w w') : BoxOf xs n w (.returned (.tuple #[.agg #[.int .i64 a, .int .i64 b, .int .i64 c, .int .i64 d], .bool true])) w' := by
  obtain ⟨e1, e2, e3, e4⟩ := b_yes h
  subst ha hb' hc hd
  exact ⟨by rw [e1, e2, e3, e4, h], hb⟩
set_option maxHeartbeats 8000000 in
theorem i_BoundsOf (A : Option Addr) (n c B : Nat) (xs : List Int) (w : World) (hx : xs.length = 3 * n) (h : Rds .i64 w B A xs) (hB : B ≤ w.heap.size) (hl : n ≤ 2000000) :
    Calls Tryd.prog 18 #[.slice A n c] w (BoxOf xs n w) := by
  have HV := Lib.hid (i_ValidRegion A n c B xs (w.alloc (.cells #[.int .i64 0, .int .i64 0, .int .i64 0, .int .i64 0] 37)) hx (h.alloc hB _) (by simp; omega) hl)
  have HbA : Hid (Below w.heap.size w (w.alloc (.cells #[.int .i64 0, .int .i64 0, .int .i64 0, .int .i64 0] 37))) := Lib.hid ((Below.refl _ _).alloc (Nat.le_refl _) _)
  have HrA := Lib.hid ((h.alloc hB (.cells #[.int .i64 0, .int .i64 0, .int .i64 0, .int .i64 0] 37)).more (show B ≤ (w.alloc (.cells #[.int .i64 0, .int .i64 0, .int .i64 0, .int .i64 0] 37)).heap.size by simp; omega))
  have HgA : Hid ((w.alloc (.cells #[.int .i64 0, .int .i64 0, .int .i64 0, .int .i64 0] 37)).heap[w.heap.size]? = some (.cells #[.int .i64 0, .int .i64 0, .int .i64 0, .int .i64 0] 37 (0, 0))) := Lib.hid (heap_alloc_new w _)
  have HsA : Hid (w.heap.size < (w.alloc (.cells #[.int .i64 0, .int .i64 0, .int .i64 0, .int .i64 0] 37)).heap.size) := Lib.hid (by simp)
  have HX := Lib.hid hx
  clear h hx
  by_cases hn0 : n = 0
  · have HN : Hid (bok xs n = false) := Lib.hid (by unfold bok; rw [decide_eq_false (by omega)]; rfl)
    subst hn0
    go_enter Tryd.func18, Tryd.ntmps18
    go_wp2
    exact bodyPost_ret (v := .tuple #[.agg #[.int .i64 0, .int .i64 0, .int .i64 0, .int .i64 0], .bool false]) (by simp [results, Tryd.results18, go_sem]) rfl (boxOf_no HN.out (by (repeat' (first | (exact Below.refl _ _) | (refine Below.setCell ?_ (by first | omega | (simp; done) | (simp; omega)) _) | (refine below_dn ?_ _) | (refine Below.drew ?_) | (refine Below.alloc ?_ (by first | omega | (simp; done) | (simp; omega)) _) | (exact Below.refl _ _)))))
  · have hz : ((n : Int) == 0) = false := beq_eq_false_iff_ne.2 (by omega)
    have hn1 : 0 < n := by omega
    clear hn0
    cases hr : regB xs n
    · have HN : Hid (bok xs n = false) := Lib.hid (by unfold bok; rw [hr, Bool.and_false])
      go_enter Tryd.func18, Tryd.ntmps18
      go_wp2_with fail
      generalize w.alloc (.cells #[.int .i64 0, .int .i64 0, .int .i64 0, .int .i64 0] 37) = u at *
      refine HV.out.mono ?_
      rintro e w1 ⟨rfl, hb1⟩
      rw [hr]
      have hB1 := Lib.hid (HbA.out.trans (hb1.mono HbA.out.size))
      have hg1 := (hb1.block w.heap.size HsA.out).trans HgA.out
      have c0 : w1.cell? ⟨w.heap.size, 0, none⟩ = some (.int .i64 0) := by rw [cell_of_row _ _ _ _ _ _ hg1]; rfl
      have c1 : w1.cell? ⟨w.heap.size, 1, none⟩ = some (.int .i64 0) := by rw [cell_of_row _ _ _ _ _ _ hg1]; rfl
      have c2 : w1.cell? ⟨w.heap.size, 2, none⟩ = some (.int .i64 0) := by rw [cell_of_row _ _ _ _ _ _ hg1]; rfl
      have c3 : w1.cell? ⟨w.heap.size, 3, none⟩ = some (.int .i64 0) := by rw [cell_of_row _ _ _ _ _ _ hg1]; rfl
      have f0 := frozen_of_row _ _ 0 _ _ hg1
      have f1 := frozen_of_row _ _ 1 _ _ hg1
      have f2 := frozen_of_row _ _ 2 _ _ hg1
      have f3 := frozen_of_row _ _ 3 _ _ hg1
      clear hg1 hb1
      go_wp2
      exact bodyPost_ret (v := .tuple #[.agg #[.int .i64 0, .int .i64 0, .int .i64 0, .int .i64 0], .bool false]) (by simp [results, Tryd.results18, go_sem, c0, c1, c2, c3]) rfl (boxOf_no HN.out (by (repeat' (first | (exact hB1.out) | (refine Below.setCell ?_ (by first | omega | (simp; done) | (simp; omega)) _) | (refine below_dn ?_ _) | (refine Below.drew ?_) | (refine Below.alloc ?_ (by first | omega | (simp; done) | (simp; omega)) _) | (exact Below.refl _ _)))))
    · have HN : Hid (bok xs n = true) := Lib.hid (by unfold bok; rw [hr, decide_eq_true hn1]; rfl)
      have HR := Lib.hid (regB_of hr)
      have s0 : 0 * 3 < xs.length := by have := HX.out; omega
      have s1 : (n - 1) * 3 < xs.length := by have := HX.out; omega
      obtain ⟨b, off, rfl, hb, hc⟩ := HrA.out.cells_ s0
      have d0 := hc 0 (by omega)
      have d1 := hc 1 (by have := HX.out; omega)
      have d2 := hc 2 (by have := HX.out; omega)
      have d3 := hc ((n - 1) * 3) s1
      have HC := Lib.hid hc
      have Hy0 : Hid (gY xs 0 = xs.getD 0 0) := Lib.hid rfl
      have Hf0 : Hid (gF xs 0 = xs.getD 1 0) := Lib.hid rfl
      have Ht0 : Hid (gT xs 0 = xs.getD 2 0) := Lib.hid rfl
      have Hyn : Hid (gY xs (n - 1) = xs.getD ((n - 1) * 3) 0) := Lib.hid rfl
      obtain ⟨⟨y00, y01⟩, ⟨f00, f01⟩, t00, t01⟩ := reg_bd HR.out hn1
      obtain ⟨⟨yn0, yn1⟩, _, _⟩ := reg_bd HR.out (show n - 1 < n by omega)
      rw [Hy0.out] at y00 y01
      rw [Hf0.out] at f00 f01
      rw [Ht0.out] at t00 t01
      rw [Hyn.out] at yn0 yn1
      have Hlo0 : Hid (lo xs 0 = xs.getD 1 0) := Lib.hid rfl
      have Hhi0 : Hid (hi xs 0 = xs.getD 2 0) := Lib.hid rfl
      clear hc
      generalize xs.getD 0 0 = y0 at *
      generalize xs.getD 1 0 = f0 at *
      generalize xs.getD 2 0 = t0 at *
      generalize xs.getD ((n - 1) * 3) 0 = yn at *
      go_enter Tryd.func18, Tryd.ntmps18
      go_wp2_with fail
      generalize w.alloc (.cells #[.int .i64 0, .int .i64 0, .int .i64 0, .int .i64 0] 37) = u at *
      refine HV.out.mono ?_
      rintro e w1 ⟨rfl, hb1⟩
      rw [hr]
      clear hr
      have e0 : w1.cell? ⟨b, off, none⟩ = some (.int .i64 y0) := (hb1.cell (p := ⟨b, off, none⟩) hb).trans d0
      have e1 : w1.cell? ⟨b, off + 1, none⟩ = some (.int .i64 f0) := (hb1.cell (p := ⟨b, off + 1, none⟩) hb).trans d1
      have e2 : w1.cell? ⟨b, off + 2, none⟩ = some (.int .i64 t0) := (hb1.cell (p := ⟨b, off + 2, none⟩) hb).trans d2
      have e3 : w1.cell? ⟨b, off + (n - 1) * 3, none⟩ = some (.int .i64 yn) := (hb1.cell (p := ⟨b, off + (n - 1) * 3, none⟩) hb).trans d3
      have HB1 := Lib.hid hb1
      clear d0 d1 d2 d3 hb1
      have r1 : IntKind.i64.wrap ((n : Int) - 1) = (n : Int) - 1 := IntWalk.i64_in _ (by omega)
      have r2 : ((n : Int) - 1).toNat = n - 1 := by omega
      have r3 : 0 ≤ (n : Int) - 1 := by omega
      have r4 : (n : Int) - 1 < (n : Int) := by omega
      have r5 : (1 : Int) ≤ (n : Int) := by omega
      go_wp2
      go_quiet (fail)
      go_wp2
      go_quiet (fail)
      clear r1 r2 e0 e1 e2 e3
      have HB2 := Lib.hid (fun m => bel_dn HB1.out m)
      have HLo := Lib.hid (fun k hk => lohi_bd HR.out hn1 k hk)
      go_wp2
      go_loopw [40, 6, 7] (fun i l r wr => ∃ (k : Nat) (L R : Int), k ≤ n ∧ i = .int .i64 k ∧ l = .int .i64 L ∧ r = .int .i64 R ∧ Hid (L = lo xs k ∧ R = hi xs k) ∧ Below u.heap.size u wr) (fun i _ _ _ => n - (intOf i).toNat)
      case atStart => exact ⟨0, f0, t0, Nat.zero_le _, rfl, rfl, rfl, Lib.hid ⟨Hlo0.out.symm, Hhi0.out.symm⟩, HB2.out _⟩
      case round =>
        obtain ⟨k, L, R, hk, rfl, rfl, rfl, hLR, hbel⟩ := hrel
        obtain ⟨⟨l0, l1⟩, q0, q1⟩ := HLo.out k hk
        rw [← hLR.out.1] at l0 l1
        rw [← hLR.out.2] at q0 q1
        by_cases hlt : k < n
        · obtain ⟨p0, p1, p2⟩ := trio hlt HX.out
          have hc0 := (hbel.cell (p := ⟨b, off + k * 3, none⟩) hb).trans (HC.out _ p0)
          have hc1 := (hbel.cell (p := ⟨b, off + k * 3 + 1, none⟩) hb).trans (HC.out _ p1)
          have hc2 := (hbel.cell (p := ⟨b, off + k * 3 + 2, none⟩) hb).trans (HC.out _ p2)
          have Hf : Hid (gF xs k = xs.getD (k * 3 + 1) 0) := Lib.hid rfl
          have Ht : Hid (gT xs k = xs.getD (k * 3 + 2) 0) := Lib.hid rfl
          generalize xs.getD (k * 3) 0 = y at *
          generalize xs.getD (k * 3 + 1) 0 = f at *
          generalize xs.getD (k * 3 + 2) 0 = t at *
          have HSl : Hid (lo xs (k + 1) = min L f) := Lib.hid (by rw [hLR.out.1, ← Hf.out]; rfl)
          have HSr : Hid (hi xs (k + 1) = max R t) := Lib.hid (by rw [hLR.out.2, ← Ht.out]; rfl)
          have Hbu := Lib.hid (hbel.alloc hbel.size (.cells #[.int .i64 y, .int .i64 f, .int .i64 t] 35))
          have Hg : Hid ((wr.alloc (.cells #[.int .i64 y, .int .i64 f, .int .i64 t] 35)).heap[wr.heap.size]? = some (.cells #[.int .i64 y, .int .i64 f, .int .i64 t] 35 (0, 0))) := Lib.hid (heap_alloc_new wr _)
          clear hbel hLR
          go_wp2
          generalize wr.alloc (.cells #[.int .i64 y, .int .i64 f, .int .i64 t] 35) = v at *
          have g1 : v.cell? ⟨wr.heap.size, 1, none⟩ = some (.int .i64 f) := by rw [cell_of_row _ _ _ _ _ _ Hg.out]; rfl
          have g2 : v.cell? ⟨wr.heap.size, 2, none⟩ = some (.int .i64 t) := by rw [cell_of_row _ _ _ _ _ _ Hg.out]; rfl
          clear hc0 hc1 hc2
          have HBn := Lib.hid (fun m => bel_dn Hbu.out m)
          by_cases h1 : f < L
          · by_cases h2 : R < t
            · go_quiet (fail)
              go_wp2
              go_roundw
              case rel => exact ⟨k + 1, f, t, by omega, by go_num, rfl, rfl, Lib.hid ⟨by rw [HSl.out]; omega, by rw [HSr.out]; omega⟩, HBn.out _⟩
              case measure => simp [intOf]; omega
            · go_quiet (fail)
              go_wp2
              go_roundw
              case rel => exact ⟨k + 1, f, R, by omega, by go_num, rfl, rfl, Lib.hid ⟨by rw [HSl.out]; omega, by rw [HSr.out]; omega⟩, HBn.out _⟩
              case measure => simp [intOf]; omega
          · by_cases h2 : R < t
            · go_quiet (fail)
              go_wp2
              go_roundw
              case rel => exact ⟨k + 1, L, t, by omega, by go_num, rfl, rfl, Lib.hid ⟨by rw [HSl.out]; omega, by rw [HSr.out]; omega⟩, HBn.out _⟩
              case measure => simp [intOf]; omega
            · go_quiet (fail)
              go_wp2
              go_roundw
              case rel => exact ⟨k + 1, L, R, by omega, by go_num, rfl, rfl, Lib.hid ⟨by rw [HSl.out]; omega, by rw [HSr.out]; omega⟩, HBn.out _⟩
              case measure => simp [intOf]; omega
        · have hk' : k = n := by omega
          have HF : Hid (L = lo xs n ∧ R - L = hi xs n - lo xs n) := Lib.hid (by rw [← hk']; exact ⟨hLR.out.1, by rw [hLR.out.1, hLR.out.2]⟩)
          have hg1 := (hbel.block w.heap.size HsA.out).trans HgA.out
          have c0 : wr.cell? ⟨w.heap.size, 0, none⟩ = some (.int .i64 0) := by rw [cell_of_row _ _ _ _ _ _ hg1]; rfl
          have c1 : wr.cell? ⟨w.heap.size, 1, none⟩ = some (.int .i64 0) := by rw [cell_of_row _ _ _ _ _ _ hg1]; rfl
          have c2 : wr.cell? ⟨w.heap.size, 2, none⟩ = some (.int .i64 0) := by rw [cell_of_row _ _ _ _ _ _ hg1]; rfl
          have c3 : wr.cell? ⟨w.heap.size, 3, none⟩ = some (.int .i64 0) := by rw [cell_of_row _ _ _ _ _ _ hg1]; rfl
          have v0 := frozen_of_row _ _ 0 _ _ hg1
          have v1 := frozen_of_row _ _ 1 _ _ hg1
          have v2 := frozen_of_row _ _ 2 _ _ hg1
          have v3 := frozen_of_row _ _ 3 _ _ hg1
          have HBe := Lib.hid (HbA.out.trans (hbel.mono HbA.out.size))
          clear hg1 hk' hbel hLR
          go_wp2
          exact bodyPost_ret (v := .tuple #[.agg #[.int .i64 L, .int .i64 y0, .int .i64 (R - L), .int .i64 (yn - y0 + 1)], .bool true]) (by simp [results, Tryd.results18, go_sem, c0, c1, c2, c3]) rfl (boxOf_yes HN.out HF.out.1 Hy0.out.symm HF.out.2 (by rw [Hy0.out, Hyn.out]) (by (repeat' (first | (exact HBe.out) | (refine Below.setCell ?_ (by first | omega | (simp; done) | (simp; omega)) _) | (refine below_dn ?_ _) | (refine Below.drew ?_) | (refine Below.alloc ?_ (by first | omega | (simp; done) | (simp; omega)) _) | (exact Below.refl _ _)))))
end Go.Proofs.YtbjgjjhfnaiocaaDoor
