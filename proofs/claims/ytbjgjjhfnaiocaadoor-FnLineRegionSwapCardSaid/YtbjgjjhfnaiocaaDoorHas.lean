/- Contracts of RegionHas, in the program. -/
import Derived.Test.YtbjgjjhfnaiocaaDoorReg2
import Derived.Test.YtbjgjjhfnaiocaaDoorReg3
import Derived.Shelf.Abstract
import Derived.Laws.EntriesVeiled
namespace Go.Proofs.YtbjgjjhfnaiocaaDoor
open Go.RowKit
set_option linter.unusedSimpArgs false
set_option linter.unusedVariables false
set_option maxRecDepth 20000

/-- Whether a run has the pixel in column x and row y. -/
def runB (y0 f t x y : Int) : Bool := decide (y = y0) && decide (f ≤ x ∧ x ≤ t - 1)
/-- Whether one of the first k runs has it. -/
def rh (xs : List Int) (x y : Int) : Nat → Bool
  | 0 => false
  | k + 1 => rh xs x y k || runB (gY xs k) (gF xs k) (gT xs k) x y
def rhas (xs : List Int) (n : Nat) (x y : Int) : Bool := regB xs n && rh xs x y n
theorem rh_hit {xs : List Int} {x y : Int} {n j : Nat} (hj : j < n) (h : runB (gY xs j) (gF xs j) (gT xs j) x y = true) : rh xs x y n = true := by
  induction n with
  | zero => omega
  | succ k ih =>
    unfold rh
    by_cases e : j = k
    · subst e; rw [h, Bool.or_true]
    · rw [ih (by omega), Bool.true_or]
theorem rh_miss {xs : List Int} {x y : Int} {k : Nat} (h0 : rh xs x y k = false) (h : runB (gY xs k) (gF xs k) (gT xs k) x y = false) : rh xs x y (k + 1) = false := by unfold rh; rw [h0, h]; rfl
theorem bnds {xs : List Int} {n k : Nat} (h : reg xs n) (hk : k < n) : (0 ≤ gY xs k ∧ gY xs k ≤ 15) ∧ (0 ≤ gF xs k ∧ gF xs k ≤ 15) ∧ (gF xs k + 1 ≤ gT xs k ∧ gT xs k ≤ 16) := vrunB_bd (regAt_parts (h k hk)).1
set_option maxHeartbeats 4000000 in
theorem runHas_any (y0 f t x y : Int) (w : World) (ht : 0 ≤ t ∧ t ≤ 100) :
    Calls Tryd.prog 38 #[.agg #[.int .i64 y0, .int .i64 f, .int .i64 t], .int .i64 x, .int .i64 y] w fun e w' => e = .returned (.bool (runB y0 f t x y)) ∧ Below w.heap.size w w' := by
  obtain ⟨ht0, ht1⟩ := ht
  by_cases h : y = y0
  · have h' : (y == y0) = true := by rw [h]; simp
    have HE : Hid (runB y0 f t x y = decide (f ≤ x ∧ x ≤ t - 1)) := Lib.hid (by unfold runB; rw [decide_eq_true h, Bool.true_and])
    clear h
    go_enter Tryd.func38, Tryd.ntmps38
    go_wp2_with fail
    refine (iIr_any x f (t - 1) _).mono ?_
    rintro e w' ⟨rfl, rfl⟩
    rw [← HE.out]
    go_wp2
    go_ret
    exact ⟨rfl, by (repeat' (first | (exact Below.refl _ _) | (refine Below.setCell ?_ (by first | omega | (simp; done) | (simp; omega)) _) | (refine below_dn ?_ _) | (refine Below.drew ?_) | (refine Below.alloc ?_ (by first | omega | (simp; done) | (simp; omega)) _) | (exact Below.refl _ _)))⟩
  · have h' : (y == y0) = false := beq_eq_false_iff_ne.2 h
    have HE : Hid (runB y0 f t x y = false) := Lib.hid (by unfold runB; rw [decide_eq_false h, Bool.false_and])
    clear h
    go_enter Tryd.func38, Tryd.ntmps38
    go_wp2
    go_ret
    exact ⟨ret_bool HE.out.symm, by (repeat' (first | (exact Below.refl _ _) | (refine Below.setCell ?_ (by first | omega | (simp; done) | (simp; omega)) _) | (refine below_dn ?_ _) | (refine Below.drew ?_) | (refine Below.alloc ?_ (by first | omega | (simp; done) | (simp; omega)) _) | (exact Below.refl _ _)))⟩
set_option maxHeartbeats 4000000 in
theorem has1_any (y0 f t x y : Int) (px py : Nat) (w : World) (ht : 0 ≤ t ∧ t ≤ 100) (hx : w.cell? ⟨px, 0, none⟩ = some (.int .i64 x)) (hy : w.cell? ⟨py, 0, none⟩ = some (.int .i64 y)) (lx : px < w.heap.size) (ly : py < w.heap.size) :
    Calls Tryd.prog 37 #[.agg #[.int .i64 y0, .int .i64 f, .int .i64 t], .pointer (some ⟨px, 0, none⟩), .pointer (some ⟨py, 0, none⟩)] w fun e w' => e = .returned (.bool (runB y0 f t x y)) ∧ Below w.heap.size w w' := by
  have HB := Lib.hid ((Below.refl w.heap.size w).alloc (Nat.le_refl _) (.cells #[.int .i64 y0, .int .i64 f, .int .i64 t] 35))
  go_enter Tryd.func37, Tryd.ntmps37
  go_wp2_with fail
  refine (runHas_any y0 f t x y _ ht).mono ?_
  rintro e w' ⟨rfl, hb⟩
  have HE := Lib.hid (HB.out.trans (hb.mono HB.out.size))
  clear hb
  go_wp2
  go_ret
  exact ⟨rfl, HE.out⟩
/-- The place of a run that has the pixel, -1 for none. -/
def Found (b : Bool) (w : World) (e : Ending) (w' : World) : Prop := ∃ r : Int, e = .returned (.int .i64 r) ∧ decide (r ≥ 0) = b ∧ Below w.heap.size w w'
set_option maxHeartbeats 4000000 in
theorem index_any (A : Option Addr) (n c : Nat) (xs : List Int) (x y : Int) (px py : Nat) (w : World) (hx : xs.length = 3 * n) (h : Rds .i64 w w.heap.size A xs) (hr : reg xs n) (hl : n ≤ 2000000) (cx : w.cell? ⟨px, 0, none⟩ = some (.int .i64 x)) (cy : w.cell? ⟨py, 0, none⟩ = some (.int .i64 y)) (lx : px < w.heap.size) (ly : py < w.heap.size) :
    Calls Tryd.prog 54 #[.slice A n c, .func (.func 37) #[] #[.pointer (some ⟨px, 0, none⟩), .pointer (some ⟨py, 0, none⟩)]] w (Found (rh xs x y n) w) := by
  have Hh := Lib.hid h
  have HX := Lib.hid hx
  have HR := Lib.hid hr
  have eg : ∀ args w, (callFunc 37 args).run Tryd.prog w = .ok (.enter 37 args) w := enters_of Tryd.func37 (by kernel_rfl) rfl
  have Hcx := Lib.hid cx
  have Hcy := Lib.hid cy
  clear h hx hr cx cy
  go_enter Tryd.func54, Tryd.ntmps54
  go_wp2
  go_loopw [8] (fun i wr => ∃ k : Nat, k ≤ n ∧ i = .int .i64 k ∧ Hid (rh xs x y k = false) ∧ Below w.heap.size w wr) (fun i _ => n - (intOf i).toNat)
  case atStart => exact ⟨0, Nat.zero_le _, rfl, Lib.hid rfl, Below.refl _ _⟩
  case round =>
    obtain ⟨k, hk, rfl, hT, hbel⟩ := hrel
    by_cases hlt : k < n
    · obtain ⟨t0, t1, t2⟩ := trio hlt HX.out
      obtain ⟨b, off, rfl, hb, hc⟩ := Hh.out.cells_ t0
      have hc0 := (hbel.cell (p := ⟨b, off + k * 3, none⟩) hb).trans (hc _ t0)
      have hc1 := (hbel.cell (p := ⟨b, off + k * 3 + 1, none⟩) hb).trans (hc _ t1)
      have hc2 := (hbel.cell (p := ⟨b, off + k * 3 + 2, none⟩) hb).trans (hc _ t2)
      have Hx1 := Lib.hid ((hbel.cell (p := ⟨px, 0, none⟩) lx).trans Hcx.out)
      have Hy1 := Lib.hid ((hbel.cell (p := ⟨py, 0, none⟩) ly).trans Hcy.out)
      have Hy : Hid (gY xs k = xs.getD (k * 3) 0) := Lib.hid rfl
      have Hf : Hid (gF xs k = xs.getD (k * 3 + 1) 0) := Lib.hid rfl
      have Ht : Hid (gT xs k = xs.getD (k * 3 + 2) 0) := Lib.hid rfl
      have hbd := bnds HR.out hlt
      rw [Ht.out, Hf.out] at hbd
      obtain ⟨_, ⟨bf0, bf1⟩, bt0, bt1⟩ := hbd
      clear hc
      generalize xs.getD (k * 3) 0 = y0 at *
      generalize xs.getD (k * 3 + 1) 0 = f at *
      generalize xs.getD (k * 3 + 2) 0 = t at *
      cases hv : runB y0 f t x y
      · have HN : Hid (rh xs x y (k + 1) = false) := Lib.hid (rh_miss hT.out (by rw [Hy.out, Hf.out, Ht.out]; exact hv))
        go_wp2_with fail
        refine (has1_any y0 f t x y px py wr (by omega) Hx1.out Hy1.out (by have := hbel.size; omega) (by have := hbel.size; omega)).mono ?_
        rintro e w2 ⟨rfl, hB2⟩
        rw [hv]
        have hb2 := hbel.trans (hB2.mono hbel.size)
        clear hB2 hbel
        go_wp2
        go_roundw
        case rel => exact ⟨k + 1, by omega, by go_num, HN, hb2⟩
        case measure => simp [intOf]; omega
      · have HN : Hid (rh xs x y n = true) := Lib.hid (rh_hit hlt (by rw [Hy.out, Hf.out, Ht.out]; exact hv))
        go_wp2_with fail
        refine (has1_any y0 f t x y px py wr (by omega) Hx1.out Hy1.out (by have := hbel.size; omega) (by have := hbel.size; omega)).mono ?_
        rintro e w2 ⟨rfl, hB2⟩
        rw [hv]
        have hb2 := hbel.trans (hB2.mono hbel.size)
        clear hB2 hbel
        go_wp2
        go_ret
        exact ⟨k, rfl, by rw [HN.out]; exact decide_eq_true (by omega), hb2⟩
    · have hk' : k = n := by omega
      have HN : Hid (rh xs x y n = false) := Lib.hid (by rw [← hk']; exact hT.out)
      clear hk'
      go_wp2
      go_ret
      exact ⟨-1, rfl, by rw [HN.out]; rfl, hbel⟩
set_option maxHeartbeats 4000000 in
theorem contains_any (A : Option Addr) (n c : Nat) (xs : List Int) (x y : Int) (px py : Nat) (w : World) (hx : xs.length = 3 * n) (h : Rds .i64 w w.heap.size A xs) (hr : reg xs n) (hl : n ≤ 2000000) (cx : w.cell? ⟨px, 0, none⟩ = some (.int .i64 x)) (cy : w.cell? ⟨py, 0, none⟩ = some (.int .i64 y)) (lx : px < w.heap.size) (ly : py < w.heap.size) :
    Calls Tryd.prog 36 #[.slice A n c, .func (.func 37) #[] #[.pointer (some ⟨px, 0, none⟩), .pointer (some ⟨py, 0, none⟩)]] w fun e w' => e = .returned (.bool (rh xs x y n)) ∧ Below w.heap.size w w' := by
  have H := Lib.hid (index_any A n c xs x y px py w hx h hr hl cx cy lx ly)
  clear h hr cx cy
  go_enter Tryd.func36, Tryd.ntmps36
  go_wp2_with fail
  refine H.out.mono ?_
  rintro e w' ⟨r, rfl, hd, hb⟩
  have HD := Lib.hid hd
  clear hd
  go_wp2
  go_ret
  exact ⟨ret_bool HD.out, hb⟩
set_option maxHeartbeats 4000000 in
theorem i_RegionHas (A : Option Addr) (n c B : Nat) (xs : List Int) (x y : Int) (w : World) (hx : xs.length = 3 * n) (h : Rds .i64 w B A xs) (hB : B ≤ w.heap.size) (hl : n ≤ 2000000) :
    Calls Tryd.prog 15 #[.slice A n c, .int .i64 x, .int .i64 y] w fun e w' => e = .returned (.bool (rhas xs n x y)) ∧ Below w.heap.size w w' := by
  obtain ⟨u, hu⟩ : ∃ u, u = (w.alloc (.cells #[.int .i64 x] 3)).alloc (.cells #[.int .i64 y] 3) := ⟨_, rfl⟩
  have HbU : Hid (Below w.heap.size w u) := Lib.hid (by rw [hu]; exact ((Below.refl _ _).alloc (Nat.le_refl _) _).alloc (by simp) _)
  have HzU : Hid (u.heap.size = w.heap.size + 2) := Lib.hid (by rw [hu]; simp)
  have HxU : Hid (u.cell? ⟨w.heap.size, 0, none⟩ = some (.int .i64 x)) := Lib.hid (by rw [hu]; simp)
  have HyU : Hid (u.cell? ⟨w.heap.size + 1, 0, none⟩ = some (.int .i64 y)) := Lib.hid (by rw [hu]; have h1 := heap_alloc_new (w.alloc (.cells #[.int .i64 x] 3)) (.cells #[.int .i64 y] 3); rw [show (w.alloc (.cells #[.int .i64 x] 3)).heap.size = w.heap.size + 1 by simp] at h1; rw [cell_of_row _ _ _ _ _ _ h1]; rfl)
  have HRU := Lib.hid ((h.belowTo HbU.out hB).more (show B ≤ u.heap.size by have := HzU.out; omega))
  have HV := Lib.hid (i_ValidRegion A n c u.heap.size xs u hx HRU.out (Nat.le_refl _) hl)
  have HU := Lib.hid hu
  have HX := Lib.hid hx
  clear hu h hx
  cases hr : regB xs n
  · have HN : Hid (rhas xs n x y = false) := Lib.hid (by unfold rhas; rw [hr, Bool.false_and])
    go_enter Tryd.func15, Tryd.ntmps15
    go_wp2_with fail
    rw [← HU.out]
    refine HV.out.mono ?_
    rintro e w1 ⟨rfl, hb1⟩
    rw [hr]
    have HE := Lib.hid (HbU.out.trans (hb1.mono HbU.out.size))
    clear hb1
    go_wp2
    go_ret
    exact ⟨ret_bool HN.out.symm, HE.out⟩
  · have HN : Hid (rhas xs n x y = rh xs x y n) := Lib.hid (by unfold rhas; rw [hr, Bool.true_and])
    have HR := Lib.hid (regB_of hr)
    go_enter Tryd.func15, Tryd.ntmps15
    go_wp2_with fail
    rw [← HU.out]
    refine HV.out.mono ?_
    rintro e w1 ⟨rfl, hb1⟩
    rw [hr]
    clear hr
    have HE := Lib.hid (HbU.out.trans (hb1.mono HbU.out.size))
    have HC := Lib.hid (contains_any A n c xs x y w.heap.size (w.heap.size + 1) w1 HX.out ((HRU.out.below hb1).more hb1.size) HR.out hl ((hb1.cell (p := ⟨w.heap.size, 0, none⟩) (by have := HzU.out; show w.heap.size < _; omega)).trans HxU.out) ((hb1.cell (p := ⟨w.heap.size + 1, 0, none⟩) (by have := HzU.out; show w.heap.size + 1 < _; omega)).trans HyU.out) (by have := HzU.out; have := hb1.size; omega) (by have := HzU.out; have := hb1.size; omega))
    clear hb1
    go_wp2_with fail
    refine HC.out.mono ?_
    rintro e w2 ⟨rfl, hb2⟩
    rw [← HN.out]
    have HE2 := Lib.hid (HE.out.trans (hb2.mono HE.out.size))
    clear hb2
    go_wp2
    go_ret
    exact ⟨rfl, HE2.out⟩
end Go.Proofs.YtbjgjjhfnaiocaaDoor
