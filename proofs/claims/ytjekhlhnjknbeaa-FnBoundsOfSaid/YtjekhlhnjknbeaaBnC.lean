/- The bounds of a region, and what the boxes of their sides have in common with it. -/
import Derived.Test.YtjekhlhnjknbeaaCmbL
import Derived.Test.YtjekhlhnjknbeaaAreM
import Derived.Test.YtjekhlhnjknbeaaBnd
import Derived.Test.YtjekhlhnjknbeaaBndS
namespace Go.Proofs.Ytjekhlhnjknbeaa
open Go.RowKit Go.Shelf
set_option linter.unusedSimpArgs false
set_option linter.unusedVariables false

theorem rh_ex {xs : List Int} {x y : Int} : ∀ n, rh xs x y n = true → ∃ j, j < n ∧ y = gY xs j ∧ gF xs j ≤ x ∧ x < gT xs j
  | 0, h => by simp [rh] at h
  | n + 1, h => by
    unfold rh at h
    rcases Bool.or_eq_true_iff.1 h with h | h
    · obtain ⟨j, hj, r⟩ := rh_ex n h
      exact ⟨j, by omega, r⟩
    · simp only [runB, Bool.and_eq_true, decide_eq_true_eq] at h
      exact ⟨n, by omega, h.1, h.2.1, by omega⟩
theorem rh_at {xs : List Int} {x y : Int} {n j : Nat} (hj : j < n) (h0 : y = gY xs j) (h1 : gF xs j ≤ x) (h2 : x < gT xs j) : rh xs x y n = true :=
  rh_hit hj (by simp only [runB, Bool.and_eq_true, decide_eq_true_eq]; exact ⟨h0, h1, by omega⟩)
theorem rh_brow {x y bw px py : Int} {N : Nat} (h0 : y ≤ py ∧ py < y + N) (h1 : x ≤ px ∧ px < x + bw) : rh (brow x y bw N) px py N = true := by
  have hj : (py - y).toNat < N := by omega
  exact rh_at hj (by rw [brow_Y hj]; omega) (by rw [brow_F hj]; omega) (by rw [brow_T hj]; omega)
theorem brN_yes' {x y bw bh : Int} (h : ftB x y bw bh 16 16 = true) : brN x y bw bh = bh.toNat := by unfold brN; rw [h, if_pos rfl]
theorem rh_box {x y bw bh px py : Int} (h : ftB x y bw bh 16 16 = true) (h0 : y ≤ py ∧ py < y + bh) (h1 : x ≤ px ∧ px < x + bw) : rh (brL x y bw bh) px py (brN x y bw bh) = true := by
  unfold brL
  rw [brN_yes' h]
  exact rh_brow (by omega) h1
theorem rnN_none {G : Nat → Nat → Bool} (h : ∀ x y, x < 16 → y < 16 → G x y = false) : rnN G = 0 := by
  have e : rnL G = rnL (fun _ _ => false) := rnL_congr h
  unfold rnN; rw [e]; decide +kernel
theorem rnN_some {G : Nat → Nat → Bool} {x y : Nat} (hx : x < 16) (hy : y < 16) (h : G x y = true) : 0 < rnN G := by
  rcases Nat.eq_zero_or_pos (rnN G) with e | e
  · have := rnL_has G hx hy
    rw [e, h] at this
    simp [rh] at this
  · exact e
theorem ftB_yes {x y bw bh : Int} (h : (0 ≤ x ∧ x ≤ 15) ∧ (1 ≤ bw ∧ x + bw ≤ 16) ∧ (0 ≤ y ∧ y ≤ 15) ∧ (1 ≤ bh ∧ y + bh ≤ 16)) : ftB x y bw bh 16 16 = true := by
  simp only [ftB, Bool.and_eq_true, decide_eq_true_eq]
  omega
theorem br_reg {x y bw bh : Int} (h : ftB x y bw bh 16 16 = true) : reg (brL x y bw bh) (brN x y bw bh) := regB_of (box_law h).1
/-- A box that has all pixels of a region leaves none of them. -/
theorem cb_none {xs : List Int} {n : Nat} {x y bw bh : Int} (hr : reg xs n) (h : ftB x y bw bh 16 16 = true) (hin : ∀ j, j < n → (y ≤ gY xs j ∧ gY xs j < y + bh) ∧ x ≤ gF xs j ∧ gT xs j ≤ x + bw) :
    cbN 2 xs n (brL x y bw bh) (brN x y bw bh) = 0 := by
  unfold cbN
  cases cmbOk 2 xs n (brL x y bw bh) (brN x y bw bh)
  · rfl
  · show rnN _ = 0
    refine rnN_none (fun px py hx hy => ?_)
    unfold cmbG
    cases e : rh xs px py n
    · simp [krule]
    · obtain ⟨j, hj, e0, e1, e2⟩ := rh_ex n e
      obtain ⟨⟨i0, i1⟩, i2, i3⟩ := hin j hj
      rw [rh_box h (by omega) (by omega)]
      simp [krule]
theorem cb_some {xs : List Int} {n : Nat} {x y bw bh : Int} (hr : reg xs n) (h : ftB x y bw bh 16 16 = true) {j : Nat} (hj : j < n) {p : Int} (hp : gF xs j ≤ p ∧ p < gT xs j) (h0 : y ≤ gY xs j ∧ gY xs j < y + bh) (h1 : x ≤ p ∧ p < x + bw) :
    0 < cbN 1 xs n (brL x y bw bh) (brN x y bw bh) := by
  have hk := cmbOk_yes (k := 1) hr (br_reg h) (by omega)
  obtain ⟨b0, b1, b2⟩ := bnds hr hj
  rw [(cb_yes hk).2.1]
  refine rnN_some (x := p.toNat) (y := (gY xs j).toNat) (by omega) (by omega) ?_
  unfold cmbG
  rw [show ((p.toNat : Nat) : Int) = p by omega, show (((gY xs j).toNat : Nat) : Int) = gY xs j by omega, rh_at hj rfl hp.1 hp.2, rh_box h h0 h1]
  simp [krule]
theorem lo_ex {xs : List Int} : ∀ k, 0 < k → ∃ j, j < k ∧ gF xs j = lo xs k
  | 1, _ => ⟨0, by omega, by show _ = min (gF xs 0) (gF xs 0); omega⟩
  | k + 2, _ => by
    obtain ⟨j, hj, e⟩ := lo_ex (xs := xs) (k + 1) (by omega)
    show ∃ j, j < k + 2 ∧ gF xs j = min (lo xs (k + 1)) (gF xs (k + 1))
    by_cases h : lo xs (k + 1) ≤ gF xs (k + 1)
    · exact ⟨j, by omega, by rw [e]; omega⟩
    · exact ⟨k + 1, by omega, by omega⟩
theorem hi_ex {xs : List Int} : ∀ k, 0 < k → ∃ j, j < k ∧ gT xs j = hi xs k
  | 1, _ => ⟨0, by omega, by show _ = max (gT xs 0) (gT xs 0); omega⟩
  | k + 2, _ => by
    obtain ⟨j, hj, e⟩ := hi_ex (xs := xs) (k + 1) (by omega)
    show ∃ j, j < k + 2 ∧ gT xs j = max (hi xs (k + 1)) (gT xs (k + 1))
    by_cases h : gT xs (k + 1) ≤ hi xs (k + 1)
    · exact ⟨j, by omega, by rw [e]; omega⟩
    · exact ⟨k + 1, by omega, by omega⟩
theorem gY_up {xs : List Int} {n : Nat} (h : reg xs n) (j : Nat) : ∀ d, j + d < n → gY xs j ≤ gY xs (j + d)
  | 0, _ => Int.le_refl _
  | d + 1, hk => by
    have ih := gY_up h j d (by omega)
    have hf := of_decide_eq_true ((regAt_parts (h (j + (d + 1)) hk)).2 (by omega))
    rw [show j + (d + 1) - 1 = j + d by omega] at hf
    omega
theorem gY_last {xs : List Int} {n : Nat} (h : reg xs n) (j : Nat) (hj : j < n) : gY xs j ≤ gY xs (n - 1) := by
  have := gY_up h j (n - 1 - j) (by omega)
  rwa [show j + (n - 1 - j) = n - 1 by omega] at this
/-- The bounds and the four boxes of their sides. -/
theorem bnd_law {xs : List Int} {n : Nat} (hr : reg xs n) (hn : 0 < n) {X Y W H : Int} (hX : X = lo xs n) (hY : Y = gY xs 0) (hW : W = hi xs n - lo xs n) (hH : H = gY xs (n - 1) - gY xs 0 + 1) :
    ((0 ≤ X ∧ X ≤ 15) ∧ (1 ≤ W ∧ X + W ≤ 16) ∧ (0 ≤ Y ∧ Y ≤ 15) ∧ (1 ≤ H ∧ Y + H ≤ 16)) ∧
    cbN 2 xs n (brL X Y W H) (brN X Y W H) = 0 ∧ 0 < cbN 1 xs n (brL X Y 1 H) (brN X Y 1 H) ∧ 0 < cbN 1 xs n (brL X Y W 1) (brN X Y W 1) ∧
    0 < cbN 1 xs n (brL (X + W - 1) Y 1 H) (brN (X + W - 1) Y 1 H) ∧ 0 < cbN 1 xs n (brL X (Y + H - 1) W 1) (brN X (Y + H - 1) W 1) := by
  obtain ⟨l0, l1⟩ := lohi_bd hr hn n (Nat.le_refl _)
  have hm := gY_mono hr
  have hb0 := bnds hr hn
  have hbn := bnds hr (show n - 1 < n by omega)
  have hmn := hm (n - 1) (by omega)
  obtain ⟨jl, hjl, el⟩ := lo_ex (xs := xs) n hn
  obtain ⟨jh, hjh, eh⟩ := hi_ex (xs := xs) n hn
  have hlb := bnds hr hjl
  have hhb := bnds hr hjh
  have li0 := lohi_in (xs := xs) n 0 hn
  have lin' := lohi_in (xs := xs) n (n - 1) (by omega)
  have lil := lohi_in (xs := xs) n jl hjl
  have lih := lohi_in (xs := xs) n jh hjh
  have top : ∀ j, j < n → gY xs j ≤ gY xs (n - 1) := fun j hj => gY_last hr j hj
  have bd : (0 ≤ X ∧ X ≤ 15) ∧ (1 ≤ W ∧ X + W ≤ 16) ∧ (0 ≤ Y ∧ Y ≤ 15) ∧ (1 ≤ H ∧ Y + H ≤ 16) := by omega
  refine ⟨bd, ?_, ?_, ?_, ?_, ?_⟩
  · refine cb_none hr (ftB_yes bd) (fun j hj => ?_)
    have := lohi_in (xs := xs) n j hj
    have := hm j hj
    have := top j hj
    omega
  · have := hm jl hjl; have := top jl hjl
    exact cb_some hr (ftB_yes (by omega)) hjl (p := X) (by omega) (by omega) (by omega)
  · exact cb_some hr (ftB_yes (by omega)) hn (p := gF xs 0) (by omega) (by omega) (by omega)
  · have := hm jh hjh; have := top jh hjh
    exact cb_some hr (ftB_yes (by omega)) hjh (p := X + W - 1) (by omega) (by omega) (by omega)
  · exact cb_some hr (ftB_yes (by omega)) (show n - 1 < n by omega) (p := gF xs (n - 1)) (by omega) (by omega) (by omega)
end Go.Proofs.Ytjekhlhnjknbeaa
