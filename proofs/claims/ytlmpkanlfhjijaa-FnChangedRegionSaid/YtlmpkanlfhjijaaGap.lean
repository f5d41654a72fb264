/- Contracts of GapOf, in the model and in the program. -/
import Derived.Test.YtlmpkanlfhjijaaGapM
import Derived.Test.YtlmpkanlfhjijaaGen
import Derived.Test.YtlmpkanlfhjijaaGridF
import Derived.Test.YtlmpkanlfhjijaaImgB
import Derived.Deep.RegionHeld3
namespace Go.Proofs.Ytlmpkanlfhjijaa
open Go.RowKit
set_option linter.unusedSimpArgs false
set_option linter.unusedVariables false
set_option maxRecDepth 20000

/-- Whether two images are valid and have one shape. -/
def cmpB (W H P : Int) (xs : List Int) (W' H' P' : Int) (ys : List Int) : Bool := vim W H P xs && (vim W' H' P' ys && (decide (W = W') && (decide (H = H') && decide (P = P'))))
def gapV (W H P : Int) (xs : List Int) (W' H' P' : Int) (ys : List Int) : Int := if cmpB W H P xs W' H' P' ys = true then gapN xs ys xs.length else -1
theorem cmpB_nat {W H P W' H' P' : Int} {xs ys : List Int} (h : cmpB W H P xs W' H' P' ys = true) : ∃ w h p : Nat, W = w ∧ H = h ∧ P = p ∧ W' = w ∧ H' = h ∧ P' = p ∧ (1 ≤ w ∧ w ≤ 16) ∧ (1 ≤ h ∧ h ≤ 16) ∧ (1 ≤ p ∧ p ≤ 4) ∧ xs.length = w * h * p ∧ ys.length = w * h * p ∧ (∀ j, j < xs.length → 0 ≤ xs.getD j 0 ∧ xs.getD j 0 ≤ 255) ∧ ∀ j, j < xs.length → 0 ≤ ys.getD j 0 ∧ ys.getD j 0 ≤ 255 := by
  unfold cmpB at h
  rw [Bool.and_eq_true, Bool.and_eq_true, Bool.and_eq_true, Bool.and_eq_true] at h
  obtain ⟨h1, h2, h3, h4, h5⟩ := h
  obtain rfl := of_decide_eq_true h3
  obtain rfl := of_decide_eq_true h4
  obtain rfl := of_decide_eq_true h5
  obtain ⟨w, h, p, rfl, rfl, rfl, a1, a2, a3, a4, a5, a6, hl, hb⟩ := vim_nat h1
  obtain ⟨w', h', p', e1, e2, e3, _, _, _, _, _, _, hl', hb'⟩ := vim_nat h2
  obtain rfl : w = w' := by omega
  obtain rfl : h = h' := by omega
  obtain rfl : p = p' := by omega
  exact ⟨w, h, p, rfl, rfl, rfl, rfl, rfl, rfl, ⟨a1, a2⟩, ⟨a3, a4⟩, ⟨a5, a6⟩, hl, hl', hb, fun j hj => hb' j (by rw [hl']; rw [hl] at hj; exact hj)⟩
theorem cmpB_of {W H P W' H' P' : Int} {xs ys : List Int} (h : cmpB W H P xs W' H' P' ys = true) : ys.length = xs.length ∧ (∀ j, j < xs.length → 0 ≤ xs.getD j 0 ∧ xs.getD j 0 ≤ 255) ∧ ∀ j, j < xs.length → 0 ≤ ys.getD j 0 ∧ ys.getD j 0 ≤ 255 := by
  obtain ⟨w, h, p, _, _, _, _, _, _, _, _, _, hl, hl', hb, hb'⟩ := cmpB_nat h
  exact ⟨by rw [hl, hl'], hb, hb'⟩
set_option maxHeartbeats 8000000 in
theorem iSame_any (W H P W' H' P' : Int) (v v' : Value) (w : World) :
    Calls Try.prog 92 #[.agg #[.int .i64 W, .int .i64 H, .int .i64 P, v], .agg #[.int .i64 W', .int .i64 H', .int .i64 P', v']] w fun e w' => e = .returned (.bool (decide (W = W') && (decide (H = H') && decide (P = P')))) ∧ Below w.heap.size w w' := by
  have HB := Lib.hid ((GS.start w).box 25 #[.int .i64 W, .int .i64 H, .int .i64 P, v] |>.box 25 #[.int .i64 W', .int .i64 H', .int .i64 P', v'] |>.below)
  by_cases h1 : W = W'
  · by_cases h2 : H = H'
    · by_cases h3 : P = P'
      all_goals
        go_enter Try.func92, Try.ntmps92
        go_wp2
        go_ret
        exact ⟨ret_bool (by first | rfl | (simp [h1, h2, h3]; done)), by (repeat' (first | (exact Below.refl _ _) | (refine Below.setCell ?_ (by first | omega | (simp; done) | (simp; omega)) _) | (refine below_dn ?_ _) | (refine Below.drew ?_) | (refine Below.alloc ?_ (by first | omega | (simp; done) | (simp; omega)) _) | (exact Below.refl _ _)))⟩
    · go_enter Try.func92, Try.ntmps92
      go_wp2
      go_ret
      exact ⟨ret_bool (by first | rfl | (simp [h1, h2]; done)), by (repeat' (first | (exact Below.refl _ _) | (refine Below.setCell ?_ (by first | omega | (simp; done) | (simp; omega)) _) | (refine below_dn ?_ _) | (refine Below.drew ?_) | (refine Below.alloc ?_ (by first | omega | (simp; done) | (simp; omega)) _) | (exact Below.refl _ _)))⟩
  · go_enter Try.func92, Try.ntmps92
    go_wp2
    go_ret
    exact ⟨ret_bool (by first | rfl | (simp [h1]; done)), by (repeat' (first | (exact Below.refl _ _) | (refine Below.setCell ?_ (by first | omega | (simp; done) | (simp; omega)) _) | (refine below_dn ?_ _) | (refine Below.drew ?_) | (refine Below.alloc ?_ (by first | omega | (simp; done) | (simp; omega)) _) | (exact Below.refl _ _)))⟩
set_option maxHeartbeats 8000000 in
theorem iCmp_any (W H P W' H' P' : Int) (A A' : Option Addr) (c c' : Nat) (xs ys : List Int) (w : World) (hx : Rds .i64 w w.heap.size A xs) (hl : xs.length ≤ 2000000) (hy : Rds .i64 w w.heap.size A' ys) (hl' : ys.length ≤ 2000000) :
    Calls Try.prog 55 #[.agg #[.int .i64 W, .int .i64 H, .int .i64 P, .slice A xs.length c], .agg #[.int .i64 W', .int .i64 H', .int .i64 P', .slice A' ys.length c']] w fun e w' => e = .returned (.bool (cmpB W H P xs W' H' P' ys)) ∧ Below w.heap.size w w' := by
  have HX := Lib.hid hx
  have HY := Lib.hid hy
  clear hx hy
  have S0 : GS w ((w.alloc (.cells #[.int .i64 W, .int .i64 H, .int .i64 P, .slice A xs.length c] 25)).alloc (.cells #[.int .i64 W', .int .i64 H', .int .i64 P', .slice A' ys.length c'] 25)) [] [⟨w.heap.size + 1, 25, #[.int .i64 W', .int .i64 H', .int .i64 P', .slice A' ys.length c']⟩, ⟨w.heap.size, 25, #[.int .i64 W, .int .i64 H, .int .i64 P, .slice A xs.length c]⟩] :=
    GS.box' (GS.box' (GS.start w) _ _ w.heap.size (by simp)) _ _ (w.heap.size + 1) (by simp)
  have HV : Hid (cmpB W H P xs W' H' P' ys = (vim W H P xs && (vim W' H' P' ys && (decide (W = W') && (decide (H = H') && decide (P = P')))))) := Lib.hid rfl
  go_enter Try.func55, Try.ntmps55
  go_wp2_with fail
  generalize (w.alloc (.cells #[.int .i64 W, .int .i64 H, .int .i64 P, .slice A xs.length c] 25)).alloc (.cells #[.int .i64 W', .int .i64 H', .int .i64 P', .slice A' ys.length c'] 25) = u0 at *
  refine (iVimg_any W H P A c xs u0 (S0.arg HX.out) hl).mono ?_
  rintro e u1 ⟨rfl, hB⟩
  have S1 := S0.call hB
  clear hB S0
  cases hv : vim W H P xs
  · have HF : Hid (cmpB W H P xs W' H' P' ys = false) := Lib.hid (by rw [HV.out, hv]; rfl)
    clear HV hv
    go_wp2
    go_ret
    exact ⟨ret_bool HF.out.symm, S1.below⟩
  · have Hv := Lib.hid hv
    clear hv
    obtain ⟨d0, d1, d2, d3⟩ := S1.c4 (g := w.heap.size + 1) (T := 25) (a0 := .int .i64 W') (a1 := .int .i64 H') (a2 := .int .i64 P') (a3 := .slice A' ys.length c') (by simp)
    go_wp2_with fail
    refine (iVimg_any W' H' P' A' c' ys u1 (S1.arg HY.out) hl').mono ?_
    rintro e u2 ⟨rfl, hB⟩
    have S2 := S1.call hB
    clear hB S1 d0 d1 d2 d3
    cases hv : vim W' H' P' ys
    · have HF : Hid (cmpB W H P xs W' H' P' ys = false) := Lib.hid (by rw [HV.out, Hv.out, hv]; rfl)
      clear HV hv
      go_wp2
      go_ret
      exact ⟨ret_bool HF.out.symm, S2.below⟩
    · have HF : Hid (cmpB W H P xs W' H' P' ys = (decide (W = W') && (decide (H = H') && decide (P = P')))) := Lib.hid (by rw [HV.out, Hv.out, hv]; rfl)
      clear HV hv
      obtain ⟨d0, d1, d2, d3⟩ := S2.c4 (g := w.heap.size + 1) (T := 25) (a0 := .int .i64 W') (a1 := .int .i64 H') (a2 := .int .i64 P') (a3 := .slice A' ys.length c') (by simp)
      obtain ⟨e0, e1, e2, e3⟩ := S2.c4 (g := w.heap.size) (T := 25) (a0 := .int .i64 W) (a1 := .int .i64 H) (a2 := .int .i64 P) (a3 := .slice A xs.length c) (by simp)
      go_wp2_with fail
      refine (iSame_any W H P W' H' P' _ _ u2).mono ?_
      rintro e u3 ⟨rfl, hB⟩
      have S3 := S2.call hB
      clear hB S2 d0 d1 d2 d3 e0 e1 e2 e3
      rw [← HF.out]
      clear HF
      have HS3 := Lib.hid S3.below
      clear S3
      cases hR : cmpB W H P xs W' H' P' ys
      all_goals
        have HR := Lib.hid hR
        clear hR
        go_wp2
        go_ret
        exact ⟨ret_bool HR.out.symm, HS3.out⟩
set_option maxHeartbeats 8000000 in
theorem sCmp_any (W H P W' H' P' : Int) (A A' : Option Addr) (c c' : Nat) (xs ys : List Int) (w : World) (hx : Rds .i64 w w.heap.size A xs) (hl : xs.length ≤ 2000000) (hy : Rds .i64 w w.heap.size A' ys) (hl' : ys.length ≤ 2000000) :
    Calls Try.prog 58 #[.agg #[.int .i64 W, .int .i64 H, .int .i64 P, .slice A xs.length c], .agg #[.int .i64 W', .int .i64 H', .int .i64 P', .slice A' ys.length c']] w fun e w' => e = .returned (.bool (cmpB W H P xs W' H' P' ys)) ∧ Below w.heap.size w w' := by
  have HX := Lib.hid hx
  have HY := Lib.hid hy
  clear hx hy
  have S0 : GS w ((w.alloc (.cells #[.int .i64 W, .int .i64 H, .int .i64 P, .slice A xs.length c] 25)).alloc (.cells #[.int .i64 W', .int .i64 H', .int .i64 P', .slice A' ys.length c'] 25)) [] [⟨w.heap.size + 1, 25, #[.int .i64 W', .int .i64 H', .int .i64 P', .slice A' ys.length c']⟩, ⟨w.heap.size, 25, #[.int .i64 W, .int .i64 H, .int .i64 P, .slice A xs.length c]⟩] :=
    GS.box' (GS.box' (GS.start w) _ _ w.heap.size (by simp)) _ _ (w.heap.size + 1) (by simp)
  have HV : Hid (cmpB W H P xs W' H' P' ys = (vim W H P xs && (vim W' H' P' ys && (decide (W = W') && (decide (H = H') && decide (P = P')))))) := Lib.hid rfl
  go_enter Try.func58, Try.ntmps58
  go_wp2_with fail
  generalize (w.alloc (.cells #[.int .i64 W, .int .i64 H, .int .i64 P, .slice A xs.length c] 25)).alloc (.cells #[.int .i64 W', .int .i64 H', .int .i64 P', .slice A' ys.length c'] 25) = u0 at *
  refine (sVimg_any W H P A c xs u0 (S0.arg HX.out) hl).mono ?_
  rintro e u1 ⟨rfl, hB⟩
  have S1 := S0.call hB
  clear hB S0
  cases hv : vim W H P xs
  · have HF : Hid (cmpB W H P xs W' H' P' ys = false) := Lib.hid (by rw [HV.out, hv]; rfl)
    clear HV hv
    go_wp2
    go_ret
    exact ⟨ret_bool HF.out.symm, S1.below⟩
  · have Hv := Lib.hid hv
    clear hv
    obtain ⟨d0, d1, d2, d3⟩ := S1.c4 (g := w.heap.size + 1) (T := 25) (a0 := .int .i64 W') (a1 := .int .i64 H') (a2 := .int .i64 P') (a3 := .slice A' ys.length c') (by simp)
    go_wp2_with fail
    refine (sVimg_any W' H' P' A' c' ys u1 (S1.arg HY.out) hl').mono ?_
    rintro e u2 ⟨rfl, hB⟩
    have S2 := S1.call hB
    clear hB S1 d0 d1 d2 d3
    cases hv : vim W' H' P' ys
    · have HF : Hid (cmpB W H P xs W' H' P' ys = false) := Lib.hid (by rw [HV.out, Hv.out, hv]; rfl)
      clear HV hv
      go_wp2
      go_ret
      exact ⟨ret_bool HF.out.symm, S2.below⟩
    · have HF : Hid (cmpB W H P xs W' H' P' ys = (decide (W = W') && (decide (H = H') && decide (P = P')))) := Lib.hid (by rw [HV.out, Hv.out, hv]; rfl)
      clear HV hv Hv
      have HS2 := Lib.hid S2.below
      obtain ⟨d0, d1, d2, d3⟩ := S2.c4 (g := w.heap.size + 1) (T := 25) (a0 := .int .i64 W') (a1 := .int .i64 H') (a2 := .int .i64 P') (a3 := .slice A' ys.length c') (by simp)
      obtain ⟨e0, e1, e2, e3⟩ := S2.c4 (g := w.heap.size) (T := 25) (a0 := .int .i64 W) (a1 := .int .i64 H) (a2 := .int .i64 P) (a3 := .slice A xs.length c) (by simp)
      clear S2
      by_cases h1 : W = W'
      · by_cases h2 : H = H'
        · by_cases h3 : P = P'
          all_goals
            go_wp2
            go_ret
            exact ⟨ret_bool (by rw [HF.out]; (first | rfl | (simp [h1, h2, h3]; done))), HS2.out⟩
        · go_wp2
          go_ret
          exact ⟨ret_bool (by rw [HF.out]; (first | rfl | (simp [h1, h2]; done))), HS2.out⟩
      · go_wp2
        go_ret
        exact ⟨ret_bool (by rw [HF.out]; (first | rfl | (simp [h1]; done))), HS2.out⟩
end Go.Proofs.Ytlmpkanlfhjijaa
