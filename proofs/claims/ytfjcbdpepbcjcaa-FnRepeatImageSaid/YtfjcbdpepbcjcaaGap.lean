/- Contracts of GapOf, in the model and in the program. -/
import Derived.Test.YtfjcbdpepbcjcaaGapM
import Derived.Test.YtfjcbdpepbcjcaaGen
import Derived.Test.YtfjcbdpepbcjcaaGridF
import Derived.Test.YtfjcbdpepbcjcaaImgB
import Derived.Deep.RegionHeld3
namespace Go.Proofs.Ytfjcbdpepbcjcaa
open Go.RowKit
set_option linter.unusedSimpArgs false
set_option linter.unusedVariables false
set_option maxRecDepth 20000

/-- Whether two images are valid and have one shape. -/
def cmpB (W H P : Int) (xs : List Int) (W' H' P' : Int) (ys : List Int) : Bool := vim W H P xs && (vim W' H' P' ys && (decide (W = W') && (decide (H = H') && decide (P = P'))))
def gapV (W H P : Int) (xs : List Int) (W' H' P' : Int) (ys : List Int) : Int := if cmpB W H P xs W' H' P' ys = true then gapN xs ys xs.length else -1
theorem cmpB_nat {W H P W' H' P' : Int} {xs ys : List Int} (h : cmpB W H P xs W' H' P' ys = true) : ∃ w h p : Nat, W = w ∧ H = h ∧ P = p ∧ W' = w ∧ H' = h ∧ P' = p ∧ (1 ≤ w ∧ w ≤ 16) ∧ (1 ≤ h ∧ h ≤ 16) ∧ (1 ≤ p ∧ p ≤ 4) ∧ xs.length = w * h * p ∧ ys.length = w * h * p ∧ (∀ j, j < xs.length → 0 ≤ xs.getD j 0 ∧ xs.getD j 0 ≤ 255) ∧ ∀ j, j < xs.length → 0 ≤ ys.getD j 0 ∧ ys.getD j 0 ≤ 255 := by
  unfold cmpB at h
  rw [Bool.and_eq_true, Bool.and_eq_true, Bool.and_eq_true, Bool.and_eq_true] at h
  obtain ⟨h1, h2, h3, h4, h5⟩ := h
  obtain rfl := of_decide_eq_true h3
  obtain rfl := of_decide_eq_true h4
  obtain rfl := of_decide_eq_true h5
  obtain ⟨w, h, p, rfl, rfl, rfl, a1, a2, a3, a4, a5, a6, hl, hb⟩ := vim_nat h1
  obtain ⟨w', h', p', e1, e2, e3, _, _, _, _, _, _, hl', hb'⟩ := vim_nat h2
  obtain rfl : w = w' := by omega
  obtain rfl : h = h' := by omega
  obtain rfl : p = p' := by omega
  exact ⟨w, h, p, rfl, rfl, rfl, rfl, rfl, rfl, ⟨a1, a2⟩, ⟨a3, a4⟩, ⟨a5, a6⟩, hl, hl', hb, fun j hj => hb' j (by rw [hl']; rw [hl] at hj; exact hj)⟩
theorem cmpB_of {W H P W' H' P' : Int} {xs ys : List Int} (h : cmpB W H P xs W' H' P' ys = true) : ys.length = xs.length ∧ (∀ j, j < xs.length → 0 ≤ xs.getD j 0 ∧ xs.getD j 0 ≤ 255) ∧ ∀ j, j < xs.length → 0 ≤ ys.getD j 0 ∧ ys.getD j 0 ≤ 255 := by
  obtain ⟨w, h, p, _, _, _, _, _, _, _, _, _, hl, hl', hb, hb'⟩ := cmpB_nat h
  exact ⟨by rw [hl, hl'], hb, hb'⟩
set_option maxHeartbeats 8000000 in
theorem iSame_any (W H P W' H' P' : Int) (v v' : Value) (w : World) :
    Calls Try.prog 72 #[.agg #[.int .i64 W, .int .i64 H, .int .i64 P, v], .agg #[.int .i64 W', .int .i64 H', .int .i64 P', v']] w fun e w' => e = .returned (.bool (decide (W = W') && (decide (H = H') && decide (P = P')))) ∧ Below w.heap.size w w' := by
  have HB := Lib.hid ((GS.start w).box 30 #[.int .i64 W, .int .i64 H, .int .i64 P, v] |>.box 30 #[.int .i64 W', .int .i64 H', .int .i64 P', v'] |>.below)
  by_cases h1 : W = W'
  · by_cases h2 : H = H'
    · by_cases h3 : P = P'
      all_goals
        go_enter Try.func72, Try.ntmps72
        go_wp2
        go_ret
        exact ⟨ret_bool (by first | rfl | (simp [h1, h2, h3]; done)), by (repeat' (first | (exact Below.refl _ _) | (refine Below.setCell ?_ (by first | omega | (simp; done) | (simp; omega)) _) | (refine below_dn ?_ _) | (refine Below.drew ?_) | (refine Below.alloc ?_ (by first | omega | (simp; done) | (simp; omega)) _) | (exact Below.refl _ _)))⟩
    · go_enter Try.func72, Try.ntmps72
      go_wp2
      go_ret
      exact ⟨ret_bool (by first | rfl | (simp [h1, h2]; done)), by (repeat' (first | (exact Below.refl _ _) | (refine Below.setCell ?_ (by first | omega | (simp; done) | (simp; omega)) _) | (refine below_dn ?_ _) | (refine Below.drew ?_) | (refine Below.alloc ?_ (by first | omega | (simp; done) | (simp; omega)) _) | (exact Below.refl _ _)))⟩
  · go_enter Try.func72, Try.ntmps72
    go_wp2
    go_ret
    exact ⟨ret_bool (by first | rfl | (simp [h1]; done)), by (repeat' (first | (exact Below.refl _ _) | (refine Below.setCell ?_ (by first | omega | (simp; done) | (simp; omega)) _) | (refine below_dn ?_ _) | (refine Below.drew ?_) | (refine Below.alloc ?_ (by first | omega | (simp; done) | (simp; omega)) _) | (exact Below.refl _ _)))⟩
set_option maxHeartbeats 8000000 in
theorem iCmp_any (W H P W' H' P' : Int) (A A' : Option Addr) (c c' : Nat) (xs ys : List Int) (w : World) (hx : Rds .i64 w w.heap.size A xs) (hl : xs.length ≤ 2000000) (hy : Rds .i64 w w.heap.size A' ys) (hl' : ys.length ≤ 2000000) :
    Calls Try.prog 46 #[.agg #[.int .i64 W, .int .i64 H, .int .i64 P, .slice A xs.length c], .agg #[.int .i64 W', .int .i64 H', .int .i64 P', .slice A' ys.length c']] w fun e w' => e = .returned (.bool (cmpB W H P xs W' H' P' ys)) ∧ Below w.heap.size w w' := by
  have HX := Lib.hid hx
  have HY := Lib.hid hy
  clear hx hy
  have S0 : GS w ((w.alloc (.cells #[.int .i64 W, .int .i64 H, .int .i64 P, .slice A xs.length c] 30)).alloc (.cells #[.int .i64 W', .int .i64 H', .int .i64 P', .slice A' ys.length c'] 30)) [] [⟨w.heap.size + 1, 30, #[.int .i64 W', .int .i64 H', .int .i64 P', .slice A' ys.length c']⟩, ⟨w.heap.size, 30, #[.int .i64 W, .int .i64 H, .int .i64 P, .slice A xs.length c]⟩] :=
    GS.box' (GS.box' (GS.start w) _ _ w.heap.size (by simp)) _ _ (w.heap.size + 1) (by simp)
  have HV : Hid (cmpB W H P xs W' H' P' ys = (vim W H P xs && (vim W' H' P' ys && (decide (W = W') && (decide (H = H') && decide (P = P')))))) := Lib.hid rfl
  go_enter Try.func46, Try.ntmps46
  go_wp2_with fail
  generalize (w.alloc (.cells #[.int .i64 W, .int .i64 H, .int .i64 P, .slice A xs.length c] 30)).alloc (.cells #[.int .i64 W', .int .i64 H', .int .i64 P', .slice A' ys.length c'] 30) = u0 at *
  refine (iVimg_any W H P A c xs u0 (S0.arg HX.out) hl).mono ?_
  rintro e u1 ⟨rfl, hB⟩
  have S1 := S0.call hB
  clear hB S0
  cases hv : vim W H P xs
  · have HF : Hid (cmpB W H P xs W' H' P' ys = false) := Lib.hid (by rw [HV.out, hv]; rfl)
    clear HV hv
    go_wp2
    go_ret
    exact ⟨ret_bool HF.out.symm, S1.below⟩
  · have Hv := Lib.hid hv
    clear hv
    obtain ⟨d0, d1, d2, d3⟩ := S1.c4 (g := w.heap.size + 1) (T := 30) (a0 := .int .i64 W') (a1 := .int .i64 H') (a2 := .int .i64 P') (a3 := .slice A' ys.length c') (by simp)
    go_wp2_with fail
    refine (iVimg_any W' H' P' A' c' ys u1 (S1.arg HY.out) hl').mono ?_
    rintro e u2 ⟨rfl, hB⟩
    have S2 := S1.call hB
    clear hB S1 d0 d1 d2 d3
    cases hv : vim W' H' P' ys
    · have HF : Hid (cmpB W H P xs W' H' P' ys = false) := Lib.hid (by rw [HV.out, Hv.out, hv]; rfl)
      clear HV hv
      go_wp2
      go_ret
      exact ⟨ret_bool HF.out.symm, S2.below⟩
    · have HF : Hid (cmpB W H P xs W' H' P' ys = (decide (W = W') && (decide (H = H') && decide (P = P')))) := Lib.hid (by rw [HV.out, Hv.out, hv]; rfl)
      clear HV hv
      obtain ⟨d0, d1, d2, d3⟩ := S2.c4 (g := w.heap.size + 1) (T := 30) (a0 := .int .i64 W') (a1 := .int .i64 H') (a2 := .int .i64 P') (a3 := .slice A' ys.length c') (by simp)
      obtain ⟨e0, e1, e2, e3⟩ := S2.c4 (g := w.heap.size) (T := 30) (a0 := .int .i64 W) (a1 := .int .i64 H) (a2 := .int .i64 P) (a3 := .slice A xs.length c) (by simp)
      go_wp2_with fail
      refine (iSame_any W H P W' H' P' _ _ u2).mono ?_
      rintro e u3 ⟨rfl, hB⟩
      have S3 := S2.call hB
      clear hB S2 d0 d1 d2 d3 e0 e1 e2 e3
      rw [← HF.out]
      clear HF
      have HS3 := Lib.hid S3.below
      clear S3
      cases hR : cmpB W H P xs W' H' P' ys
      all_goals
        have HR := Lib.hid hR
        clear hR
        go_wp2
        go_ret
        exact ⟨ret_bool HR.out.symm, HS3.out⟩
set_option maxHeartbeats 8000000 in
theorem sgap_any (A A' : Option Addr) (c c' n : Nat) (xs ys : List Int) (w : World) (hn : n = xs.length) (hn' : ys.length = n) (hx : Rds .i64 w w.heap.size A xs) (hy : Rds .i64 w w.heap.size A' ys) (hl : n ≤ 2000000) (hbx : ∀ j, j < n → 0 ≤ xs.getD j 0 ∧ xs.getD j 0 ≤ 255) (hby : ∀ j, j < n → 0 ≤ ys.getD j 0 ∧ ys.getD j 0 ≤ 255) :
    Calls Try.prog 58 #[.slice A n c, .slice A' n c'] w fun e w' => e = .returned (.int .i64 (gapN xs ys n)) ∧ Below w.heap.size w w' := by
  have HX := Lib.hid hx
  have HY := Lib.hid hy
  have HN := Lib.hid hn
  have HN' := Lib.hid hn'
  have HBX := Lib.hid hbx
  have HBY := Lib.hid hby
  clear hx hy hn hn' hbx hby
  go_enter Try.func58, Try.ntmps58
  go_wp2
  go_loopw [5, 6] (fun s i wr => ∃ k : Nat, k ≤ n ∧ i = .int .i64 k ∧ s = .int .i64 (gapN xs ys k) ∧ Below w.heap.size w wr) (fun _ i _ => n - (intOf i).toNat)
  case atStart => exact ⟨0, Nat.zero_le _, rfl, rfl, Below.refl _ _⟩
  case round =>
    obtain ⟨k, hk, rfl, rfl, hbel⟩ := hrel
    obtain ⟨s0, s1⟩ := gapN_bd HBX.out HBY.out k hk
    by_cases hlt : k < n
    · obtain ⟨b, off, rfl, hb, hc⟩ := HX.out.cells_ (j := k) (by have := HN.out; omega)
      obtain ⟨b', off', rfl, hb', hc'⟩ := HY.out.cells_ (j := k) (by have := HN'.out; omega)
      have hc0 := (hbel.cell (p := ⟨b, off + k, none⟩) hb).trans (hc k (by have := HN.out; omega))
      have hd0 := (hbel.cell (p := ⟨b', off' + k, none⟩) hb').trans (hc' k (by have := HN'.out; omega))
      obtain ⟨x0, x1⟩ := HBX.out k hlt
      obtain ⟨y0, y1⟩ := HBY.out k hlt
      have HS : Hid (gapN xs ys (k + 1) = gapN xs ys k + sq (xs.getD k 0) (ys.getD k 0)) := Lib.hid rfl
      clear hc hc'
      generalize xs.getD k 0 = x at *
      generalize ys.getD k 0 = y at *
      generalize gapN xs ys k = T at *
      obtain ⟨q0, q1⟩ := sq_bd ⟨x0, x1⟩ ⟨y0, y1⟩
      unfold sq at q0 q1 HS
      have hw1 : IntKind.i64.wrap (x - y) = x - y := IntWalk.i64_in _ (by omega)
      have hw2 : IntKind.i64.wrap ((x - y) * (x - y)) = (x - y) * (x - y) := IntWalk.i64_in _ (by omega)
      have HBL := Lib.hid hbel
      clear hbel
      go_wp2
      go_quiet (fail)
      go_wp2
      go_roundw
      case rel => exact ⟨k + 1, by omega, by go_num, by rw [HS.out], ⟨HBL.out.os, HBL.out.tape, HBL.out.output, HBL.out.size, HBL.out.block⟩⟩
      case measure => simp [intOf]; omega
    · have hk' : k = n := by omega
      have HK : Hid (gapN xs ys k = gapN xs ys n) := Lib.hid (by rw [hk'])
      clear hk'
      go_wp2
      go_ret
      exact ⟨ret_int HK.out, hbel⟩
theorem colB {w : World} {g : Nat} {T : TypeId} {c : Nat → Int} (h : Bx w g T #[.int .i64 (c 0), .int .i64 (c 1), .int .i64 (c 2), .int .i64 (c 3)]) : ∀ j, j < 4 → w.cell? ⟨g, j, none⟩ = some (.int .i64 (c j)) := by
  intro j hj
  rw [cell_of_row w g j _ _ _ h]
  match j, hj with
  | 0, _ => rfl
  | 1, _ => rfl
  | 2, _ => rfl
  | 3, _ => rfl
set_option maxHeartbeats 1000000 in
theorem isq_any (x : Int) (h : -70000 ≤ x ∧ x ≤ 70000) (w : World) : Calls Try.prog 73 #[.int .i64 x] w fun e w' => e = .returned (.int .i64 (x * x)) ∧ w' = w := by
  have h1 : -4900000000 ≤ x * x ∧ x * x ≤ 4900000000 := by
    have h2 : x.natAbs ≤ 70000 := by omega
    have h3 : x.natAbs * x.natAbs ≤ 70000 * 70000 := Nat.mul_le_mul h2 h2
    have h4 := Int.natAbs_mul_self (a := x)
    omega
  have hw1 : IntKind.i64.wrap (x * x) = x * x := IntWalk.i64_in _ (by omega)
  go_enter Try.func73, Try.ntmps73
  go_wp2
  go_ret
  exact ⟨rfl, rfl⟩
set_option maxHeartbeats 8000000 in
theorem icg_any (c d : Nat → Int) (hbx : ∀ j, j < 4 → 0 ≤ c j ∧ c j ≤ 255) (hby : ∀ j, j < 4 → 0 ≤ d j ∧ d j ≤ 255) (w : World) :
    Calls Try.prog 47 #[colV c, colV d] w fun e w' => e = .returned (.int .i64 (cgN c d 4)) ∧ Below w.heap.size w w' := by
  have S0 : GS w ((w.alloc (.cells #[.int .i64 (c 0), .int .i64 (c 1), .int .i64 (c 2), .int .i64 (c 3)] 70)).alloc (.cells #[.int .i64 (d 0), .int .i64 (d 1), .int .i64 (d 2), .int .i64 (d 3)] 70)) [] [⟨w.heap.size + 1, 70, #[.int .i64 (d 0), .int .i64 (d 1), .int .i64 (d 2), .int .i64 (d 3)]⟩, ⟨w.heap.size, 70, #[.int .i64 (c 0), .int .i64 (c 1), .int .i64 (c 2), .int .i64 (c 3)]⟩] :=
    GS.box' (GS.box' (GS.start w) _ _ w.heap.size (by simp)) _ _ (w.heap.size + 1) (by simp)
  unfold colV
  have HS0 := Lib.hid S0
  have HBX := Lib.hid hbx
  have HBY := Lib.hid hby
  clear S0 hbx hby
  go_enter Try.func47, Try.ntmps47
  go_wp2
  go_loopw [5, 7] (fun s i wr => ∃ k : Nat, k ≤ 4 ∧ i = .int .i64 k ∧ s = .int .i64 (cgN c d k) ∧ Hid (GS w wr [] [⟨w.heap.size + 1, 70, #[.int .i64 (d 0), .int .i64 (d 1), .int .i64 (d 2), .int .i64 (d 3)]⟩, ⟨w.heap.size, 70, #[.int .i64 (c 0), .int .i64 (c 1), .int .i64 (c 2), .int .i64 (c 3)]⟩])) (fun _ i _ => 4 - (intOf i).toNat)
  case atStart => exact ⟨0, by omega, rfl, rfl, HS0⟩
  case round =>
    obtain ⟨k, hk, rfl, rfl, HS⟩ := hrel
    obtain ⟨s0, s1⟩ := cgN_bd HBX.out HBY.out k hk
    by_cases hlt : k < 4
    · have hc0 := colB (HS.out.bx (g := w.heap.size) (T := 70) (cs := #[.int .i64 (c 0), .int .i64 (c 1), .int .i64 (c 2), .int .i64 (c 3)]) (by simp)) k hlt
      have hd0 := colB (HS.out.bx (g := w.heap.size + 1) (T := 70) (cs := #[.int .i64 (d 0), .int .i64 (d 1), .int .i64 (d 2), .int .i64 (d 3)]) (by simp)) k hlt
      obtain ⟨x0, x1⟩ := HBX.out k hlt
      obtain ⟨y0, y1⟩ := HBY.out k hlt
      have HG : Hid (cgN c d (k + 1) = cgN c d k + sq (c k) (d k)) := Lib.hid rfl
      generalize c k = x at *
      generalize d k = y at *
      generalize cgN c d k = T at *
      obtain ⟨q0, q1⟩ := sq_bd ⟨x0, x1⟩ ⟨y0, y1⟩
      unfold sq at q0 q1 HG
      have hw1 : IntKind.i64.wrap (x - y) = x - y := IntWalk.i64_in _ (by omega)
      have hw2 : IntKind.i64.wrap ((x - y) * (x - y)) = (x - y) * (x - y) := IntWalk.i64_in _ (by omega)
      go_wp2
      go_quiet ((go_at_call 73; exact Calls.quiet_of_same (isq_any (x - y) (by omega) _)))
      go_wp2
      go_roundw
      case rel => exact ⟨k + 1, by omega, by go_num, by rw [HG.out], Lib.hid (HS.out.drewN _)⟩
      case measure => simp [intOf]; omega
    · have hk' : k = 4 := by omega
      subst hk'
      go_wp2
      go_ret
      exact ⟨rfl, HS.out.below⟩
theorem pxc_b4 {W H P : Nat} {xs : List Int} (hl : xs.length = W * H * P) (hb : ∀ j, j < xs.length → 0 ≤ xs.getD j 0 ∧ xs.getD j 0 ≤ 255) {k : Nat} (hk : k < W * H) : ∀ j, j < 4 → 0 ≤ pxc W P xs (k % W) (k / W) j ∧ pxc W P xs (k % W) (k / W) j ≤ 255 := by
  intro j _
  by_cases h : j < P
  · rw [pxc_at h]
    refine hb _ ?_
    have := Nat.mul_le_mul_right P (show k + 1 ≤ W * H from hk)
    rw [Nat.add_mul, Nat.one_mul] at this
    omega
  · rw [pxc_out (by omega)]; omega
theorem gapC_bd {W H P : Nat} {xs ys : List Int} (hl : xs.length = W * H * P) (hl' : ys.length = W * H * P) (hx : ∀ j, j < xs.length → 0 ≤ xs.getD j 0 ∧ xs.getD j 0 ≤ 255) (hy : ∀ j, j < ys.length → 0 ≤ ys.getD j 0 ∧ ys.getD j 0 ≤ 255) : ∀ k, k ≤ W * H → 0 ≤ gapC W (pxc W P xs) (pxc W P ys) k ∧ gapC W (pxc W P xs) (pxc W P ys) k ≤ 260100 * k
  | 0, _ => by simp [gapC]
  | k + 1, hk => by
    have ih := gapC_bd hl hl' hx hy k (by omega)
    have := cgN_bd (pxc_b4 hl hx (k := k) (by omega)) (pxc_b4 hl' hy (k := k) (by omega)) 4 (Nat.le_refl _)
    unfold gapC
    omega
theorem fld_grid (a b v : Value) (w : World) : (Instr.field 51 (.agg #[a, b, v]) 2).run Try.prog w = .ok v w := by
  simp [Instr.field, run_underlying Try.underlying51, asAgg, go_sem]
set_option maxHeartbeats 16000000 in
theorem i_GapOf (W H P W' H' P' : Int) (A A' : Option Addr) (c c' : Nat) (xs ys : List Int) (w : World) (hx : Rds .i64 w w.heap.size A xs) (hl : xs.length ≤ 2000000) (hlc : xs.length ≤ c) (hy : Rds .i64 w w.heap.size A' ys) (hl' : ys.length ≤ 2000000) (hlc' : ys.length ≤ c') :
    Calls Try.prog 19 #[.agg #[.int .i64 W, .int .i64 H, .int .i64 P, .slice A xs.length c], .agg #[.int .i64 W', .int .i64 H', .int .i64 P', .slice A' ys.length c']] w fun e w' => e = .returned (.int .i64 (gapV W H P xs W' H' P' ys)) ∧ Below w.heap.size w w' := by
  have HX := Lib.hid hx
  have HY := Lib.hid hy
  clear hx hy
  have S0 : GS w ((w.alloc (.cells #[.int .i64 W, .int .i64 H, .int .i64 P, .slice A xs.length c] 30)).alloc (.cells #[.int .i64 W', .int .i64 H', .int .i64 P', .slice A' ys.length c'] 30)) [] [⟨w.heap.size + 1, 30, #[.int .i64 W', .int .i64 H', .int .i64 P', .slice A' ys.length c']⟩, ⟨w.heap.size, 30, #[.int .i64 W, .int .i64 H, .int .i64 P, .slice A xs.length c]⟩] :=
    GS.box' (GS.box' (GS.start w) _ _ w.heap.size (by simp)) _ _ (w.heap.size + 1) (by simp)
  go_enter Try.func19, Try.ntmps19
  go_wp2_with fail
  generalize (w.alloc (.cells #[.int .i64 W, .int .i64 H, .int .i64 P, .slice A xs.length c] 30)).alloc (.cells #[.int .i64 W', .int .i64 H', .int .i64 P', .slice A' ys.length c'] 30) = u0 at *
  refine (iCmp_any W H P W' H' P' A A' c c' xs ys u0 (S0.arg HX.out) hl (S0.arg HY.out) hl').mono ?_
  rintro e u1 ⟨rfl, hB⟩
  have S1 := S0.call hB
  clear hB S0
  cases hr : cmpB W H P xs W' H' P' ys
  · have HV : Hid (gapV W H P xs W' H' P' ys = -1) := Lib.hid (by unfold gapV; rw [hr]; rfl)
    clear hr
    go_wp2
    go_ret
    exact ⟨ret_int HV.out.symm, S1.below⟩
  · have HV : Hid (gapV W H P xs W' H' P' ys = gapN xs ys xs.length) := Lib.hid (by unfold gapV; rw [hr]; rfl)
    obtain ⟨W, H, P, rfl, rfl, rfl, rfl, rfl, rfl, ⟨hW1, hW⟩, ⟨hH1, hH⟩, ⟨hP1, hP⟩, hln, hln', hbx, hby0⟩ := cmpB_nat hr
    have hby : ∀ j, j < ys.length → 0 ≤ ys.getD j 0 ∧ ys.getD j 0 ≤ 255 := fun j hj => hby0 j (by rw [hln]; rw [hln'] at hj; exact hj)
    have HE : Hid (gapC W (pxc W P xs) (pxc W P ys) (W * H) = gapV W H P xs W H P ys) := Lib.hid (by rw [HV.out, gap_img hP, hln])
    have HB1 := Lib.hid (fun k hk => pxc_b4 (k := k) hln hbx hk)
    have HB2 := Lib.hid (fun k hk => pxc_b4 (k := k) hln' hby hk)
    have HBd := Lib.hid (gapC_bd hln hln' hbx hby)
    have hWH : W * H ≤ 256 := by have := Nat.mul_le_mul hW hH; omega
    have hl16 : xs.length ≤ c := hlc
    have HL1 := Lib.hid hln
    have HL2 := Lib.hid hln'
    clear hr hln hln' hbx hby hby0 HV
    obtain ⟨d0, d1, d2, d3⟩ := S1.c4 (g := w.heap.size + 1) (T := 30) (a0 := .int .i64 (W : Int)) (a1 := .int .i64 (H : Int)) (a2 := .int .i64 (P : Int)) (a3 := .slice A' ys.length c') (by simp)
    go_wp2_with fail
    refine (gridOf_any W H P hW hH hP1 hP hW1 hH1 A' c' ys HL2.out hlc' u1 (S1.arg HY.out)).mono ?_
    rintro e u2 ⟨v2, rfl, hO2, hB⟩
    obtain ⟨A2, c2, rfl, hc2⟩ := hO2.slice
    have S2 := S1.addT hO2 hB
    clear hB hO2 S1 d0 d1 d2 d3
    obtain ⟨e0, e1, e2, e3⟩ := S2.c4 (g := w.heap.size) (T := 30) (a0 := .int .i64 (W : Int)) (a1 := .int .i64 (H : Int)) (a2 := .int .i64 (P : Int)) (a3 := .slice A xs.length c) (by simp)
    have e0l := S2.lt (g := w.heap.size) (T := 30) (cs := #[.int .i64 (W : Int), .int .i64 (H : Int), .int .i64 (P : Int), .slice A xs.length c]) (by simp)
    have S3 := S2.box 51 #[.int .i64 (W : Int), .int .i64 (H : Int), .slice A2 (W * H) c2]
    go_wp2_with fail
    clear S2 e0 e1 e2 e3 e0l
    generalize u2.alloc (.cells #[.int .i64 (W : Int), .int .i64 (H : Int), .slice A2 (W * H) c2] 51) = u3 at *
    refine (gridOf_any W H P hW hH hP1 hP hW1 hH1 A c xs HL1.out hlc u3 (S3.arg HX.out)).mono ?_
    rintro e u4 ⟨v4, rfl, hO4, hB⟩
    obtain ⟨A4, c4, rfl, hc4⟩ := hO4.slice
    have HS4 := Lib.hid (S3.addT hO4 hB)
    clear hB hO4 S3
    have hfl := fun W' => fld_grid (.int .i64 (W : Int)) (.int .i64 (H : Int)) (.slice A4 (W * H) c4) W'
    go_wp2
    clear hfl
    go_loopw [6, 19] (fun s i wr => ∃ k : Nat, k ≤ W * H ∧ i = .int .i64 k ∧ s = .int .i64 (gapC W (pxc W P xs) (pxc W P ys) k) ∧ Hid (GS w wr [rt 70 4 u3.heap.size u4.heap.size (.slice A4 (W * H) c4) (W * H) (img W H 4 (pxc W P xs)), rt 70 4 u1.heap.size u2.heap.size (.slice A2 (W * H) c2) (W * H) (img W H 4 (pxc W P ys))] [⟨u2.heap.size, 51, #[.int .i64 (W : Int), .int .i64 (H : Int), .slice A2 (W * H) c2]⟩, ⟨w.heap.size + 1, 30, #[.int .i64 (W : Int), .int .i64 (H : Int), .int .i64 (P : Int), .slice A' ys.length c']⟩, ⟨w.heap.size, 30, #[.int .i64 (W : Int), .int .i64 (H : Int), .int .i64 (P : Int), .slice A xs.length c]⟩])) (fun _ i _ => W * H - (intOf i).toNat)
    case atStart => exact ⟨0, Nat.zero_le _, rfl, rfl, HS4⟩
    case round =>
      obtain ⟨k, hk, rfl, rfl, HS⟩ := hrel
      clear HS4
      obtain ⟨s0, s1⟩ := HBd.out k hk
      by_cases hlt : k < W * H
      · have hr4 := HS.out.rdsT (E := 70) (C := 4) (lo := u3.heap.size) (hi := u4.heap.size) (A := A4) (n := W * H) (m := W * H) (c := c4) (xs := img W H 4 (pxc W P xs)) (by simp)
        have hr2 := HS.out.rdsT (E := 70) (C := 4) (lo := u1.heap.size) (hi := u2.heap.size) (A := A2) (n := W * H) (m := W * H) (c := c2) (xs := img W H 4 (pxc W P ys)) (by simp)
        obtain ⟨b, off, rfl, hb, hc⟩ := hr4.cells_ (j := k) (by rw [img_len]; omega)
        obtain ⟨b', off', rfl, hb', hc'⟩ := hr2.cells_ (j := k) (by rw [img_len]; omega)
        obtain ⟨x0, x1, x2, x3⟩ := img_four _ hlt hc
        obtain ⟨y0, y1, y2, y3⟩ := img_four _ hlt hc'
        have HG : Hid (gapC W (pxc W P xs) (pxc W P ys) (k + 1) = gapC W (pxc W P xs) (pxc W P ys) k + cgN (pxc W P xs (k % W) (k / W)) (pxc W P ys (k % W) (k / W)) 4) := Lib.hid rfl
        have HC1 := Lib.hid (HB1.out k hlt)
        have HC2 := Lib.hid (HB2.out k hlt)
        obtain ⟨q0, q1⟩ := cgN_bd HC1.out HC2.out 4 (Nat.le_refl _)
        have HYl := Lib.hid (show b' < wr.heap.size from hb')
        clear hr4 hr2 hc hc'
        generalize pxc W P xs (k % W) (k / W) = F at *
        generalize pxc W P ys (k % W) (k / W) = G at *
        generalize gapC W (pxc W P xs) (pxc W P ys) k = T at *
        have HWR := Lib.hid (show IntKind.i64.wrap (T + cgN F G 4) = T + cgN F G 4 from IntWalk.i64_in _ (by omega))
        have HS1 := Lib.hid (HS.out.box 70 #[.int .i64 (F 0), .int .i64 (F 1), .int .i64 (F 2), .int .i64 (F 3)])
        have HY0 := Lib.hid (show ((wr.alloc (.cells #[.int .i64 (F 0), .int .i64 (F 1), .int .i64 (F 2), .int .i64 (F 3)] 70)).cell? ⟨b', off' + k * 4, none⟩ = some (.int .i64 (G 0)) ∧ (wr.alloc (.cells #[.int .i64 (F 0), .int .i64 (F 1), .int .i64 (F 2), .int .i64 (F 3)] 70)).cell? ⟨b', off' + k * 4 + 1, none⟩ = some (.int .i64 (G 1)) ∧ (wr.alloc (.cells #[.int .i64 (F 0), .int .i64 (F 1), .int .i64 (F 2), .int .i64 (F 3)] 70)).cell? ⟨b', off' + k * 4 + 2, none⟩ = some (.int .i64 (G 2)) ∧ (wr.alloc (.cells #[.int .i64 (F 0), .int .i64 (F 1), .int .i64 (F 2), .int .i64 (F 3)] 70)).cell? ⟨b', off' + k * 4 + 3, none⟩ = some (.int .i64 (G 3))) from ⟨(World.cell?_alloc_lt wr _ _ hb').trans y0, (World.cell?_alloc_lt wr _ _ hb').trans y1, (World.cell?_alloc_lt wr _ _ hb').trans y2, (World.cell?_alloc_lt wr _ _ hb').trans y3⟩)
        have hbz : b' < (wr.alloc (.cells #[.int .i64 (F 0), .int .i64 (F 1), .int .i64 (F 2), .int .i64 (F 3)] 70)).heap.size := by simp; omega
        go_upto_region 8 with fail
        clear x0 x1 x2 x3 y0 y1 y2 y3 hb hb' HS HYl
        obtain ⟨gz, hgz⟩ : ∃ gz, gz = wr.heap.size := ⟨_, rfl⟩
        rw [← hgz] at HS1 ⊢
        generalize wr.alloc (.cells #[.int .i64 (F 0), .int .i64 (F 1), .int .i64 (F 2), .int .i64 (F 3)] 70) = u5 at *
        clear hgz
        have HC := Lib.hid HS1.out.drew
        go_region_held3 (fun w' => (w'.cell? ⟨gz, 0, none⟩ = some (.int .i64 (F 0)) ∧ w'.cell? ⟨gz, 1, none⟩ = some (.int .i64 (F 1)) ∧ w'.cell? ⟨gz, 2, none⟩ = some (.int .i64 (F 2)) ∧ w'.cell? ⟨gz, 3, none⟩ = some (.int .i64 (F 3))) ∧ (w'.cell? ⟨u2.heap.size, 2, none⟩ = some (.slice (some ⟨b', off', none⟩) (W * H) c2)) ∧ (w'.cell? ⟨b', off' + k * 4, none⟩ = some (.int .i64 (G 0)) ∧ w'.cell? ⟨b', off' + k * 4 + 1, none⟩ = some (.int .i64 (G 1)) ∧ w'.cell? ⟨b', off' + k * 4 + 2, none⟩ = some (.int .i64 (G 2)) ∧ w'.cell? ⟨b', off' + k * 4 + 3, none⟩ = some (.int .i64 (G 3))))
          (first | exact ⟨HC.out.c4 (T := 70) (by simp), (HC.out.c3 (T := 51) (a0 := .int .i64 (W : Int)) (a1 := .int .i64 (H : Int)) (by simp)).2.2, HY0.out⟩)
          (first | (go_at_call 47; (refine (icg_any F G HC1.out HC2.out _).mono ?_); rintro e u6 ⟨rfl, hB⟩; have HD := Lib.hid (GS.call HC.out hB); have HY1 := Lib.hid (And.intro ((hB.cell (p := ⟨b', off' + k * 4, none⟩) (by exact hbz)).trans HY0.out.1) (And.intro ((hB.cell (p := ⟨b', off' + k * 4 + 1, none⟩) (by exact hbz)).trans HY0.out.2.1) (And.intro ((hB.cell (p := ⟨b', off' + k * 4 + 2, none⟩) (by exact hbz)).trans HY0.out.2.2.1) ((hB.cell (p := ⟨b', off' + k * 4 + 3, none⟩) (by exact hbz)).trans HY0.out.2.2.2)))); clear hB HC HY0; have HC := HD; have HY0 := HY1; clear HD HY1))
        all_goals
          have HZ := Lib.hid ((HC.out.2.2.2.1 _ (List.Mem.head _)).2.1)
          have HF := Lib.hid (show GS _ _ _ _ from ⟨HC.out.1, HC.out.2.1, HC.out.2.2.1, fun b hm => HC.out.2.2.2.1 b (List.mem_cons_of_mem _ hm), (List.pairwise_cons.1 HC.out.2.2.2.2).2⟩)
          clear HC HY0 HS1 HZ
          go_wp2
          go_roundw
          case rel => exact ⟨k + 1, by omega, by go_num, by rw [HG.out]; first | rfl | rw [HWR.out], HF⟩
          case measure => simp [intOf]; omega
      · have hk' : k = W * H := by omega
        have HK : Hid (gapC W (pxc W P xs) (pxc W P ys) k = gapV W H P xs W H P ys) := Lib.hid (by rw [hk']; exact HE.out)
        clear hk'
        go_wp2
        go_ret
        exact ⟨ret_int HK.out, HS.out.below⟩
end Go.Proofs.Ytfjcbdpepbcjcaa
