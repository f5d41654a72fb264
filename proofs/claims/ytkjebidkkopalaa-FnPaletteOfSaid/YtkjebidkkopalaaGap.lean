/- Contracts of GapOf, in the model and in the program. -/
import Derived.Test.YtkjebidkkopalaaGapM
import Derived.Test.YtkjebidkkopalaaGen
import Derived.Test.YtkjebidkkopalaaGridF
import Derived.Test.YtkjebidkkopalaaImgB
import Derived.Deep.RegionHeld3
namespace Go.Proofs.Ytkjebidkkopalaa
open Go.RowKit
set_option linter.unusedSimpArgs false
set_option linter.unusedVariables false
set_option maxRecDepth 20000

/-- Whether two images are valid and have one shape. -/
def cmpB (W H P : Int) (xs : List Int) (W' H' P' : Int) (ys : List Int) : Bool := vim W H P xs && (vim W' H' P' ys && (decide (W = W') && (decide (H = H') && decide (P = P'))))
def gapV (W H P : Int) (xs : List Int) (W' H' P' : Int) (ys : List Int) : Int := if cmpB W H P xs W' H' P' ys = true then gapN xs ys xs.length else -1
theorem cmpB_nat {W H P W' H' P' : Int} {xs ys : List Int} (h : cmpB W H P xs W' H' P' ys = true) : ∃ w h p : Nat, W = w ∧ H = h ∧ P = p ∧ W' = w ∧ H' = h ∧ P' = p ∧ (1 ≤ w ∧ w ≤ 16) ∧ (1 ≤ h ∧ h ≤ 16) ∧ (1 ≤ p ∧ p ≤ 4) ∧ xs.length = w * h * p ∧ ys.length = w * h * p ∧ (∀ j, j < xs.length → 0 ≤ xs.getD j 0 ∧ xs.getD j 0 ≤ 255) ∧ ∀ j, j < xs.length → 0 ≤ ys.getD j 0 ∧ ys.getD j 0 ≤ 255 := by
  unfold cmpB at h
  rw [Bool.and_eq_true, Bool.and_eq_true, Bool.and_eq_true, Bool.and_eq_true] at h
  obtain ⟨h1, h2, h3, h4, h5⟩ := h
  obtain rfl := of_decide_eq_true h3
  obtain rfl := of_decide_eq_true h4
  obtain rfl := of_decide_eq_true h5
  obtain ⟨w, h, p, rfl, rfl, rfl, a1, a2, a3, a4, a5, a6, hl, hb⟩ := vim_nat h1
  obtain ⟨w', h', p', e1, e2, e3, _, _, _, _, _, _, hl', hb'⟩ := vim_nat h2
  obtain rfl : w = w' := by omega
  obtain rfl : h = h' := by omega
  obtain rfl : p = p' := by omega
  exact ⟨w, h, p, rfl, rfl, rfl, rfl, rfl, rfl, ⟨a1, a2⟩, ⟨a3, a4⟩, ⟨a5, a6⟩, hl, hl', hb, fun j hj => hb' j (by rw [hl']; rw [hl] at hj; exact hj)⟩
theorem cmpB_of {W H P W' H' P' : Int} {xs ys : List Int} (h : cmpB W H P xs W' H' P' ys = true) : ys.length = xs.length ∧ (∀ j, j < xs.length → 0 ≤ xs.getD j 0 ∧ xs.getD j 0 ≤ 255) ∧ ∀ j, j < xs.length → 0 ≤ ys.getD j 0 ∧ ys.getD j 0 ≤ 255 := by
  obtain ⟨w, h, p, _, _, _, _, _, _, _, _, _, hl, hl', hb, hb'⟩ := cmpB_nat h
  exact ⟨by rw [hl, hl'], hb, hb'⟩
set_option maxHeartbeats 8000000 in
theorem sgap_any (A A' : Option Addr) (c c' n : Nat) (xs ys : List Int) (w : World) (hn : n = xs.length) (hn' : ys.length = n) (hx : Rds .i64 w w.heap.size A xs) (hy : Rds .i64 w w.heap.size A' ys) (hl : n ≤ 2000000) (hbx : ∀ j, j < n → 0 ≤ xs.getD j 0 ∧ xs.getD j 0 ≤ 255) (hby : ∀ j, j < n → 0 ≤ ys.getD j 0 ∧ ys.getD j 0 ≤ 255) :
    Calls Try.prog 88 #[.slice A n c, .slice A' n c'] w fun e w' => e = .returned (.int .i64 (gapN xs ys n)) ∧ Below w.heap.size w w' := by
  have HX := Lib.hid hx
  have HY := Lib.hid hy
  have HN := Lib.hid hn
  have HN' := Lib.hid hn'
  have HBX := Lib.hid hbx
  have HBY := Lib.hid hby
  clear hx hy hn hn' hbx hby
  go_enter Try.func88, Try.ntmps88
  go_wp2
  go_loopw [5, 6] (fun s i wr => ∃ k : Nat, k ≤ n ∧ i = .int .i64 k ∧ s = .int .i64 (gapN xs ys k) ∧ Below w.heap.size w wr) (fun _ i _ => n - (intOf i).toNat)
  case atStart => exact ⟨0, Nat.zero_le _, rfl, rfl, Below.refl _ _⟩
  case round =>
    obtain ⟨k, hk, rfl, rfl, hbel⟩ := hrel
    obtain ⟨s0, s1⟩ := gapN_bd HBX.out HBY.out k hk
    by_cases hlt : k < n
    · obtain ⟨b, off, rfl, hb, hc⟩ := HX.out.cells_ (j := k) (by have := HN.out; omega)
      obtain ⟨b', off', rfl, hb', hc'⟩ := HY.out.cells_ (j := k) (by have := HN'.out; omega)
      have hc0 := (hbel.cell (p := ⟨b, off + k, none⟩) hb).trans (hc k (by have := HN.out; omega))
      have hd0 := (hbel.cell (p := ⟨b', off' + k, none⟩) hb').trans (hc' k (by have := HN'.out; omega))
      obtain ⟨x0, x1⟩ := HBX.out k hlt
      obtain ⟨y0, y1⟩ := HBY.out k hlt
      have HS : Hid (gapN xs ys (k + 1) = gapN xs ys k + sq (xs.getD k 0) (ys.getD k 0)) := Lib.hid rfl
      clear hc hc'
      generalize xs.getD k 0 = x at *
      generalize ys.getD k 0 = y at *
      generalize gapN xs ys k = T at *
      obtain ⟨q0, q1⟩ := sq_bd ⟨x0, x1⟩ ⟨y0, y1⟩
      unfold sq at q0 q1 HS
      have hw1 : IntKind.i64.wrap (x - y) = x - y := IntWalk.i64_in _ (by omega)
      have hw2 : IntKind.i64.wrap ((x - y) * (x - y)) = (x - y) * (x - y) := IntWalk.i64_in _ (by omega)
      have HBL := Lib.hid hbel
      clear hbel
      go_wp2
      go_quiet (fail)
      go_wp2
      go_roundw
      case rel => exact ⟨k + 1, by omega, by go_num, by rw [HS.out], ⟨HBL.out.os, HBL.out.tape, HBL.out.output, HBL.out.size, HBL.out.block⟩⟩
      case measure => simp [intOf]; omega
    · have hk' : k = n := by omega
      have HK : Hid (gapN xs ys k = gapN xs ys n) := Lib.hid (by rw [hk'])
      clear hk'
      go_wp2
      go_ret
      exact ⟨ret_int HK.out, hbel⟩
theorem colB {w : World} {g : Nat} {T : TypeId} {c : Nat → Int} (h : Bx w g T #[.int .i64 (c 0), .int .i64 (c 1), .int .i64 (c 2), .int .i64 (c 3)]) : ∀ j, j < 4 → w.cell? ⟨g, j, none⟩ = some (.int .i64 (c j)) := by
  intro j hj
  rw [cell_of_row w g j _ _ _ h]
  match j, hj with
  | 0, _ => rfl
  | 1, _ => rfl
  | 2, _ => rfl
  | 3, _ => rfl
set_option maxHeartbeats 1000000 in
theorem isq_any (x : Int) (h : -70000 ≤ x ∧ x ≤ 70000) (w : World) : Calls Try.prog 90 #[.int .i64 x] w fun e w' => e = .returned (.int .i64 (x * x)) ∧ w' = w := by
  have h1 : -4900000000 ≤ x * x ∧ x * x ≤ 4900000000 := by
    have h2 : x.natAbs ≤ 70000 := by omega
    have h3 : x.natAbs * x.natAbs ≤ 70000 * 70000 := Nat.mul_le_mul h2 h2
    have h4 := Int.natAbs_mul_self (a := x)
    omega
  have hw1 : IntKind.i64.wrap (x * x) = x * x := IntWalk.i64_in _ (by omega)
  go_enter Try.func90, Try.ntmps90
  go_wp2
  go_ret
  exact ⟨rfl, rfl⟩
set_option maxHeartbeats 8000000 in
theorem icg_any (c d : Nat → Int) (hbx : ∀ j, j < 4 → 0 ≤ c j ∧ c j ≤ 255) (hby : ∀ j, j < 4 → 0 ≤ d j ∧ d j ≤ 255) (w : World) :
    Calls Try.prog 84 #[colV c, colV d] w fun e w' => e = .returned (.int .i64 (cgN c d 4)) ∧ Below w.heap.size w w' := by
  have S0 : GS w ((w.alloc (.cells #[.int .i64 (c 0), .int .i64 (c 1), .int .i64 (c 2), .int .i64 (c 3)] 66)).alloc (.cells #[.int .i64 (d 0), .int .i64 (d 1), .int .i64 (d 2), .int .i64 (d 3)] 66)) [] [⟨w.heap.size + 1, 66, #[.int .i64 (d 0), .int .i64 (d 1), .int .i64 (d 2), .int .i64 (d 3)]⟩, ⟨w.heap.size, 66, #[.int .i64 (c 0), .int .i64 (c 1), .int .i64 (c 2), .int .i64 (c 3)]⟩] :=
    GS.box' (GS.box' (GS.start w) _ _ w.heap.size (by simp)) _ _ (w.heap.size + 1) (by simp)
  unfold colV
  have HS0 := Lib.hid S0
  have HBX := Lib.hid hbx
  have HBY := Lib.hid hby
  clear S0 hbx hby
  go_enter Try.func84, Try.ntmps84
  go_wp2
  go_loopw [5, 7] (fun s i wr => ∃ k : Nat, k ≤ 4 ∧ i = .int .i64 k ∧ s = .int .i64 (cgN c d k) ∧ Hid (GS w wr [] [⟨w.heap.size + 1, 66, #[.int .i64 (d 0), .int .i64 (d 1), .int .i64 (d 2), .int .i64 (d 3)]⟩, ⟨w.heap.size, 66, #[.int .i64 (c 0), .int .i64 (c 1), .int .i64 (c 2), .int .i64 (c 3)]⟩])) (fun _ i _ => 4 - (intOf i).toNat)
  case atStart => exact ⟨0, by omega, rfl, rfl, HS0⟩
  case round =>
    obtain ⟨k, hk, rfl, rfl, HS⟩ := hrel
    obtain ⟨s0, s1⟩ := cgN_bd HBX.out HBY.out k hk
    by_cases hlt : k < 4
    · have hc0 := colB (HS.out.bx (g := w.heap.size) (T := 66) (cs := #[.int .i64 (c 0), .int .i64 (c 1), .int .i64 (c 2), .int .i64 (c 3)]) (by simp)) k hlt
      have hd0 := colB (HS.out.bx (g := w.heap.size + 1) (T := 66) (cs := #[.int .i64 (d 0), .int .i64 (d 1), .int .i64 (d 2), .int .i64 (d 3)]) (by simp)) k hlt
      obtain ⟨x0, x1⟩ := HBX.out k hlt
      obtain ⟨y0, y1⟩ := HBY.out k hlt
      have HG : Hid (cgN c d (k + 1) = cgN c d k + sq (c k) (d k)) := Lib.hid rfl
      generalize c k = x at *
      generalize d k = y at *
      generalize cgN c d k = T at *
      obtain ⟨q0, q1⟩ := sq_bd ⟨x0, x1⟩ ⟨y0, y1⟩
      unfold sq at q0 q1 HG
      have hw1 : IntKind.i64.wrap (x - y) = x - y := IntWalk.i64_in _ (by omega)
      have hw2 : IntKind.i64.wrap ((x - y) * (x - y)) = (x - y) * (x - y) := IntWalk.i64_in _ (by omega)
      go_wp2
      go_quiet ((go_at_call 90; exact Calls.quiet_of_same (isq_any (x - y) (by omega) _)))
      go_wp2
      go_roundw
      case rel => exact ⟨k + 1, by omega, by go_num, by rw [HG.out], Lib.hid (HS.out.drewN _)⟩
      case measure => simp [intOf]; omega
    · have hk' : k = 4 := by omega
      subst hk'
      go_wp2
      go_ret
      exact ⟨rfl, HS.out.below⟩
end Go.Proofs.Ytkjebidkkopalaa
