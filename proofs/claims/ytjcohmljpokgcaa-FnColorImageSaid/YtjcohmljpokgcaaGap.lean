/- Contracts of GapOf, in the model and in the program. -/
import Derived.Test.YtjcohmljpokgcaaGapM
import Derived.Test.YtjcohmljpokgcaaGen
import Derived.Test.YtjcohmljpokgcaaGridF
import Derived.Test.YtjcohmljpokgcaaImgB
import Derived.Deep.RegionHeld3
namespace Go.Proofs.Ytjcohmljpokgcaa
open Go.RowKit
set_option linter.unusedSimpArgs false
set_option linter.unusedVariables false
set_option maxRecDepth 20000

/-- Whether two images are valid and have one shape. -/
def cmpB (W H P : Int) (xs : List Int) (W' H' P' : Int) (ys : List Int) : Bool := vim W H P xs && (vim W' H' P' ys && (decide (W = W') && (decide (H = H') && decide (P = P'))))
def gapV (W H P : Int) (xs : List Int) (W' H' P' : Int) (ys : List Int) : Int := if cmpB W H P xs W' H' P' ys = true then gapN xs ys xs.length else -1
theorem cmpB_nat {W H P W' H' P' : Int} {xs ys : List Int} (h : cmpB W H P xs W' H' P' ys = true) : ∃ w h p : Nat, W = w ∧ H = h ∧ P = p ∧ W' = w ∧ H' = h ∧ P' = p ∧ (1 ≤ w ∧ w ≤ 16) ∧ (1 ≤ h ∧ h ≤ 16) ∧ (1 ≤ p ∧ p ≤ 4) ∧ xs.length = w * h * p ∧ ys.length = w * h * p ∧ (∀ j, j < xs.length → 0 ≤ xs.getD j 0 ∧ xs.getD j 0 ≤ 255) ∧ ∀ j, j < xs.length → 0 ≤ ys.getD j 0 ∧ ys.getD j 0 ≤ 255 := by
  unfold cmpB at h
  rw [Bool.and_eq_true, Bool.and_eq_true, Bool.and_eq_true, Bool.and_eq_true] at h
  obtain ⟨h1, h2, h3, h4, h5⟩ := h
  obtain rfl := of_decide_eq_true h3
  obtain rfl := of_decide_eq_true h4
  obtain rfl := of_decide_eq_true h5
  obtain ⟨w, h, p, rfl, rfl, rfl, a1, a2, a3, a4, a5, a6, hl, hb⟩ := vim_nat h1
  obtain ⟨w', h', p', e1, e2, e3, _, _, _, _, _, _, hl', hb'⟩ := vim_nat h2
  obtain rfl : w = w' := by omega
  obtain rfl : h = h' := by omega
  obtain rfl : p = p' := by omega
  exact ⟨w, h, p, rfl, rfl, rfl, rfl, rfl, rfl, ⟨a1, a2⟩, ⟨a3, a4⟩, ⟨a5, a6⟩, hl, hl', hb, fun j hj => hb' j (by rw [hl']; rw [hl] at hj; exact hj)⟩
theorem cmpB_of {W H P W' H' P' : Int} {xs ys : List Int} (h : cmpB W H P xs W' H' P' ys = true) : ys.length = xs.length ∧ (∀ j, j < xs.length → 0 ≤ xs.getD j 0 ∧ xs.getD j 0 ≤ 255) ∧ ∀ j, j < xs.length → 0 ≤ ys.getD j 0 ∧ ys.getD j 0 ≤ 255 := by
  obtain ⟨w, h, p, _, _, _, _, _, _, _, _, _, hl, hl', hb, hb'⟩ := cmpB_nat h
  exact ⟨by rw [hl, hl'], hb, hb'⟩
theorem colB {w : World} {g : Nat} {T : TypeId} {c : Nat → Int} (h : Bx w g T #[.int .i64 (c 0), .int .i64 (c 1), .int .i64 (c 2), .int .i64 (c 3)]) : ∀ j, j < 4 → w.cell? ⟨g, j, none⟩ = some (.int .i64 (c j)) := by
  intro j hj
  rw [cell_of_row w g j _ _ _ h]
  match j, hj with
  | 0, _ => rfl
  | 1, _ => rfl
  | 2, _ => rfl
  | 3, _ => rfl
set_option maxHeartbeats 1000000 in
theorem isq_any (x : Int) (h : -70000 ≤ x ∧ x ≤ 70000) (w : World) : Calls Try.prog 71 #[.int .i64 x] w fun e w' => e = .returned (.int .i64 (x * x)) ∧ w' = w := by
  have h1 : -4900000000 ≤ x * x ∧ x * x ≤ 4900000000 := by
    have h2 : x.natAbs ≤ 70000 := by omega
    have h3 : x.natAbs * x.natAbs ≤ 70000 * 70000 := Nat.mul_le_mul h2 h2
    have h4 := Int.natAbs_mul_self (a := x)
    omega
  have hw1 : IntKind.i64.wrap (x * x) = x * x := IntWalk.i64_in _ (by omega)
  go_enter Try.func71, Try.ntmps71
  go_wp2
  go_ret
  exact ⟨rfl, rfl⟩
set_option maxHeartbeats 8000000 in
theorem icg_any (c d : Nat → Int) (hbx : ∀ j, j < 4 → 0 ≤ c j ∧ c j ≤ 255) (hby : ∀ j, j < 4 → 0 ≤ d j ∧ d j ≤ 255) (w : World) :
    Calls Try.prog 68 #[colV c, colV d] w fun e w' => e = .returned (.int .i64 (cgN c d 4)) ∧ Below w.heap.size w w' := by
  have S0 : GS w ((w.alloc (.cells #[.int .i64 (c 0), .int .i64 (c 1), .int .i64 (c 2), .int .i64 (c 3)] 62)).alloc (.cells #[.int .i64 (d 0), .int .i64 (d 1), .int .i64 (d 2), .int .i64 (d 3)] 62)) [] [⟨w.heap.size + 1, 62, #[.int .i64 (d 0), .int .i64 (d 1), .int .i64 (d 2), .int .i64 (d 3)]⟩, ⟨w.heap.size, 62, #[.int .i64 (c 0), .int .i64 (c 1), .int .i64 (c 2), .int .i64 (c 3)]⟩] :=
    GS.box' (GS.box' (GS.start w) _ _ w.heap.size (by simp)) _ _ (w.heap.size + 1) (by simp)
  unfold colV
  have HS0 := Lib.hid S0
  have HBX := Lib.hid hbx
  have HBY := Lib.hid hby
  clear S0 hbx hby
  go_enter Try.func68, Try.ntmps68
  go_wp2
  go_loopw [5, 7] (fun s i wr => ∃ k : Nat, k ≤ 4 ∧ i = .int .i64 k ∧ s = .int .i64 (cgN c d k) ∧ Hid (GS w wr [] [⟨w.heap.size + 1, 62, #[.int .i64 (d 0), .int .i64 (d 1), .int .i64 (d 2), .int .i64 (d 3)]⟩, ⟨w.heap.size, 62, #[.int .i64 (c 0), .int .i64 (c 1), .int .i64 (c 2), .int .i64 (c 3)]⟩])) (fun _ i _ => 4 - (intOf i).toNat)
  case atStart => exact ⟨0, by omega, rfl, rfl, HS0⟩
  case round =>
    obtain ⟨k, hk, rfl, rfl, HS⟩ := hrel
    obtain ⟨s0, s1⟩ := cgN_bd HBX.out HBY.out k hk
    by_cases hlt : k < 4
    · have hc0 := colB (HS.out.bx (g := w.heap.size) (T := 62) (cs := #[.int .i64 (c 0), .int .i64 (c 1), .int .i64 (c 2), .int .i64 (c 3)]) (by simp)) k hlt
      have hd0 := colB (HS.out.bx (g := w.heap.size + 1) (T := 62) (cs := #[.int .i64 (d 0), .int .i64 (d 1), .int .i64 (d 2), .int .i64 (d 3)]) (by simp)) k hlt
      obtain ⟨x0, x1⟩ := HBX.out k hlt
      obtain ⟨y0, y1⟩ := HBY.out k hlt
      have HG : Hid (cgN c d (k + 1) = cgN c d k + sq (c k) (d k)) := Lib.hid rfl
      generalize c k = x at *
      generalize d k = y at *
      generalize cgN c d k = T at *
      obtain ⟨q0, q1⟩ := sq_bd ⟨x0, x1⟩ ⟨y0, y1⟩
      unfold sq at q0 q1 HG
      have hw1 : IntKind.i64.wrap (x - y) = x - y := IntWalk.i64_in _ (by omega)
      have hw2 : IntKind.i64.wrap ((x - y) * (x - y)) = (x - y) * (x - y) := IntWalk.i64_in _ (by omega)
      go_wp2
      go_quiet ((go_at_call 71; exact Calls.quiet_of_same (isq_any (x - y) (by omega) _)))
      go_wp2
      go_roundw
      case rel => exact ⟨k + 1, by omega, by go_num, by rw [HG.out], Lib.hid (HS.out.drewN _)⟩
      case measure => simp [intOf]; omega
    · have hk' : k = 4 := by omega
      subst hk'
      go_wp2
      go_ret
      exact ⟨rfl, HS.out.below⟩
end Go.Proofs.Ytjcohmljpokgcaa
