/- Contracts of CheckOf, in the model and in the program. -/
import Derived.Test.YtegiccljmlghlaaFilterA
namespace Go.Proofs.Ytegiccljmlghlaa
open Go.RowKit
set_option linter.unusedSimpArgs false
set_option linter.unusedVariables false

def ckx (xs : List Int) : Nat → Int
  | 0 => 1
  | k + 1 => (ckx xs k + xs.getD k 0) % 251
def cky (xs : List Int) : Nat → Int
  | 0 => 0
  | k + 1 => (cky xs k + ckx xs (k + 1)) % 251
theorem ckx_range (xs : List Int) (k : Nat) : 0 ≤ ckx xs k ∧ ckx xs k ≤ 250 := by
  cases k with
  | zero => simp [ckx]
  | succ k => simp only [ckx]; omega
theorem cky_range (xs : List Int) (k : Nat) : 0 ≤ cky xs k ∧ cky xs k ≤ 250 := by
  cases k with
  | zero => simp [cky]
  | succ k => simp only [cky]; omega
def vbs (xs : List Int) : Bool := decide (xs.length ≤ 1200 ∧ allB 0 255 xs = true)
/-- What CheckOf answers. -/
def chk (xs : List Int) : Int := if vbs xs = true then 256 * cky xs xs.length + ckx xs xs.length else -1
set_option maxHeartbeats 2000000 in
theorem sBytes_any (A : Option Addr) (c B : Nat) (xs : List Int) (w : World) (hx : Rds .i64 w B A xs) (hl : xs.length ≤ 10000000) :
    Calls Try.prog 89 #[.slice A xs.length c] w fun e w' => e = .returned (.bool (vbs xs)) ∧ w = w' := by
  have Hx := Lib.hid hx
  clear hx
  by_cases h64 : xs.length ≤ 1200
  · have HR : Hid (allB 0 255 xs = vbs xs) := Lib.hid (by unfold vbs; cases allB 0 255 xs <;> simp [h64])
    go_enter Try.func89, Try.ntmps89
    go_wp2_with fail
    refine (sAllIn_any A c _ xs 0 255 _ Hx.out hl).mono ?_
    rintro e w' ⟨rfl, rfl⟩
    go_wp2
    go_ret
    exact ⟨ret_bool HR.out, rfl⟩
  · have HR : Hid (vbs xs = false) := Lib.hid (decide_eq_false fun h => h64 h.1)
    go_enter Try.func89, Try.ntmps89
    go_wp2
    go_ret
    exact ⟨ret_bool HR.out.symm, rfl⟩
set_option maxHeartbeats 2000000 in
theorem iBytes_any (A : Option Addr) (c B : Nat) (xs : List Int) (w : World) (hx : Rds .i64 w B A xs) (hl : xs.length ≤ 10000000) :
    Calls Try.prog 88 #[.slice A xs.length c] w fun e w' => e = .returned (.bool (vbs xs)) ∧ w = w' := by
  have Hx := Lib.hid hx
  clear hx
  by_cases h64 : xs.length ≤ 1200
  · have HR : Hid (allB 0 255 xs = vbs xs) := Lib.hid (by unfold vbs; cases allB 0 255 xs <;> simp [h64])
    go_enter Try.func88, Try.ntmps88
    go_wp2_with fail
    refine (areBytes_any A c _ xs _ Hx.out hl).mono ?_
    rintro e w' ⟨rfl, rfl⟩
    go_wp2
    go_ret
    exact ⟨ret_bool HR.out, rfl⟩
  · have HR : Hid (vbs xs = false) := Lib.hid (decide_eq_false fun h => h64 h.1)
    go_enter Try.func88, Try.ntmps88
    go_wp2
    go_ret
    exact ⟨ret_bool HR.out.symm, rfl⟩
theorem vbs_parts {xs : List Int} (h : vbs xs = true) : xs.length ≤ 1200 ∧ Byt xs := by
  obtain ⟨h1, h2⟩ := of_decide_eq_true h
  exact ⟨h1, byt_of (of_decide_eq_true h2)⟩
set_option maxHeartbeats 2000000 in
theorem sAdler_any (A : Option Addr) (c B : Nat) (xs : List Int) (w : World) (hx : Rds .i64 w B A xs) (hl : xs.length ≤ 10000000) (hb : Byt xs) :
    Calls Try.prog 90 #[.slice A xs.length c] w fun e w' => e = .returned (.int .i64 (256 * cky xs xs.length + ckx xs xs.length)) ∧ w = w' := by
  have Hx := Lib.hid hx
  have Hb := Lib.hid hb
  clear hx hb
  go_enter Try.func90, Try.ntmps90
  go_wp2
  go_loop [3, 4, 5] (fun x y i => ∃ k : Nat, k ≤ xs.length ∧ i = .int .i64 k ∧ x = .int .i64 (ckx xs k) ∧ y = .int .i64 (cky xs k)) (fun _ _ i => xs.length - (intOf i).toNat)
  case atStart => exact ⟨0, Nat.zero_le _, rfl, rfl, rfl⟩
  case round =>
    obtain ⟨k, hk, rfl, rfl, rfl⟩ := hrel
    have r1 := ckx_range xs k
    have r2 := cky_range xs k
    by_cases hlt : k < xs.length
    · obtain ⟨b, off, rfl, _, hc⟩ := Hx.out.cells_ hlt
      have h1 := hc k hlt
      have hr := Hb.out k
      have HX : Hid ((ckx xs k + xs.getD k 0) % 251 = ckx xs (k + 1)) := Lib.hid rfl
      have HY : Hid ((cky xs k + (ckx xs k + xs.getD k 0) % 251) % 251 = cky xs (k + 1)) := Lib.hid rfl
      clear hc
      generalize xs.getD k 0 = n at *
      generalize ckx xs k = x at *
      generalize cky xs k = y at *
      go_wp2
      go_round
      case rel => exact ⟨k + 1, by omega, by go_num, by rw [HX.out], by rw [HY.out]⟩
      case measure => simp [intOf]; omega
    · have hk' : k = xs.length := by omega
      have Hk := Lib.hid hk'
      clear hk'
      go_wp2
      go_ret
      exact ⟨ret_int (by rw [Hk.out]), rfl⟩
set_option maxHeartbeats 2000000 in
theorem s_CheckOf (A : Option Addr) (c B : Nat) (xs : List Int) (w : World) (hx : Rds .i64 w B A xs) (hl : xs.length ≤ 10000000) :
    Calls Try.prog 38 #[.slice A xs.length c] w fun e w' => e = .returned (.int .i64 (chk xs)) ∧ w = w' := by
  have Hx := Lib.hid hx
  clear hx
  cases hv : vbs xs
  · have HR : Hid (chk xs = -1) := Lib.hid (if_neg (by rw [hv]; simp))
    go_enter Try.func38, Try.ntmps38
    go_wp2_with fail
    refine (sBytes_any A c _ xs _ Hx.out hl).mono ?_
    rintro e w' ⟨rfl, rfl⟩
    go_wp2
    go_ret
    exact ⟨ret_int HR.out.symm, rfl⟩
  · have HR : Hid (chk xs = _) := Lib.hid (if_pos hv)
    have HB := Lib.hid (vbs_parts hv)
    go_enter Try.func38, Try.ntmps38
    go_wp2_with fail
    refine (sBytes_any A c _ xs _ Hx.out hl).mono ?_
    rintro e w' ⟨rfl, rfl⟩
    go_wp2_with fail
    refine (sAdler_any A c _ xs _ Hx.out hl HB.out.2).mono ?_
    rintro e w' ⟨rfl, rfl⟩
    go_wp2
    go_ret
    exact ⟨ret_int HR.out.symm, rfl⟩
set_option maxHeartbeats 2000000 in
theorem i_CheckOf (A : Option Addr) (c B : Nat) (xs : List Int) (w : World) (hx : Rds .i64 w B A xs) (hl : xs.length ≤ 10000000) :
    Calls Try.prog 37 #[.slice A xs.length c] w fun e w' => e = .returned (.int .i64 (chk xs)) ∧ w = w' := by
  have Hx := Lib.hid hx
  clear hx
  cases hv : vbs xs
  · have HR : Hid (chk xs = -1) := Lib.hid (if_neg (by rw [hv]; simp))
    go_enter Try.func37, Try.ntmps37
    go_wp2_with fail
    refine (iBytes_any A c _ xs _ Hx.out hl).mono ?_
    rintro e w' ⟨rfl, rfl⟩
    go_wp2
    go_ret
    exact ⟨ret_int HR.out.symm, rfl⟩
  · have HR : Hid (chk xs = _) := Lib.hid (if_pos hv)
    have HB := Lib.hid (vbs_parts hv)
    go_enter Try.func37, Try.ntmps37
    go_wp2_with fail
    refine (iBytes_any A c _ xs _ Hx.out hl).mono ?_
    rintro e w' ⟨rfl, rfl⟩
    go_wp2
    clear hv
    go_loop [3, 4, 12] (fun x y i => ∃ k : Nat, k ≤ xs.length ∧ i = .int .i64 k ∧ x = .int .i64 (ckx xs k) ∧ y = .int .i64 (cky xs k)) (fun _ _ i => xs.length - (intOf i).toNat)
    case atStart => exact ⟨0, Nat.zero_le _, rfl, rfl, rfl⟩
    case round =>
      obtain ⟨k, hk, rfl, rfl, rfl⟩ := hrel
      have r1 := ckx_range xs k
      have r2 := cky_range xs k
      by_cases hlt : k < xs.length
      · obtain ⟨b, off, rfl, _, hc⟩ := Hx.out.cells_ hlt
        have h1 := hc k hlt
        have hr := HB.out.2 k
        have HX : Hid ((ckx xs k + xs.getD k 0) % 251 = ckx xs (k + 1)) := Lib.hid rfl
        have HY : Hid ((cky xs k + (ckx xs k + xs.getD k 0) % 251) % 251 = cky xs (k + 1)) := Lib.hid rfl
        clear hc
        generalize xs.getD k 0 = n at *
        generalize ckx xs k = x at *
        generalize cky xs k = y at *
        go_wp2
        go_round
        case rel => exact ⟨k + 1, by omega, by go_num, by rw [HX.out], by rw [HY.out]⟩
        case measure => simp [intOf]; omega
      · have hk' : k = xs.length := by omega
        have Hk := Lib.hid hk'
        clear hk'
        go_wp2
        go_ret
        exact ⟨ret_int (by rw [HR.out, Hk.out]), rfl⟩
theorem chk_range (xs : List Int) : -1 ≤ chk xs ∧ chk xs ≤ 65000 := by
  have h1 := ckx_range xs xs.length
  have h2 := cky_range xs xs.length
  unfold chk
  split <;> omega
end Go.Proofs.Ytegiccljmlghlaa
