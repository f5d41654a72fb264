/- Contracts of levels: the program and the model answer the same level. -/
import Derived.Test.YtdmdgdmnbgchoaaDoorProg
import Derived.WalkKit
import Derived.Test.YtdmdgdmnbgchoaaDoorLevM
namespace Go.Proofs.YtdmdgdmnbgchoaaDoor
open Go.RowKit
set_option linter.unusedSimpArgs false
set_option linter.unusedVariables false

set_option maxHeartbeats 1000000 in
theorem sRng_any (n lo hi : Int) (w : World) : Calls Tryd.prog 44 #[.int .i64 n, .int .i64 lo, .int .i64 hi] w fun e w' => e = .returned (.bool (decide (lo ≤ n ∧ n ≤ hi))) ∧ w = w' := by
  by_cases h1 : lo ≤ n <;> by_cases h2 : n ≤ hi
  all_goals
    go_enter Tryd.func44, Tryd.ntmps44
    go_wp2
    go_ret
    exact ⟨ret_bool (by simp [h1, h2] <;> omega), rfl⟩
set_option maxHeartbeats 1000000 in
theorem iRng_any (n lo hi : Int) (w : World) : Calls Tryd.prog 30 #[.int .i64 n, .int .i64 lo, .int .i64 hi] w fun e w' => e = .returned (.bool (decide (lo ≤ n ∧ n ≤ hi))) ∧ w = w' := by
  by_cases h1 : lo ≤ n <;> by_cases h2 : n ≤ hi
  all_goals
    go_enter Tryd.func30, Tryd.ntmps30
    go_wp2
    go_ret
    exact ⟨ret_bool (by simp [h1, h2] <;> omega), rfl⟩
theorem sVlv_any (L : Int) (w : World) : Calls Tryd.prog 24 #[.int .i64 L] w fun e w' => e = .returned (.bool (lvB L)) ∧ w = w' := by
  go_enter Tryd.func24, Tryd.ntmps24
  go_wp2_with fail
  refine (sRng_any L 2 16 w).mono ?_
  rintro e w' ⟨rfl, rfl⟩
  go_wp2
  go_ret
  exact ⟨ret_bool (by simp [lvB]), rfl⟩
theorem iVlv_any (L : Int) (w : World) : Calls Tryd.prog 29 #[.int .i64 L] w fun e w' => e = .returned (.bool (lvB L)) ∧ w = w' := by
  go_enter Tryd.func29, Tryd.ntmps29
  go_wp2_with fail
  refine (iRng_any L 2 16 w).mono ?_
  rintro e w' ⟨rfl, rfl⟩
  go_wp2
  go_ret
  exact ⟨ret_bool (by simp [lvB]), rfl⟩
theorem lval_tdiv (k L : Int) (h0 : 0 ≤ k) : (255 * k).tdiv (L - 1) = lval k L := Int.tdiv_eq_ediv_of_nonneg (by omega)
set_option maxHeartbeats 1000000 in
theorem sLvl_any (k L : Int) (w : World) (h0 : 0 ≤ k) (h1 : k ≤ 15) (h2 : 2 ≤ L) (h3 : L ≤ 16) : Calls Tryd.prog 26 #[.int .i64 k, .int .i64 L] w fun e w' => e = .returned (.int .i64 (lval k L)) ∧ w = w' := by
  have hb : 0 ≤ lval k L ∧ lval k L ≤ 10000 := by
    unfold lval
    exact ⟨Int.ediv_nonneg (by omega) (by omega), by have := Int.ediv_le_self (a := 255 * k) (L - 1) (by omega); omega⟩
  go_enter Tryd.func26, Tryd.ntmps26
  go_wp2
  go_ret
  exact ⟨ret_int (by first | rfl | (rw [lval_tdiv k L h0]) | (rw [lval_tdiv k L h0]; exact IntWalk.i64_in _ (by omega))), rfl⟩
set_option maxHeartbeats 1000000 in
theorem iLvl_any (k L : Int) (w : World) (h0 : 0 ≤ k) (h1 : k ≤ 15) (h2 : 2 ≤ L) (h3 : L ≤ 16) : Calls Tryd.prog 22 #[.int .i64 k, .int .i64 L] w fun e w' => e = .returned (.int .i64 (lval k L)) ∧ w = w' := by
  have hb : 0 ≤ lval k L ∧ lval k L ≤ 10000 := by
    unfold lval
    exact ⟨Int.ediv_nonneg (by omega) (by omega), by have := Int.ediv_le_self (a := 255 * k) (L - 1) (by omega); omega⟩
  go_enter Tryd.func22, Tryd.ntmps22
  go_wp2
  go_ret
  exact ⟨ret_int (by first | rfl | (rw [lval_tdiv k L h0]) | (rw [lval_tdiv k L h0]; exact IntWalk.i64_in _ (by omega))), rfl⟩
set_option maxHeartbeats 1000000 in
theorem iDst_any (a b : Int) (w : World) (h0 : -100000 ≤ a) (h1 : a ≤ 100000) (h2 : -100000 ≤ b) (h3 : b ≤ 100000) : Calls Tryd.prog 31 #[.int .i64 a, .int .i64 b] w fun e w' => e = .returned (.int .i64 (adist a b)) ∧ w = w' := by
  by_cases h : a < b
  all_goals
    go_enter Tryd.func31, Tryd.ntmps31
    go_wp2
    go_ret
    exact ⟨ret_int (by unfold adist; split <;> omega), rfl⟩
theorem adist_sub (a b : Int) : adist (a - b) 0 = adist a b := by unfold adist; split <;> split <;> omega
theorem nst_stepLt {n L : Int} {k : Nat} (h : adist (lval k L) n < adist (lval (nst n L k) L) n) : nst n L (k + 1) = k := if_pos h
theorem nst_stepGe {n L : Int} {k : Nat} (h : ¬ adist (lval k L) n < adist (lval (nst n L k) L) n) : nst n L (k + 1) = nst n L k := if_neg h
set_option maxHeartbeats 8000000 in
theorem i_LevelOf (n L : Int) (w : World) : Calls Tryd.prog 9 #[.int .i64 n, .int .i64 L] w fun e w' => e = .returned (.int .i64 (lev n L)) ∧ w = w' := by
  cases hL : lvB L
  · have H := Lib.hid (lev_no (n := n) (.inl hL))
    go_enter Tryd.func9, Tryd.ntmps9
    go_wp2_with fail
    refine (iVlv_any L w).mono ?_
    rintro e w' ⟨rfl, rfl⟩
    rw [hL]
    go_wp2
    go_ret
    exact ⟨ret_int H.out.symm, rfl⟩
  · by_cases hn : -9999 ≤ n ∧ n ≤ 9999
    · obtain ⟨h2, h3⟩ := lvB_bd hL
      have H := Lib.hid (lev_yes hL hn.1 hn.2)
      have hd : decide (-9999 ≤ n ∧ n ≤ 9999) = true := decide_eq_true hn
      obtain ⟨h0, h1⟩ := hn
      go_enter Tryd.func9, Tryd.ntmps9
      go_wp2_with fail
      refine (iVlv_any L w).mono ?_
      rintro e w' ⟨rfl, rfl⟩
      rw [hL]
      go_wp2_with fail
      refine (iRng_any n (-9999) 9999 w).mono ?_
      rintro e w' ⟨rfl, rfl⟩
      rw [hd]
      clear hd hL
      go_wp2
      go_loop [5, 16] (fun b i => ∃ k : Nat, (k : Int) ≤ L ∧ i = .int .i64 k ∧ b = .int .i64 (nst n L k)) (fun _ i => (L - intOf i).toNat)
      case atStart => exact ⟨0, by omega, rfl, rfl⟩
      case round =>
        obtain ⟨k, hkL, rfl, rfl⟩ := hrel
        have hle := nst_le n L k
        by_cases hlt : (k : Int) < L
        · have hb1 := lval_bd k L (by omega) (by omega) h2
          have hb2 := lval_bd (nst n L k) L (by omega) (by omega) h2
          have hd1 : 0 ≤ adist (lval k L) n ∧ adist (lval k L) n ≤ 30000 := by unfold adist; split <;> omega
          have hd2 : 0 ≤ adist (lval (nst n L k) L) n ∧ adist (lval (nst n L k) L) n ≤ 30000 := by unfold adist; split <;> omega
          by_cases hc : adist (lval k L) n < adist (lval (nst n L k) L) n
          · have HS := Lib.hid (nst_stepLt hc)
            generalize nst n L k = B at *
            go_wp2_with fail
            refine (iLvl_any _ L w (by omega) (by omega) h2 h3).mono ?_
            rintro e w' ⟨rfl, rfl⟩
            go_wp2_with fail
            refine (iDst_any _ _ w (by omega) (by omega) (by omega) (by omega)).mono ?_
            rintro e w' ⟨rfl, rfl⟩
            go_wp2_with fail
            refine (iLvl_any _ L w (by omega) (by omega) h2 h3).mono ?_
            rintro e w' ⟨rfl, rfl⟩
            go_wp2_with fail
            refine (iDst_any _ _ w (by omega) (by omega) (by omega) (by omega)).mono ?_
            rintro e w' ⟨rfl, rfl⟩
            go_wp2
            go_round
            case rel => exact ⟨k + 1, by omega, by go_num, by rw [HS.out]⟩
            case measure => simp [intOf]; omega
          · have HS := Lib.hid (nst_stepGe hc)
            generalize nst n L k = B at *
            go_wp2_with fail
            refine (iLvl_any _ L w (by omega) (by omega) h2 h3).mono ?_
            rintro e w' ⟨rfl, rfl⟩
            go_wp2_with fail
            refine (iDst_any _ _ w (by omega) (by omega) (by omega) (by omega)).mono ?_
            rintro e w' ⟨rfl, rfl⟩
            go_wp2_with fail
            refine (iLvl_any _ L w (by omega) (by omega) h2 h3).mono ?_
            rintro e w' ⟨rfl, rfl⟩
            go_wp2_with fail
            refine (iDst_any _ _ w (by omega) (by omega) (by omega) (by omega)).mono ?_
            rintro e w' ⟨rfl, rfl⟩
            go_wp2
            go_round
            case rel => exact ⟨k + 1, by omega, by go_num, by rw [HS.out]⟩
            case measure => simp [intOf]; omega
        · have HE : Hid (nst n L L.toNat = nst n L k) := Lib.hid (by congr 1; omega)
          have HF := Lib.hid (H.out.trans (congrArg (Nat.cast : Nat → Int) HE.out))
          go_wp2
          go_ret
          exact ⟨ret_int HF.out.symm, rfl⟩
    · have H := Lib.hid (lev_no (L := L) (.inr hn))
      have hd : decide (-9999 ≤ n ∧ n ≤ 9999) = false := decide_eq_false hn
      clear hn
      go_enter Tryd.func9, Tryd.ntmps9
      go_wp2_with fail
      refine (iVlv_any L w).mono ?_
      rintro e w' ⟨rfl, rfl⟩
      rw [hL]
      go_wp2_with fail
      refine (iRng_any n (-9999) 9999 w).mono ?_
      rintro e w' ⟨rfl, rfl⟩
      rw [hd]
      go_wp2
      go_ret
      exact ⟨ret_int H.out.symm, rfl⟩
end Go.Proofs.YtdmdgdmnbgchoaaDoor
