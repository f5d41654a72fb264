/- Contracts of division that rounds down or to the nearest number. -/
import Derived.Test.YtjgcondkoaegnaaProg
import Derived.WalkKit
import Derived.IntWalk
import Derived.Test.YtjgcondkoaegnaaWords
namespace Go.Proofs.Ytjgcondkoaegnaa
open Go.RowKit
set_option linter.unusedSimpArgs false
set_option linter.unusedVariables false

theorem tdiv_dn {a b : Int} (h : 0 < b) (hr : a.tmod b < 0) : a.tdiv b - 1 = a / b := by
  have h1 := Int.mul_tdiv_add_tmod a b
  have h2 := Int.tmod_lt_of_pos a h
  have h3 := Int.lt_tmod_of_pos a h
  have h4 := Int.mul_ediv_add_emod a b
  have h5 := Int.emod_nonneg a (show b ≠ 0 by omega)
  have h6 := Int.emod_lt_of_pos a h
  refine Int.le_antisymm ?_ ?_
  · refine (Int.le_ediv_iff_mul_le h).2 ?_
    rw [Int.sub_mul, Int.mul_comm]; omega
  · refine Int.le_of_lt_add_one ?_
    refine (Int.ediv_lt_iff_lt_mul h).2 ?_
    rw [show a.tdiv b - 1 + 1 = a.tdiv b by omega, Int.mul_comm]; omega
theorem tdiv_up {a b : Int} (h : 0 < b) (hr : ¬ a.tmod b < 0) : a.tdiv b = a / b := by
  have h1 := Int.mul_tdiv_add_tmod a b
  have h2 := Int.tmod_lt_of_pos a h
  refine Int.le_antisymm ?_ ?_
  · refine (Int.le_ediv_iff_mul_le h).2 ?_
    rw [Int.mul_comm]; omega
  · refine Int.le_of_lt_add_one ?_
    refine (Int.ediv_lt_iff_lt_mul h).2 ?_
    rw [Int.add_mul, Int.one_mul, Int.mul_comm]; omega
theorem div_bd {a b : Int} (h : 0 < b) (h0 : -1000000000000 ≤ a) (h1 : a ≤ 1000000000000) : -1000000000000 ≤ a / b ∧ a / b ≤ 1000000000000 := by
  constructor
  · refine (Int.le_ediv_iff_mul_le h).2 ?_
    have : 1000000000000 * 1 ≤ 1000000000000 * b := Int.mul_le_mul_of_nonneg_left (by omega) (by omega)
    omega
  · refine Int.le_of_lt_add_one ?_
    refine (Int.ediv_lt_iff_lt_mul h).2 ?_
    have : 1000000000001 * 1 ≤ 1000000000001 * b := Int.mul_le_mul_of_nonneg_left (by omega) (by omega)
    omega
theorem tdiv_bd {a b : Int} (h : 0 < b) (h0 : -1000000000000 ≤ a) (h1 : a ≤ 1000000000000) : -1000000000001 ≤ a.tdiv b ∧ a.tdiv b ≤ 1000000000001 := by
  have := div_bd h h0 h1
  by_cases hr : a.tmod b < 0
  · have := tdiv_dn h hr; omega
  · have := tdiv_up h hr; omega
set_option maxHeartbeats 1000000 in
theorem sFlr_any (a b : Int) (w : World) (hb : 0 < b) (h0 : -1000000000000 ≤ a) (h1 : a ≤ 1000000000000) : Calls Try.prog 27 #[.int .i64 a, .int .i64 b] w fun e w' => e = .returned (.int .i64 (a / b)) ∧ w = w' := by
  have hbd := tdiv_bd hb h0 h1
  by_cases hr : a.tmod b < 0
  · have H := Lib.hid (tdiv_dn hb hr)
    have hw : IntKind.i64.wrap (a.tdiv b) = a.tdiv b := IntWalk.i64_in _ (by omega)
    have hw2 : IntKind.i64.wrap (a.tdiv b - 1) = a.tdiv b - 1 := IntWalk.i64_in _ (by omega)
    by_cases ha : 0 ≤ a
    · exact absurd hr (by have := Int.tmod_nonneg b ha; omega)
    · go_enter Try.func27, Try.ntmps27
      go_wp2
      go_ret
      exact ⟨ret_int (by first | exact H.out | (rw [← H.out])), rfl⟩
  · have H := Lib.hid (tdiv_up hb hr)
    have hw : IntKind.i64.wrap (a.tdiv b) = a.tdiv b := IntWalk.i64_in _ (by omega)
    by_cases ha : 0 ≤ a
    · have hd : a.tdiv b = a / b := Int.tdiv_eq_ediv_of_nonneg ha
      have hm : a.tmod b = a % b := Int.tmod_eq_emod_of_nonneg ha
      rw [hm] at hr
      rw [hd] at hbd hw
      have HD := Lib.hid hd
      have HM := Lib.hid hm
      clear hd hm
      go_enter Try.func27, Try.ntmps27
      go_wp2
      go_ret
      exact ⟨ret_int (by first | rfl | exact H.out | rw [← HD.out]), rfl⟩
    · go_enter Try.func27, Try.ntmps27
      go_wp2
      go_ret
      exact ⟨ret_int (by first | rfl | exact H.out), rfl⟩
set_option maxHeartbeats 1000000 in
theorem iDwn_any (a b : Int) (w : World) (hb : 0 < b) (h0 : -1000000000000 ≤ a) (h1 : a ≤ 1000000000000) : Calls Try.prog 66 #[.int .i64 a, .int .i64 b] w fun e w' => e = .returned (.int .i64 (a / b)) ∧ w = w' := by
  have hbd := tdiv_bd hb h0 h1
  by_cases hr : a.tmod b < 0
  · have H := Lib.hid (tdiv_dn hb hr)
    have hw : IntKind.i64.wrap (a.tdiv b) = a.tdiv b := IntWalk.i64_in _ (by omega)
    have hw2 : IntKind.i64.wrap (a.tdiv b - 1) = a.tdiv b - 1 := IntWalk.i64_in _ (by omega)
    by_cases ha : 0 ≤ a
    · exact absurd hr (by have := Int.tmod_nonneg b ha; omega)
    · go_enter Try.func66, Try.ntmps66
      go_wp2
      go_ret
      exact ⟨ret_int (by first | exact H.out | (rw [← H.out])), rfl⟩
  · have H := Lib.hid (tdiv_up hb hr)
    have hw : IntKind.i64.wrap (a.tdiv b) = a.tdiv b := IntWalk.i64_in _ (by omega)
    by_cases ha : 0 ≤ a
    · have hd : a.tdiv b = a / b := Int.tdiv_eq_ediv_of_nonneg ha
      have hm : a.tmod b = a % b := Int.tmod_eq_emod_of_nonneg ha
      rw [hm] at hr
      rw [hd] at hbd hw
      have HD := Lib.hid hd
      have HM := Lib.hid hm
      clear hd hm
      go_enter Try.func66, Try.ntmps66
      go_wp2
      go_ret
      exact ⟨ret_int (by first | rfl | exact H.out | rw [← HD.out]), rfl⟩
    · go_enter Try.func66, Try.ntmps66
      go_wp2
      go_ret
      exact ⟨ret_int (by first | rfl | exact H.out), rfl⟩
theorem iNst_any (a b : Int) (w : World) (hb : 0 < b) (hb1 : b ≤ 100000000000) (h0 : -100000000000 ≤ a) (h1 : a ≤ 100000000000) : Calls Try.prog 37 #[.int .i64 a, .int .i64 b] w fun e w' => e = .returned (.int .i64 ((2 * a + b) / (2 * b))) ∧ w = w' := by
  go_enter Try.func37, Try.ntmps37
  go_wp2_with fail
  refine (iDwn_any (2 * a + b) (2 * b) w (by omega) (by omega) (by omega)).mono ?_
  rintro e w' ⟨rfl, rfl⟩
  go_wp2
  go_ret
  exact ⟨rfl, rfl⟩
end Go.Proofs.Ytjgcondkoaegnaa
