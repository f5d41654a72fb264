/- Contracts of division that rounds down or to the nearest number. -/
import Derived.Test.YtjcohmljpokgcaaProg
import Derived.WalkKit
import Derived.IntWalk
import Derived.Test.YtjcohmljpokgcaaWords
namespace Go.Proofs.Ytjcohmljpokgcaa
open Go.RowKit
set_option linter.unusedSimpArgs false
set_option linter.unusedVariables false

theorem tdiv_dn {a b : Int} (h : 0 < b) (hr : a.tmod b < 0) : a.tdiv b - 1 = a / b := by
  have h1 := Int.mul_tdiv_add_tmod a b
  have h2 := Int.tmod_lt_of_pos a h
  have h3 := Int.lt_tmod_of_pos a h
  have h4 := Int.mul_ediv_add_emod a b
  have h5 := Int.emod_nonneg a (show b ≠ 0 by omega)
  have h6 := Int.emod_lt_of_pos a h
  refine Int.le_antisymm ?_ ?_
  · refine (Int.le_ediv_iff_mul_le h).2 ?_
    rw [Int.sub_mul, Int.mul_comm]; omega
  · refine Int.le_of_lt_add_one ?_
    refine (Int.ediv_lt_iff_lt_mul h).2 ?_
    rw [show a.tdiv b - 1 + 1 = a.tdiv b by omega, Int.mul_comm]; omega
theorem tdiv_up {a b : Int} (h : 0 < b) (hr : ¬ a.tmod b < 0) : a.tdiv b = a / b := by
  have h1 := Int.mul_tdiv_add_tmod a b
  have h2 := Int.tmod_lt_of_pos a h
  refine Int.le_antisymm ?_ ?_
  · refine (Int.le_ediv_iff_mul_le h).2 ?_
    rw [Int.mul_comm]; omega
  · refine Int.le_of_lt_add_one ?_
    refine (Int.ediv_lt_iff_lt_mul h).2 ?_
    rw [Int.add_mul, Int.one_mul, Int.mul_comm]; omega
theorem div_bd {a b : Int} (h : 0 < b) (h0 : -1000000000000 ≤ a) (h1 : a ≤ 1000000000000) : -1000000000000 ≤ a / b ∧ a / b ≤ 1000000000000 := by
  constructor
  · refine (Int.le_ediv_iff_mul_le h).2 ?_
    have : 1000000000000 * 1 ≤ 1000000000000 * b := Int.mul_le_mul_of_nonneg_left (by omega) (by omega)
    omega
  · refine Int.le_of_lt_add_one ?_
    refine (Int.ediv_lt_iff_lt_mul h).2 ?_
    have : 1000000000001 * 1 ≤ 1000000000001 * b := Int.mul_le_mul_of_nonneg_left (by omega) (by omega)
    omega
theorem tdiv_bd {a b : Int} (h : 0 < b) (h0 : -1000000000000 ≤ a) (h1 : a ≤ 1000000000000) : -1000000000001 ≤ a.tdiv b ∧ a.tdiv b ≤ 1000000000001 := by
  have := div_bd h h0 h1
  by_cases hr : a.tmod b < 0
  · have := tdiv_dn h hr; omega
  · have := tdiv_up h hr; omega
end Go.Proofs.Ytjcohmljpokgcaa
