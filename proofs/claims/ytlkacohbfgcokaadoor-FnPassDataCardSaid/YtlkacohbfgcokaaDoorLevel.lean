/- Contracts of levels: the program and the model answer the same level. -/
import Derived.Test.YtlkacohbfgcokaaDoorProg
import Derived.WalkKit
import Derived.Test.YtlkacohbfgcokaaDoorLevM
namespace Go.Proofs.YtlkacohbfgcokaaDoor
open Go.RowKit
set_option linter.unusedSimpArgs false
set_option linter.unusedVariables false

set_option maxHeartbeats 1000000 in
theorem sRng_any (n lo hi : Int) (w : World) : Calls Tryd.prog 39 #[.int .i64 n, .int .i64 lo, .int .i64 hi] w fun e w' => e = .returned (.bool (decide (lo ≤ n ∧ n ≤ hi))) ∧ w = w' := by
  by_cases h1 : lo ≤ n <;> by_cases h2 : n ≤ hi
  all_goals
    go_enter Tryd.func39, Tryd.ntmps39
    go_wp2
    go_ret
    exact ⟨ret_bool (by simp [h1, h2] <;> omega), rfl⟩
set_option maxHeartbeats 1000000 in
theorem iRng_any (n lo hi : Int) (w : World) : Calls Tryd.prog 43 #[.int .i64 n, .int .i64 lo, .int .i64 hi] w fun e w' => e = .returned (.bool (decide (lo ≤ n ∧ n ≤ hi))) ∧ w = w' := by
  by_cases h1 : lo ≤ n <;> by_cases h2 : n ≤ hi
  all_goals
    go_enter Tryd.func43, Tryd.ntmps43
    go_wp2
    go_ret
    exact ⟨ret_bool (by simp [h1, h2] <;> omega), rfl⟩
theorem lval_tdiv (k L : Int) (h0 : 0 ≤ k) : (255 * k).tdiv (L - 1) = lval k L := Int.tdiv_eq_ediv_of_nonneg (by omega)
theorem adist_sub (a b : Int) : adist (a - b) 0 = adist a b := by unfold adist; split <;> split <;> omega
theorem nst_stepLt {n L : Int} {k : Nat} (h : adist (lval k L) n < adist (lval (nst n L k) L) n) : nst n L (k + 1) = k := if_pos h
theorem nst_stepGe {n L : Int} {k : Nat} (h : ¬ adist (lval k L) n < adist (lval (nst n L k) L) n) : nst n L (k + 1) = nst n L k := if_neg h
end Go.Proofs.YtlkacohbfgcokaaDoor
