/- Contracts of the sizes of passes in the program: under the table that it lays. -/
import Derived.Test.YtlkacohbfgcokaaDoorPassS
import Derived.Deep.RegionHeld3
namespace Go.Proofs.YtlkacohbfgcokaaDoor
open Go.RowKit
set_option linter.unusedSimpArgs false
set_option linter.unusedVariables false

/-- The table of passes in its block. -/
def Pats (w : World) : Prop := ∀ p : Nat, p ≤ 6 → w.cell? ⟨0, 4 * p, none⟩ = some (.int .i64 (psx p)) ∧ w.cell? ⟨0, 4 * p + 1, none⟩ = some (.int .i64 (pdx p)) ∧ w.cell? ⟨0, 4 * p + 2, none⟩ = some (.int .i64 (psy p)) ∧ w.cell? ⟨0, 4 * p + 3, none⟩ = some (.int .i64 (pdy p))
set_option maxHeartbeats 8000000 in
theorem i_count (n f d : Int) (hn : 1 ≤ n) (hn2 : n ≤ 16) (hf : 0 ≤ f) (hfd : f < d) (hd : d ≤ 8) (w : World) : Calls Tryd.prog 44 #[.agg #[.int .i64 f, .int .i64 d], .int .i64 n] w fun e w' => e = .returned (.int .i64 (pcnt n f d)) ∧ Below w.heap.size w w' := by
  obtain ⟨tx, tx0, tx1⟩ := pcnt_bd hn hn2 hf hfd hd
  have a1 : IntKind.i64.wrap (n - f) = n - f := IntWalk.i64_in _ (by omega)
  have a2 : IntKind.i64.wrap (n - f + d) = n - f + d := IntWalk.i64_in _ (by omega)
  have a3 : IntKind.i64.wrap (n - f + d - 1) = n - f + d - 1 := IntWalk.i64_in _ (by omega)
  have a4 : IntKind.i64.wrap (pcnt n f d) = pcnt n f d := IntWalk.i64_in _ (by omega)
  have d0 : d ≠ 0 := by omega
  go_enter Tryd.func44, Tryd.ntmps44
  go_wp2
  go_ret
  exact ⟨ret_int (by first | rfl | (rw [tx, a4]) | (rw [a4]) | (rw [tx])), by (repeat' (first | (exact Below.refl _ _) | (refine Below.setCell ?_ (by first | omega | (simp; done) | (simp; omega)) _) | (refine below_dn ?_ _) | (refine Below.drew ?_) | (refine Below.alloc ?_ (by first | omega | (simp; done) | (simp; omega)) _) | (exact Below.refl _ _)))⟩
set_option maxHeartbeats 2000000 in
theorem i_validPass (p : Int) (w : World) : Calls Tryd.prog 34 #[.int .i64 p] w fun e w' => e = .returned (.bool (decide (0 ≤ p ∧ p ≤ 6))) ∧ w = w' := by
  go_enter Tryd.func34, Tryd.ntmps34
  go_wp2_with fail
  refine (iRng_any p 0 6 w).mono ?_
  rintro e w' ⟨rfl, rfl⟩
  go_wp2
  go_ret
  exact ⟨ret_bool (by simp [Bool.decide_and]), rfl⟩
end Go.Proofs.YtlkacohbfgcokaaDoor
