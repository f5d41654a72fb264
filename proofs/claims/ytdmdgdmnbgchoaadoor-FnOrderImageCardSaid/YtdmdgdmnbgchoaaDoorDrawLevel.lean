/- Contract of the drawing of LevelOf's input. -/
import Derived.Test.YtdmdgdmnbgchoaaDoorSpoil
namespace Go.Proofs.YtdmdgdmnbgchoaaDoor
open Go.RowKit
set_option linter.unusedSimpArgs false
set_option linter.unusedVariables false

set_option maxHeartbeats 1000000 in
theorem anyLevels_any (g N : Nat) (w : World) (h : Rdr w g N) (hN : N ≤ 1000000000) :
    Calls Tryd.prog 39 #[.pointer (some ⟨g, 0, none⟩)] w (Drawn1 (fun d => 0 ≤ d ∧ d ≤ 100) g (N + 1) w) := by
  go_enter Tryd.func39, Tryd.ntmps39
  go_wp2_with fail
  refine (one_lit _ [2, 3, 4, 8, 16, 17, 1, 2] _ _ g N w h hN (by simp) (by simp) rfl rfl).mono ?_
  rintro e w' ⟨k, rfl, hk, hr, hg⟩
  have hk' : 0 ≤ k ∧ k ≤ 100 := by simp at hk; omega
  clear hk h
  go_wp2
  go_ret
  exact ⟨k, rfl, hk', hr, hg⟩
end Go.Proofs.YtdmdgdmnbgchoaaDoor
