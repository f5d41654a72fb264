/- Contracts of the drawing of chapter 3's inputs. -/
import Derived.Test.YtaieialjpiojeaaSpoil
namespace Go.Proofs.Ytaieialjpiojeaa
open Go.RowKit
set_option linter.unusedSimpArgs false
set_option linter.unusedVariables false

set_option maxHeartbeats 1000000 in
theorem anyDepth_any (g N : Nat) (w : World) (h : Rdr w g N) (hN : N ≤ 1000000000) :
    Calls Try.prog 56 #[.pointer (some ⟨g, 0, none⟩)] w (Drawn1 (fun d => 0 ≤ d ∧ d ≤ 8) g (N + 1) w) := by
  go_enter Try.func56, Try.ntmps56
  go_wp2_with fail
  refine (one_lit _ [1, 2, 4, 8, 1, 4, 3, 0] _ _ g N w h hN (by simp) (by simp) rfl rfl).mono ?_
  rintro e w' ⟨k, rfl, hk, hr, hg⟩
  have hk' : 0 ≤ k ∧ k ≤ 8 := by simp at hk; omega
  clear hk h
  go_wp2
  go_ret
  exact ⟨k, rfl, hk', hr, hg⟩

end Go.Proofs.Ytaieialjpiojeaa
