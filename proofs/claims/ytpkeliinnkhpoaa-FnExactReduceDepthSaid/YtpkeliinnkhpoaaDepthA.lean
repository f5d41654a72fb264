/- Contracts of the numbers of chapter 3: ReduceDepth and ExpandDepth, in the program and in the model, answer the same number. -/
import Derived.Test.YtpkeliinnkhpoaaProg
import Derived.WalkKit
import Derived.Test.YtpkeliinnkhpoaaWords
namespace Go.Proofs.Ytpkeliinnkhpoaa
open Go.RowKit
set_option linter.unusedSimpArgs false
set_option linter.unusedVariables false

def vd (d : Int) : Bool := decide (d = 1 ∨ d = 2 ∨ d = 4 ∨ d = 8)
def top (d : Int) : Int := if d = 1 then 1 else if d = 2 then 3 else if d = 4 then 15 else 255
def red (n d : Int) : Int := if vd d = true ∧ 0 ≤ n ∧ n ≤ 255 then (2 * n * top d + 255) / 510 else -1
def exd (n d : Int) : Int := if vd d = true ∧ 0 ≤ n ∧ n ≤ top d then 255 * n / top d else -1
theorem vd_cases (d : Int) : (d = 1 ∨ d = 2 ∨ d = 4 ∨ d = 8) ∨ vd d = false := by
  by_cases h : d = 1 ∨ d = 2 ∨ d = 4 ∨ d = 8
  · exact .inl h
  · exact .inr (by simp [vd, h])
theorem red_no (n d : Int) (h : vd d = false) : red n d = -1 := by simp [red, h]
theorem exd_no (n d : Int) (h : vd d = false) : exd n d = -1 := by simp [exd, h]

set_option maxHeartbeats 1000000 in
theorem s_reduce (n d : Int) (w : World) : Calls Try.prog 27 #[.int .i64 n, .int .i64 d] w fun e w' => e = .returned (.int .i64 (red n d)) ∧ w = w' := by
  rcases vd_cases d with h | h
  · by_cases h0 : 0 ≤ n <;> by_cases h1 : n ≤ 255 <;> rcases h with rfl | rfl | rfl | rfl
    all_goals
      go_enter Try.func27, Try.ntmps27
      go_wp2
      go_ret
      exact ⟨ret_int (by simp [red, vd, top, h0, h1] <;> omega), rfl⟩
  · have H := Lib.hid (red_no n d h)
    have h1 : (d == 1) = false := by simp [vd] at h ⊢; omega
    have h2 : (d == 2) = false := by simp [vd] at h ⊢; omega
    have h4 : (d == 4) = false := by simp [vd] at h ⊢; omega
    have h8 : (d == 8) = false := by simp [vd] at h ⊢; omega
    clear h
    go_enter Try.func27, Try.ntmps27
    go_wp2
    go_ret
    exact ⟨ret_int (by rw [H.out]), rfl⟩
set_option maxHeartbeats 1000000 in
theorem i_reduce (n d : Int) (w : World) : Calls Try.prog 28 #[.int .i64 n, .int .i64 d] w fun e w' => e = .returned (.int .i64 (red n d)) ∧ w = w' := by
  rcases vd_cases d with h | h
  · by_cases h0 : 0 ≤ n <;> by_cases h1 : n ≤ 255 <;> rcases h with rfl | rfl | rfl | rfl
    all_goals
      go_enter Try.func28, Try.ntmps28
      go_wp2
      go_ret
      exact ⟨ret_int (by simp [red, vd, top, h0, h1] <;> omega), rfl⟩
  · have H := Lib.hid (red_no n d h)
    have h1 : (d == 1) = false := by simp [vd] at h ⊢; omega
    have h2 : (d == 2) = false := by simp [vd] at h ⊢; omega
    have h4 : (d == 4) = false := by simp [vd] at h ⊢; omega
    have h8 : (d == 8) = false := by simp [vd] at h ⊢; omega
    clear h
    go_enter Try.func28, Try.ntmps28
    go_wp2
    go_ret
    exact ⟨ret_int (by rw [H.out]), rfl⟩
set_option maxHeartbeats 1000000 in
theorem i_expand (n d : Int) (w : World) : Calls Try.prog 31 #[.int .i64 n, .int .i64 d] w fun e w' => e = .returned (.int .i64 (exd n d)) ∧ w = w' := by
  rcases vd_cases d with h | h
  · rcases h with rfl | rfl | rfl | rfl
    · by_cases h0 : 0 ≤ n <;> by_cases h1 : n ≤ 1
      all_goals
        go_enter Try.func31, Try.ntmps31
        go_wp2
        go_ret
        exact ⟨ret_int (by simp [exd, vd, top, h0, h1] <;> omega), rfl⟩
    · by_cases h0 : 0 ≤ n <;> by_cases h1 : n ≤ 3
      all_goals
        go_enter Try.func31, Try.ntmps31
        go_wp2
        go_ret
        exact ⟨ret_int (by simp [exd, vd, top, h0, h1] <;> omega), rfl⟩
    · by_cases h0 : 0 ≤ n <;> by_cases h1 : n ≤ 15
      all_goals
        go_enter Try.func31, Try.ntmps31
        go_wp2
        go_ret
        exact ⟨ret_int (by simp [exd, vd, top, h0, h1] <;> omega), rfl⟩
    · by_cases h0 : 0 ≤ n <;> by_cases h1 : n ≤ 255
      all_goals
        go_enter Try.func31, Try.ntmps31
        go_wp2
        go_ret
        exact ⟨ret_int (by simp [exd, vd, top, h0, h1] <;> omega), rfl⟩
  · have H := Lib.hid (exd_no n d h)
    have h1 : (d == 1) = false := by simp [vd] at h ⊢; omega
    have h2 : (d == 2) = false := by simp [vd] at h ⊢; omega
    have h4 : (d == 4) = false := by simp [vd] at h ⊢; omega
    have h8 : (d == 8) = false := by simp [vd] at h ⊢; omega
    clear h
    go_enter Try.func31, Try.ntmps31
    go_wp2
    go_ret
    exact ⟨ret_int (by rw [H.out]), rfl⟩
def absI (n : Int) : Int := if n < 0 then -n else n
theorem absI_bd (n : Int) (h0 : -100000 ≤ n) (h1 : n ≤ 100000) : 0 ≤ absI n ∧ absI n ≤ 100000 := by
  unfold absI
  split <;> omega
set_option maxHeartbeats 1000000 in
theorem absolute_any (n : Int) (w : World) (h0 : -100000 ≤ n) (h1 : n ≤ 100000) : Calls Try.prog 30 #[.int .i64 n] w fun e w' => e = .returned (.int .i64 (absI n)) ∧ w = w' := by
  by_cases h : n < 0
  all_goals
    go_enter Try.func30, Try.ntmps30
    go_wp2
    go_ret
    exact ⟨ret_int (by unfold absI; split <;> omega), rfl⟩
end Go.Proofs.Ytpkeliinnkhpoaa
