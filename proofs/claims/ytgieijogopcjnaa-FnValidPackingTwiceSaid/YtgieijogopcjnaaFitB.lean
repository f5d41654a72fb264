/- Contracts of boxes that fit, in the program and in the model. -/
import Derived.Test.YtgieijogopcjnaaLists
namespace Go.Proofs.Ytgieijogopcjnaa
open Go.RowKit
set_option linter.unusedSimpArgs false
set_option linter.unusedVariables false
set_option maxRecDepth 20000

set_option maxHeartbeats 1000000 in
theorem sFt_any (n lo hi : Int) (w : World) : Calls Try.prog 32 #[.int .i64 n, .int .i64 lo, .int .i64 hi] w fun e w' => e = .returned (.bool (decide (lo ≤ n ∧ n ≤ hi))) ∧ w = w' := by
  by_cases h1 : lo ≤ n <;> by_cases h2 : n ≤ hi
  all_goals
    go_enter Try.func32, Try.ntmps32
    go_wp2
    go_ret
    exact ⟨ret_bool (by simp [h1, h2] <;> omega), rfl⟩
set_option maxHeartbeats 1000000 in
theorem iFt_any (n lo hi : Int) (w : World) : Calls Try.prog 27 #[.int .i64 n, .int .i64 lo, .int .i64 hi] w fun e w' => e = .returned (.bool (decide (lo ≤ n ∧ n ≤ hi))) ∧ w = w' := by
  by_cases h1 : lo ≤ n <;> by_cases h2 : n ≤ hi
  all_goals
    go_enter Try.func27, Try.ntmps27
    go_wp2
    go_ret
    exact ⟨ret_bool (by simp [h1, h2] <;> omega), rfl⟩
/-- Whether a box fits. -/
def ftB (bx by_ bw bh W H : Int) : Bool := decide (0 ≤ bx ∧ bx ≤ W - 1) && (decide (1 ≤ bw ∧ bw ≤ W - bx) && (decide (0 ≤ by_ ∧ by_ ≤ H - 1) && decide (1 ≤ bh ∧ bh ≤ H - by_)))
set_option maxHeartbeats 8000000 in
theorem ft_any (bx by_ bw bh W H : Int) (hW : 0 ≤ W ∧ W ≤ 1000) (hH : 0 ≤ H ∧ H ≤ 1000) (w : World) :
    Calls Try.prog 28 #[.agg #[.int .i64 bx, .int .i64 by_, .int .i64 bw, .int .i64 bh], .int .i64 W, .int .i64 H] w fun e w' => e = .returned (.bool (ftB bx by_ bw bh W H)) ∧ Below w.heap.size w w' := by
  have HB := Lib.hid ((Below.refl w.heap.size w).alloc (Nat.le_refl _) (.cells #[.int .i64 bx, .int .i64 by_, .int .i64 bw, .int .i64 bh] 29))
  obtain ⟨hW0, hW1⟩ := hW
  obtain ⟨hH0, hH1⟩ := hH
  have HV : Hid (ftB bx by_ bw bh W H = (decide (0 ≤ bx ∧ bx ≤ W - 1) && (decide (1 ≤ bw ∧ bw ≤ W - bx) && (decide (0 ≤ by_ ∧ by_ ≤ H - 1) && decide (1 ≤ bh ∧ bh ≤ H - by_))))) := Lib.hid rfl
  cases hx : decide (0 ≤ bx ∧ bx ≤ W - 1)
  · have Ex := Lib.hid hx
    clear hx
    have HF : Hid (ftB bx by_ bw bh W H = false) := Lib.hid (by rw [HV.out]; simp only [Ex.out]; simp)
    clear HV
    go_enter Try.func28, Try.ntmps28
    go_wp2_with fail
    refine (iFt_any bx 0 (W - 1) _).mono ?_
    rintro e w' ⟨rfl, rfl⟩
    rw [Ex.out]
    go_wp2
    go_ret
    exact ⟨ret_bool HF.out.symm, HB.out⟩
  · have Ex := Lib.hid hx
    obtain ⟨xx0, xx1⟩ := of_decide_eq_true hx
    clear hx
    cases hw : decide (1 ≤ bw ∧ bw ≤ W - bx)
    · have Ew := Lib.hid hw
      clear hw
      have HF : Hid (ftB bx by_ bw bh W H = false) := Lib.hid (by rw [HV.out]; simp only [Ex.out, Ew.out]; simp)
      clear HV
      go_enter Try.func28, Try.ntmps28
      go_wp2_with fail
      refine (iFt_any bx 0 (W - 1) _).mono ?_
      rintro e w' ⟨rfl, rfl⟩
      rw [Ex.out]
      go_wp2_with fail
      refine (iFt_any bw 1 (W - bx) _).mono ?_
      rintro e w' ⟨rfl, rfl⟩
      rw [Ew.out]
      go_wp2
      go_ret
      exact ⟨ret_bool HF.out.symm, HB.out⟩
    · have Ew := Lib.hid hw
      obtain ⟨ww0, ww1⟩ := of_decide_eq_true hw
      clear hw
      cases hy : decide (0 ≤ by_ ∧ by_ ≤ H - 1)
      · have Ey := Lib.hid hy
        clear hy
        have HF : Hid (ftB bx by_ bw bh W H = false) := Lib.hid (by rw [HV.out]; simp only [Ex.out, Ew.out, Ey.out]; simp)
        clear HV
        go_enter Try.func28, Try.ntmps28
        go_wp2_with fail
        refine (iFt_any bx 0 (W - 1) _).mono ?_
        rintro e w' ⟨rfl, rfl⟩
        rw [Ex.out]
        go_wp2_with fail
        refine (iFt_any bw 1 (W - bx) _).mono ?_
        rintro e w' ⟨rfl, rfl⟩
        rw [Ew.out]
        go_wp2_with fail
        refine (iFt_any by_ 0 (H - 1) _).mono ?_
        rintro e w' ⟨rfl, rfl⟩
        rw [Ey.out]
        go_wp2
        go_ret
        exact ⟨ret_bool HF.out.symm, HB.out⟩
      · have Ey := Lib.hid hy
        obtain ⟨yy0, yy1⟩ := of_decide_eq_true hy
        clear hy
        cases hh : decide (1 ≤ bh ∧ bh ≤ H - by_)
        · have Eh := Lib.hid hh
          clear hh
          have HF : Hid (ftB bx by_ bw bh W H = false) := Lib.hid (by rw [HV.out]; simp only [Ex.out, Ew.out, Ey.out, Eh.out]; simp)
          clear HV
          go_enter Try.func28, Try.ntmps28
          go_wp2_with fail
          refine (iFt_any bx 0 (W - 1) _).mono ?_
          rintro e w' ⟨rfl, rfl⟩
          rw [Ex.out]
          go_wp2_with fail
          refine (iFt_any bw 1 (W - bx) _).mono ?_
          rintro e w' ⟨rfl, rfl⟩
          rw [Ew.out]
          go_wp2_with fail
          refine (iFt_any by_ 0 (H - 1) _).mono ?_
          rintro e w' ⟨rfl, rfl⟩
          rw [Ey.out]
          go_wp2_with fail
          refine (iFt_any bh 1 (H - by_) _).mono ?_
          rintro e w' ⟨rfl, rfl⟩
          rw [Eh.out]
          go_wp2
          go_ret
          exact ⟨ret_bool HF.out.symm, HB.out⟩
        · have Eh := Lib.hid hh
          obtain ⟨hh0, hh1⟩ := of_decide_eq_true hh
          clear hh
          have HF : Hid (ftB bx by_ bw bh W H = true) := Lib.hid (by rw [HV.out]; simp only [Ex.out, Ew.out, Ey.out, Eh.out]; simp)
          clear HV
          go_enter Try.func28, Try.ntmps28
          go_wp2_with fail
          refine (iFt_any bx 0 (W - 1) _).mono ?_
          rintro e w' ⟨rfl, rfl⟩
          rw [Ex.out]
          go_wp2_with fail
          refine (iFt_any bw 1 (W - bx) _).mono ?_
          rintro e w' ⟨rfl, rfl⟩
          rw [Ew.out]
          go_wp2_with fail
          refine (iFt_any by_ 0 (H - 1) _).mono ?_
          rintro e w' ⟨rfl, rfl⟩
          rw [Ey.out]
          go_wp2_with fail
          refine (iFt_any bh 1 (H - by_) _).mono ?_
          rintro e w' ⟨rfl, rfl⟩
          rw [Eh.out]
          go_wp2
          go_ret
          exact ⟨ret_bool HF.out.symm, HB.out⟩
end Go.Proofs.Ytgieijogopcjnaa
