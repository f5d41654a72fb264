/- Contracts of validPlane, countsOf and HistogramOf in the program. -/
import Derived.Test.YtkjebidkkopalaaHisA
import Derived.Test.YtkjebidkkopalaaMapI
namespace Go.Proofs.Ytkjebidkkopalaa
open Go.RowKit Go.Shelf
set_option linter.unusedSimpArgs false
set_option linter.unusedVariables false
set_option maxRecDepth 20000

/-- Whether an image is valid and has one plane. -/
def vpl (W H P : Int) (xs : List Int) : Bool := vim W H P xs && decide (P = 1)
set_option maxHeartbeats 8000000 in
theorem iVplane_any (W H P : Int) (A : Option Addr) (c : Nat) (xs : List Int) (w : World) (hx : Rds .i64 w w.heap.size A xs) (hl : xs.length ≤ 2000000) :
    Calls Try.prog 52 #[.agg #[.int .i64 W, .int .i64 H, .int .i64 P, .slice A xs.length c]] w fun e w' => e = .returned (.bool (vpl W H P xs)) ∧ Below w.heap.size w w' := by
  have HX := Lib.hid hx
  have HV : Hid (vpl W H P xs = (vim W H P xs && decide (P = 1))) := Lib.hid rfl
  clear hx
  have S0 := (GS.start w).box' 25 #[.int .i64 W, .int .i64 H, .int .i64 P, .slice A xs.length c] w.heap.size (by simp)
  go_enter Try.func52, Try.ntmps52
  go_wp2_with fail
  generalize (w.alloc (.cells #[.int .i64 W, .int .i64 H, .int .i64 P, .slice A xs.length c] 25)) = u0 at *
  refine (iVimg_any W H P A c xs u0 (S0.arg HX.out) hl).mono ?_
  rintro e u1 ⟨rfl, hB⟩
  have S1 := S0.call hB
  clear hB S0
  cases hv : vim W H P xs
  · have HF : Hid (vpl W H P xs = false) := Lib.hid (by rw [HV.out, hv]; rfl)
    clear HV hv
    go_wp2
    go_ret
    exact ⟨ret_bool HF.out.symm, S1.below⟩
  · have HF : Hid (vpl W H P xs = decide (P = 1)) := Lib.hid (by rw [HV.out, hv]; rfl)
    clear HV hv
    obtain ⟨b0, b1, b2, b3⟩ := S1.b0_4
    by_cases h1 : P = 1
    all_goals
      go_wp2
      go_ret
      exact ⟨ret_bool (by rw [HF.out]; (first | rfl | (simp [h1]; done))), S1.below⟩
end Go.Proofs.Ytkjebidkkopalaa
