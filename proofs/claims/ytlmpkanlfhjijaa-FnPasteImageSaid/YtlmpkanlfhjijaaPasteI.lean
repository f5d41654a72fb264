/- Contracts of what PasteImage calls in the program: has, and the function that tells each pixel. -/
import Derived.Test.YtlmpkanlfhjijaaPasteS
import Derived.Test.YtlmpkanlfhjijaaCropJ
namespace Go.Proofs.Ytlmpkanlfhjijaa
open Go.RowKit Go.Shelf
set_option linter.unusedSimpArgs false
set_option linter.unusedVariables false

set_option maxHeartbeats 4000000 in
theorem has_any (W H : Int) (v : Value) (x y : Int) (hW : 0 ≤ W ∧ W ≤ 1000) (hH : 0 ≤ H ∧ H ≤ 1000) (w : World) :
    Calls Try.prog 82 #[.agg #[.int .i64 W, .int .i64 H, v], .int .i64 x, .int .i64 y] w fun e w' => e = .returned (.bool (onIm W H x y)) ∧ Below w.heap.size w w' := by
  have HB := Lib.hid ((Below.refl w.heap.size w).alloc (Nat.le_refl _) (.cells #[.int .i64 W, .int .i64 H, v] 66))
  obtain ⟨hW0, hW1⟩ := hW
  obtain ⟨hH0, hH1⟩ := hH
  have HV : Hid (onIm W H x y = (decide (0 ≤ x ∧ x ≤ W - 1) && decide (0 ≤ y ∧ y ≤ H - 1))) := Lib.hid rfl
  cases h1 : decide (0 ≤ x ∧ x ≤ W - 1) <;> cases h2 : decide (0 ≤ y ∧ y ≤ H - 1)
  all_goals
    have HR : Hid (onIm W H x y = _) := Lib.hid (show onIm W H x y = (decide (0 ≤ x ∧ x ≤ W - 1) && decide (0 ≤ y ∧ y ≤ H - 1)) from rfl)
    rw [h1, h2] at HR
    have H1 := Lib.hid h1
    have H2 := Lib.hid h2
    clear HV h1 h2
    go_enter Try.func82, Try.ntmps82
    go_wp2_with fail
    refine (iIn_any x 0 (W - 1) _).mono ?_
    rintro e w' ⟨rfl, rfl⟩
    rw [H1.out]
    go_wp2_with fail
    try (refine (iIn_any y 0 (H - 1) _).mono ?_; rintro e w' ⟨rfl, rfl⟩; rw [H2.out]; go_wp2_with fail)
    go_ret
    exact ⟨ret_bool (by rw [HR.out] <;> rfl), HB.out⟩
end Go.Proofs.Ytlmpkanlfhjijaa
