/- What the law of FillImage needs: the palette of a filled image. -/
import Derived.Test.YtjgcondkoaegnaaImgF
import Derived.Test.YtjgcondkoaegnaaMgG
namespace Go.Proofs.Ytjgcondkoaegnaa
open Go.RowKit Go.Shelf
set_option linter.unusedSimpArgs false
set_option linter.unusedVariables false

theorem fil_row {w h : Nat} {q : List Int} {k : Nat} (hk : k < w * h) : pxk q.length (img w h q.length (fun _ _ p => q.getD p 0)) k = q := by
  have hle : k * q.length + q.length ≤ (img w h q.length (fun _ _ p => q.getD p 0)).length := by
    rw [img_len]
    have h1 : (k + 1) * q.length ≤ w * h * q.length := Nat.mul_le_mul_right _ hk
    rw [Nat.add_mul, Nat.one_mul] at h1
    exact h1
  refine list_eq (pxk_len hle) fun j hj => ?_
  rw [pxk_len hle] at hj
  rw [pxk_get hj, img_at _ hk hj]
theorem fil_acL {w h : Nat} {q : List Int} : ∀ k, k ≤ w * h → acL q.length (img w h q.length (fun _ _ p => q.getD p 0)) k = if k = 0 then [] else [q]
  | 0, _ => rfl
  | k + 1, hk => by
    have ih := fil_acL (w := w) (h := h) (q := q) k (by omega)
    unfold acL
    rw [fil_row (show k < w * h by omega), ih]
    by_cases e : k = 0
    · subst e; simp
    · rw [if_neg e]; simp
end Go.Proofs.Ytjgcondkoaegnaa
