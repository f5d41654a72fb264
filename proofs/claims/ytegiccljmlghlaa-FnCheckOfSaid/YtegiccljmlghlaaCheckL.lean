/- What a change of one byte does to CheckOf. -/
import Derived.Test.YtegiccljmlghlaaCheck
namespace Go.Proofs.Ytegiccljmlghlaa
open Go.RowKit
set_option linter.unusedSimpArgs false
set_option linter.unusedVariables false

theorem ckx_before (xs : List Int) (j : Nat) (y : Int) : ∀ k, k ≤ j → ckx (xs.set j y) k = ckx xs k := by
  intro k
  induction k with
  | zero => intro _; rfl
  | succ k ih =>
    intro hk
    simp only [ckx]
    rw [ih (by omega)]
    have : (xs.set j y).getD k 0 = xs.getD k 0 := by
      rw [List.getD_eq_getElem?_getD, List.getElem?_set, if_neg (by omega), ← List.getD_eq_getElem?_getD]
    rw [this]
theorem ckx_after (xs : List Int) (j : Nat) (y : Int) (hj : j < xs.length) : ∀ k, j < k → (ckx (xs.set j y) k - ckx xs k - (y - xs.getD j 0)) % 251 = 0 := by
  intro k
  induction k with
  | zero => intro h; omega
  | succ k ih =>
    intro hk
    simp only [ckx]
    by_cases h : k = j
    · subst h
      rw [ckx_before xs k y k (Nat.le_refl _)]
      have e : (xs.set k y).getD k 0 = y := by simp [hj]
      rw [e]
      omega
    · have e : (xs.set j y).getD k 0 = xs.getD k 0 := by
        rw [List.getD_eq_getElem?_getD, List.getElem?_set, if_neg (by omega), ← List.getD_eq_getElem?_getD]
      rw [e]
      have := ih (by omega)
      omega
theorem chk_change (xs : List Int) (j : Nat) (y : Int) (hj : j < xs.length) (hv : vbs xs = true) (hy : 0 ≤ y ∧ y ≤ 255) (hd : y = xs.getD j 0 + 1 ∨ y = xs.getD j 0 - 1) : chk (xs.set j y) ≠ chk xs := by
  obtain ⟨hl, hb⟩ := vbs_parts hv
  have hv2 : vbs (xs.set j y) = true := by
    simp only [vbs, decide_eq_true_eq] at hv ⊢
    refine ⟨by simp; exact hl, allB_yes fun k hk => ?_⟩
    simp at hk
    rw [List.getD_eq_getElem?_getD, List.getElem?_set]
    by_cases e : j = k
    · rw [if_pos e, if_pos hj]; exact hy
    · rw [if_neg e, ← List.getD_eq_getElem?_getD]
      have := of_decide_eq_true hv.2 (xs[k]) (List.getElem_mem hk)
      simpa [hk] using this
  have h := ckx_after xs j y hj xs.length hj
  have h1 := ckx_range xs xs.length
  have h2 := ckx_range (xs.set j y) xs.length
  unfold chk
  rw [if_pos hv, if_pos hv2, List.length_set]
  intro e
  have h3 := cky_range xs xs.length
  have h4 := cky_range (xs.set j y) xs.length
  omega
end Go.Proofs.Ytegiccljmlghlaa
