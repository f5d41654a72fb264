/- Mathematics of the law of the nearest color. -/
import Derived.Test.YtjcohmljpokgcaaNcM
namespace Go.Proofs.Ytjcohmljpokgcaa
open Go.RowKit
set_option linter.unusedSimpArgs false
set_option linter.unusedVariables false

theorem tl_le {xss : List (List Int)} {b : Nat} (h : ∀ i, i < xss.length → (xss.getD i []).length ≤ b) : ∀ k, k ≤ xss.length → tl xss k ≤ b * k
  | 0, _ => by rw [tl_zero]; omega
  | k + 1, hk => by
    have ih := tl_le h k (by omega)
    have := h k (by omega)
    rw [tl_succ (by omega), Nat.mul_add]
    omega
theorem tot_le {xss : List (List Int)} {b : Nat} (h : ∀ i, i < xss.length → (xss.getD i []).length ≤ b) : tot xss ≤ xss.length + b * xss.length := by
  have := tl_le h xss.length (Nat.le_refl _)
  unfold tot; omega
/-- The gaps of the first k lists. -/
def gls (xss : List (List Int)) (ys : List Int) (k : Nat) : List Int := (List.range k).map (gpL xss ys)
theorem gls_len (xss : List (List Int)) (ys : List Int) (k : Nat) : (gls xss ys k).length = k := by simp [gls]
theorem gls_get (xss : List (List Int)) (ys : List Int) {k i : Nat} (h : i < k) : (gls xss ys k).getD i 0 = gpL xss ys i := by simp [gls, h]
theorem gls_succ (xss : List (List Int)) (ys : List Int) (k : Nat) : gls xss ys (k + 1) = gls xss ys k ++ [gpL xss ys k] := by simp [gls, List.range_succ]
theorem ncOk_of {xss : List (List Int)} {ys : List Int} (h : ncOk xss ys = true) : (1 ≤ ys.length ∧ ys.length ≤ 4) ∧ allB 0 255 ys = true ∧ palB xss ys.length = true ∧ 0 < xss.length ∧ xss.length ≤ 16 ∧ clN xss ys.length xss.length := by
  unfold ncOk at h
  rw [Bool.and_eq_true, Bool.and_eq_true, Bool.and_eq_true] at h
  obtain ⟨h1, h2, h3, h4⟩ := h
  have h1' := of_decide_eq_true h1
  have hp := palB_of h3
  refine ⟨by omega, h2, h3, ?_, hp.1, hp.2⟩
  rcases Nat.eq_zero_or_pos xss.length with e | e
  · rw [decide_eq_true e] at h4; simp at h4
  · exact e
theorem list_eq {xs ys : List Int} (hl : xs.length = ys.length) (h : ∀ j, j < xs.length → xs.getD j 0 = ys.getD j 0) : xs = ys := by
  apply List.ext_getElem hl
  intro j h1 h2
  have := h j h1
  simpa [List.getD_eq_getElem?_getD, h1, h2] using this
/-- A color of a palette is nearest to itself. -/
theorem nc_self {xss : List (List Int)} {P z : Nat} (hP : 1 ≤ P ∧ P ≤ 4) (h16 : xss.length ≤ 16) (hc : clN xss P xss.length) (hz : z < xss.length) :
    ncV xss (xss.getD z []) = (ncN xss (xss.getD z []) xss.length : Nat) ∧ ncN xss (xss.getD z []) xss.length < xss.length ∧ xss.getD (ncN xss (xss.getD z []) xss.length) [] = xss.getD z [] := by
  have hlz := (hc z hz).1
  have hok : ncOk xss (xss.getD z []) = true := by
    unfold ncOk
    have hp : palB xss ((xss.getD z []).length : Int) = true := by rw [hlz, palB_yes hc]; exact decide_eq_true h16
    rw [hp, (hc z hz).2, decide_eq_true (show 1 ≤ ((xss.getD z []).length : Int) ∧ ((xss.getD z []).length : Int) ≤ 4 by omega), decide_eq_false (show ¬ xss.length = 0 by omega)]
    rfl
  refine ⟨by unfold ncV; rw [if_pos hok], ncN_lt _ _ _ (by omega), ?_⟩
  have hlt := ncN_lt xss (xss.getD z []) xss.length (by omega)
  have hle := ncN_le xss (xss.getD z []) xss.length z hz
  have h0 : gpL xss (xss.getD z []) z = 0 := gapN_self _ _
  generalize ncN xss (xss.getD z []) xss.length = j at *
  have hlj := (hc j hlt).1
  have hge : 0 ≤ gpL xss (xss.getD z []) j := gapN_mono _ _ _
  have hz0 : gapN (xss.getD j []) (xss.getD z []) (xss.getD j []).length = 0 := by
    have : gpL xss (xss.getD z []) j = gapN (xss.getD j []) (xss.getD z []) (xss.getD j []).length := rfl
    omega
  exact list_eq (by omega) (gapN_zero hz0)
end Go.Proofs.Ytjcohmljpokgcaa
