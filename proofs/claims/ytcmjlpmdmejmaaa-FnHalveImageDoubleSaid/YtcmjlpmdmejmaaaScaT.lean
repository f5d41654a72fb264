/- Contract of ScaleArea in the model. -/
import Derived.Test.YtcmjlpmdmejmaaaScaQ
namespace Go.Proofs.Ytcmjlpmdmejmaaa
open Go.RowKit Go.Shelf
set_option linter.unusedSimpArgs false
set_option linter.unusedVariables false
set_option maxRecDepth 20000

theorem take_set_nextS (xs : List Int) (k : Nat) (hk : k < xs.length) : (xs.take k ++ zeros (xs.length - k)).set k (xs.getD k 0) = xs.take (k + 1) ++ zeros (xs.length - (k + 1)) := by
  apply List.ext_getElem?
  intro j
  simp only [zeros, List.getElem?_set, List.getElem?_append, List.length_take, List.getElem?_take, List.getElem?_replicate, List.length_append, List.length_replicate]
  by_cases h1 : k = j
  · subst h1; simp [hk, show k < min k xs.length + (xs.length - k) by omega, show k < min (k + 1) xs.length by omega]
  · by_cases h2 : j < k
    · simp [h1, show j < min k xs.length by omega, show j < min (k + 1) xs.length by omega, h2, show j < k + 1 by omega]
    · simp [h1, show ¬ j < min k xs.length by omega, show ¬ j < min (k + 1) xs.length by omega]
      split <;> split <;> simp <;> omega
/-- A row that is filled from its beginning on. -/
def stk (L : List Int) (n q : Nat) : List Int := L.take q ++ zeros (n - q)
theorem stk_len' (L : List Int) (n q : Nat) (h : L.length = n) (hq : q ≤ n) : (stk L n q).length = n := by
  unfold stk zeros
  rw [List.length_append, List.length_take, List.length_replicate]
  omega
theorem stk_zero (L : List Int) (n m : Nat) (h : n = m) : stk L n 0 = zeros m := by unfold stk; rw [h]; simp
theorem stk_set (L : List Int) (n q : Nat) (h : L.length = n) (hq : q < n) : (stk L n q).set q (L.getD q 0) = stk L n (q + 1) := by
  subst h; exact take_set_nextS L q hq
theorem stk_all (L : List Int) (n : Nat) (h : L.length = n) : stk L n n = L := by
  unfold stk zeros; rw [Nat.sub_self, ← h, List.take_of_length_le (Nat.le_refl _)]; simp
end Go.Proofs.Ytcmjlpmdmejmaaa
