/- Mathematics of histograms. -/
import Derived.Test.YtaejhodikpjeoaaPix
namespace Go.Proofs.Ytaejhodikpjeoaa
set_option linter.unusedSimpArgs false
set_option linter.unusedVariables false

/-- How often each number of 0..255 stands in a list. -/
def hist (xs : List Int) : List Int := (List.range 256).map fun (n : Nat) => ((xs.count ((n : Nat) : Int) : Nat) : Int)
theorem hist_len (xs : List Int) : (hist xs).length = 256 := by simp [hist]
theorem hist_get (xs : List Int) {n : Nat} (h : n < 256) : (hist xs).getD n 0 = ((xs.count (n : Int) : Nat) : Int) := by
  simp [hist, List.getD_eq_getElem?_getD, h]
theorem hist_bd (xs : List Int) (n : Nat) : 0 ≤ (hist xs).getD n 0 ∧ (hist xs).getD n 0 ≤ xs.length := by
  by_cases h : n < 256
  · rw [hist_get xs h]
    have := List.count_le_length (a := (n : Int)) (l := xs)
    omega
  · rw [List.getD_eq_getElem?_getD, List.getElem?_eq_none (by rw [hist_len]; omega)]
    simp
theorem hist_nil : hist [] = List.replicate 256 0 := by
  apply List.ext_getElem?
  intro i
  by_cases h : i < 256
  · rw [hist, List.getElem?_map, List.getElem?_range h, List.getElem?_replicate, if_pos h]
    rfl
  · rw [List.getElem?_eq_none (by rw [hist_len]; omega), List.getElem?_eq_none (by rw [List.length_replicate]; omega)]
theorem hist_step (xs : List Int) (n : Nat) (h : n < 256) : (hist xs).set n ((hist xs).getD n 0 + 1) = hist (xs ++ [(n : Int)]) := by
  rw [hist_get xs h]
  apply List.ext_getElem?
  intro i
  rw [List.getElem?_set]
  by_cases hi : i < 256
  · by_cases e : n = i
    · subst e
      simp [hist, h]
    · have e2 : ¬ (n : Int) = (i : Int) := by omega
      simp [hist, hi, e, List.count_append, List.count_singleton, e2]
  · have e : ¬ n = i := by omega
    simp [hist, hi, e]
theorem take_snoc (xs : List Int) (j : Nat) (h : j < xs.length) : xs.take (j + 1) = xs.take j ++ [xs.getD j 0] := by
  rw [List.take_succ_eq_append_getElem h]
  simp [h]
/-- The sum of the first numbers of a list. -/
def sm (xs : List Int) : Nat → Int
  | 0 => 0
  | k + 1 => sm xs k + xs.getD k 0
theorem sm_bd {xs : List Int} (h : ∀ j, j < xs.length → 0 ≤ xs.getD j 0 ∧ xs.getD j 0 ≤ 100000) : ∀ k, k ≤ xs.length → 0 ≤ sm xs k ∧ sm xs k ≤ 100000 * k
  | 0, _ => by simp [sm]
  | k + 1, hk => by
    have := sm_bd h k (by omega)
    have := h k (by omega)
    unfold sm
    omega
theorem countP_next (N : Nat) : ∀ xs : List Int, (∀ x ∈ xs, 0 ≤ x) → xs.countP (fun x => decide (x < ((N + 1 : Nat) : Int))) = xs.countP (fun x => decide (x < (N : Int))) + xs.count (N : Int)
  | [], _ => rfl
  | x :: xs, h => by
    rw [List.countP_cons, List.countP_cons, List.count_cons, countP_next N xs (fun y hy => h y (List.mem_cons_of_mem _ hy))]
    have := h x List.mem_cons_self
    by_cases h1 : x = (N : Int)
    · have h2 : ¬ x < (N : Int) := by omega
      have h3 : x < ((N + 1 : Nat) : Int) := by omega
      have h4 : ((x == (N : Int)) = true) = True := by simp [h1]
      simp only [h2, h3, h4, decide_true, decide_false, if_true, if_false, Bool.false_eq_true]; omega
    · by_cases h2 : x < (N : Int)
      · have h3 : x < ((N + 1 : Nat) : Int) := by omega
        have h4 : ((x == (N : Int)) = true) = False := by simp [h1]
        simp only [h2, h3, h4, decide_true, if_true, if_false]; omega
      · have h3 : ¬ x < ((N + 1 : Nat) : Int) := by omega
        have h4 : ((x == (N : Int)) = true) = False := by simp [h1]
        simp only [h2, h3, h4, decide_false, if_false, Bool.false_eq_true]; omega
theorem sm_hist (xs : List Int) (h : ∀ x ∈ xs, 0 ≤ x) : ∀ N, N ≤ 256 → sm (hist xs) N = (xs.countP (fun x => decide (x < (N : Int))) : Nat)
  | 0, _ => by
    show (0 : Int) = _
    have : xs.countP (fun x => decide (x < ((0 : Nat) : Int))) = 0 := List.countP_eq_zero.2 fun x hx => by have := h x hx; simp; omega
    rw [this]; rfl
  | N + 1, hN => by
    rw [sm, sm_hist xs h N (by omega), hist_get xs (show N < 256 by omega), countP_next N xs h]
    omega
theorem sm_all (xs : List Int) (h : ∀ x ∈ xs, 0 ≤ x ∧ x ≤ 255) : sm (hist xs) 256 = xs.length := by
  rw [sm_hist xs (fun x hx => (h x hx).1) 256 (Nat.le_refl _)]
  congr 1
  exact List.countP_eq_length.2 fun x hx => by have := h x hx; simp; omega
end Go.Proofs.Ytaejhodikpjeoaa
