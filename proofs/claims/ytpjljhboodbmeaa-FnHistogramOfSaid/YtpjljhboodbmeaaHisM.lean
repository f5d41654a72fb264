/- Mathematics of histograms. -/
import Derived.Test.YtpjljhboodbmeaaPix
namespace Go.Proofs.Ytpjljhboodbmeaa
set_option linter.unusedSimpArgs false
set_option linter.unusedVariables false

/-- How often each number of 0..255 stands in a list. -/
def hist (xs : List Int) : List Int := (List.range 256).map fun (n : Nat) => ((xs.count ((n : Nat) : Int) : Nat) : Int)
theorem hist_len (xs : List Int) : (hist xs).length = 256 := by simp [hist]
theorem hist_get (xs : List Int) {n : Nat} (h : n < 256) : (hist xs).getD n 0 = ((xs.count (n : Int) : Nat) : Int) := by
  simp [hist, List.getD_eq_getElem?_getD, h]
theorem hist_bd (xs : List Int) (n : Nat) : 0 ≤ (hist xs).getD n 0 ∧ (hist xs).getD n 0 ≤ xs.length := by
  by_cases h : n < 256
  · rw [hist_get xs h]
    have := List.count_le_length (a := (n : Int)) (l := xs)
    omega
  · rw [List.getD_eq_getElem?_getD, List.getElem?_eq_none (by rw [hist_len]; omega)]
    simp
theorem hist_nil : hist [] = List.replicate 256 0 := by
  apply List.ext_getElem?
  intro i
  by_cases h : i < 256
  · rw [hist, List.getElem?_map, List.getElem?_range h, List.getElem?_replicate, if_pos h]
    rfl
  · rw [List.getElem?_eq_none (by rw [hist_len]; omega), List.getElem?_eq_none (by rw [List.length_replicate]; omega)]
theorem hist_step (xs : List Int) (n : Nat) (h : n < 256) : (hist xs).set n ((hist xs).getD n 0 + 1) = hist (xs ++ [(n : Int)]) := by
  rw [hist_get xs h]
  apply List.ext_getElem?
  intro i
  rw [List.getElem?_set]
  by_cases hi : i < 256
  · by_cases e : n = i
    · subst e
      simp [hist, h]
    · have e2 : ¬ (n : Int) = (i : Int) := by omega
      simp [hist, hi, e, List.count_append, List.count_singleton, e2]
  · have e : ¬ n = i := by omega
    simp [hist, hi, e]
theorem take_snoc (xs : List Int) (j : Nat) (h : j < xs.length) : xs.take (j + 1) = xs.take j ++ [xs.getD j 0] := by
  rw [List.take_succ_eq_append_getElem h]
  simp [h]
end Go.Proofs.Ytpjljhboodbmeaa
