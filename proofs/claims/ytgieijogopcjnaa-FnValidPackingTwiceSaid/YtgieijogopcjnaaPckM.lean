/- Sprites in descending order of their heights, as the model orders them. -/
import Derived.Test.YtgieijogopcjnaaLists
namespace Go.Proofs.Ytgieijogopcjnaa
open Go.RowKit
set_option linter.unusedSimpArgs false
set_option linter.unusedVariables false

/-- The height of sprite i (two numbers a sprite). -/
def hgt (xs : List Int) (i : Nat) : Int := xs.getD (i * 2 + 1) 0
/-- How far down from place k a sprite of height x goes. -/
def tfP (xs : List Int) (x : Int) (out : List Int) : Nat → Nat
  | 0 => 0
  | k + 1 => if hgt xs (out.getD k 0).toNat < x then tfP xs x out k else k + 1
/-- The first i sprites in order. -/
def tfO (xs : List Int) : Nat → List Int
  | 0 => []
  | i + 1 => (tfO xs i).take (tfP xs (hgt xs i) (tfO xs i) (tfO xs i).length) ++ [(i : Int)] ++ (tfO xs i).drop (tfP xs (hgt xs i) (tfO xs i) (tfO xs i).length)
theorem tfP_le (xs : List Int) (x : Int) (out : List Int) : ∀ k, tfP xs x out k ≤ k
  | 0 => Nat.le_refl _
  | k + 1 => by
    unfold tfP
    split
    · exact Nat.le_succ_of_le (tfP_le xs x out k)
    · exact Nat.le_refl _
theorem tfO_len (xs : List Int) : ∀ i, (tfO xs i).length = i
  | 0 => rfl
  | i + 1 => by
    have h1 := tfO_len xs i
    have h2 := tfP_le xs (hgt xs i) (tfO xs i) (tfO xs i).length
    unfold tfO
    simp only [List.length_append, List.length_take, List.length_drop, List.length_cons, List.length_nil]
    omega
theorem tfO_mem (xs : List Int) : ∀ i, ∀ y ∈ tfO xs i, ∃ q : Nat, q < i ∧ y = (q : Int)
  | 0, y, h => by simp [tfO] at h
  | i + 1, y, h => by
    unfold tfO at h
    simp only [List.mem_append, List.mem_singleton] at h
    rcases h with (h | h) | h
    · obtain ⟨q, hq, e⟩ := tfO_mem xs i y (List.mem_of_mem_take h)
      exact ⟨q, by omega, e⟩
    · exact ⟨i, by omega, h⟩
    · obtain ⟨q, hq, e⟩ := tfO_mem xs i y (List.mem_of_mem_drop h)
      exact ⟨q, by omega, e⟩
theorem tfO_get (xs : List Int) {i j : Nat} (hj : j < i) : ∃ q : Nat, q < i ∧ (tfO xs i).getD j 0 = (q : Int) := by
  have hl := tfO_len xs i
  refine tfO_mem xs i _ ?_
  rw [List.getD_eq_getElem?_getD, List.getElem?_eq_getElem (by omega)]
  exact List.getElem_mem _
end Go.Proofs.Ytgieijogopcjnaa
