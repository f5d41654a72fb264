/- The cost of a list of tokens, and of both parts of it. -/
import Derived.Test.YtkfgcpoobbejkaaTok
namespace Go.Proofs.Ytkfgcpoobbejkaa
open Go.RowKit
set_option linter.unusedSimpArgs false
set_option linter.unusedVariables false

theorem tcost_take (xs : List Int) (k : Nat) : ∀ j, j ≤ k → tcost (xs.take (3 * k)) j = tcost xs j
  | 0, _ => rfl
  | j + 1, h => by
    unfold tcost
    rw [tcost_take xs k j (by omega)]
    have e : (xs.take (3 * k)).getD (j * 3 + 1) 0 = xs.getD (j * 3 + 1) 0 := by
      rw [List.getD_eq_getElem?_getD, List.getD_eq_getElem?_getD, List.getElem?_take_of_lt (by omega)]
    rw [e]
theorem tcost_drop (xs : List Int) (k : Nat) : ∀ j, tcost xs k + tcost (xs.drop (3 * k)) j = tcost xs (k + j)
  | 0 => by simp [tcost]
  | j + 1 => by
    have ih := tcost_drop xs k j
    show tcost xs k + (tcost (xs.drop (3 * k)) j + tk ((xs.drop (3 * k)).getD (j * 3 + 1) 0)) = tcost xs (k + j) + tk (xs.getD ((k + j) * 3 + 1) 0)
    have e : (xs.drop (3 * k)).getD (j * 3 + 1) 0 = xs.getD ((k + j) * 3 + 1) 0 := by
      rw [List.getD_eq_getElem?_getD, List.getD_eq_getElem?_getD, List.getElem?_drop, show 3 * k + (j * 3 + 1) = (k + j) * 3 + 1 by omega]
    rw [e]; omega
theorem rds_drop {w : World} {B b off : Nat} {xs : List Int} (h : Rds .i64 w B (some ⟨b, off, none⟩) xs) (m : Nat) : Rds .i64 w B (some ⟨b, off + m, none⟩) (xs.drop m) := by
  rcases h with h | ⟨g, o, he, hg, hc⟩
  · exact .inl (by rw [h]; simp)
  · cases he
    refine .inr ⟨b, off + m, rfl, hg, fun j hj => ?_⟩
    have hj' : m + j < xs.length := by simp at hj; omega
    have := hc (m + j) hj'
    rw [show off + m + j = off + (m + j) by omega, this]
    simp [List.getD_eq_getElem?_getD, List.getElem?_drop]
end Go.Proofs.Ytkfgcpoobbejkaa
