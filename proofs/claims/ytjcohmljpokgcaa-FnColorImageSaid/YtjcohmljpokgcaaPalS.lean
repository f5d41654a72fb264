/- PaletteOf of the model: the colors of an image, each once. -/
import Derived.Test.YtjcohmljpokgcaaLss
import Derived.Test.YtjcohmljpokgcaaNcL
import Derived.Test.YtjcohmljpokgcaaImgA
import Derived.Test.YtjcohmljpokgcaaGridF
import Derived.Test.YtjcohmljpokgcaaGenP
import Derived.Deep.QuietTactic
import Derived.BigQuiet
namespace Go.Proofs.Ytjcohmljpokgcaa
open Go.RowKit
set_option linter.unusedSimpArgs false
set_option linter.unusedVariables false
set_option maxRecDepth 20000

/-- Pixel number k. -/
def pxk (P : Nat) (xs : List Int) (k : Nat) : List Int := (xs.drop (k * P)).take P
theorem pxk_len {P : Nat} {xs : List Int} {k : Nat} (h : k * P + P ≤ xs.length) : (pxk P xs k).length = P := by simp [pxk]; omega
theorem pxk_get {P : Nat} {xs : List Int} {k j : Nat} (h : j < P) : (pxk P xs k).getD j 0 = xs.getD (k * P + j) 0 := by
  unfold pxk
  simp [List.getD_eq_getElem?_getD, List.getElem?_take, List.getElem?_drop, h]
/-- The colors of the first k pixels, each once. -/
def acL (P : Nat) (xs : List Int) : Nat → List (List Int)
  | 0 => []
  | k + 1 => if pxk P xs k ∈ acL P xs k then acL P xs k else acL P xs k ++ [pxk P xs k]
theorem acL_len (P : Nat) (xs : List Int) : ∀ k, (acL P xs k).length ≤ k
  | 0 => Nat.le_refl _
  | k + 1 => by
    have ih := acL_len P xs k
    unfold acL
    split
    · omega
    · simp; omega
theorem acL_row {P : Nat} {xs : List Int} : ∀ {k : Nat}, k * P ≤ xs.length → ∀ ys ∈ acL P xs k, ∃ i, i < k ∧ ys = pxk P xs i
  | 0, _, ys, h => by simp [acL] at h
  | k + 1, hk, ys, h => by
    have hk' : k * P ≤ xs.length := by rw [Nat.add_mul] at hk; omega
    unfold acL at h
    split at h
    · obtain ⟨i, hi, e⟩ := acL_row hk' ys h
      exact ⟨i, by omega, e⟩
    · rcases List.mem_append.1 h with h | h
      · obtain ⟨i, hi, e⟩ := acL_row hk' ys h
        exact ⟨i, by omega, e⟩
      · simp at h
        exact ⟨k, by omega, h⟩
theorem acL_nodup (P : Nat) (xs : List Int) : ∀ k, (acL P xs k).Nodup
  | 0 => List.nodup_nil
  | k + 1 => by
    have ih := acL_nodup P xs k
    unfold acL
    split
    · exact ih
    · rename_i h
      refine List.nodup_append.2 ⟨ih, by simp, fun a ha b hb => ?_⟩
      simp at hb
      subst hb
      exact fun e => h (e ▸ ha)
theorem acL_mem {P : Nat} {xs : List Int} : ∀ {k j : Nat}, j < k → pxk P xs j ∈ acL P xs k
  | 0, j, h => by omega
  | k + 1, j, h => by
    unfold acL
    by_cases e : j = k
    · subst e
      split
      · assumption
      · simp
    · have ih := acL_mem (P := P) (xs := xs) (show j < k by omega)
      split
      · exact ih
      · exact List.mem_append.2 (.inl ih)
theorem acL_head {P : Nat} {xs : List Int} : ∀ {k : Nat}, 1 ≤ k → 1 ≤ (acL P xs k).length ∧ (acL P xs k).getD 0 [] = pxk P xs 0
  | 0, h => by omega
  | k + 1, h => by
    by_cases e : k = 0
    · subst e
      simp [acL]
    · obtain ⟨h1, h2⟩ := acL_head (P := P) (xs := xs) (show 1 ≤ k by omega)
      unfold acL
      split
      · exact ⟨h1, h2⟩
      · refine ⟨by simp, ?_⟩
        rw [← h2, List.getD_eq_getElem?_getD, List.getD_eq_getElem?_getD, List.getElem?_append_left (by omega)]
theorem Lss.base_le {w : World} {base base' : Nat} {v : Value} {xss : List (List Int)} (h : Lss w base v xss) (hb : base' ≤ base) : Lss w base' v xss := by
  obtain ⟨h1, cs, hO, hR⟩ := h
  refine ⟨Nat.le_trans hb h1, cs, ?_, fun i hi => ?_⟩
  · refine ⟨hO.1, ?_⟩
    rcases hO.2 with h2 | ⟨g, cap, cur, hv, hbg, r⟩
    · exact .inl h2
    · exact .inr ⟨g, cap, cur, hv, by omega, r⟩
  · obtain ⟨Ai, ci, k1, k2, k3, k4⟩ := hR i hi
    exact ⟨Ai, ci, k1, k2, k3, fun h0 a ha => ⟨Nat.le_trans hb (k4 h0 a ha).1, (k4 h0 a ha).2⟩⟩
end Go.Proofs.Ytjcohmljpokgcaa
