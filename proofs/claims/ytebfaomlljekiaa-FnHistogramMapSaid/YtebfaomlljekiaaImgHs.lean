/- Histograms: their sum, and the one of the inverted image. -/
import Derived.Test.YtebfaomlljekiaaImgHt
import Derived.Shelf.Abstract
namespace Go.Proofs.Ytebfaomlljekiaa
open Go.RowKit Go.Shelf
set_option linter.unusedSimpArgs false
set_option linter.unusedVariables false

theorem count_inv (n : Int) : ∀ xs : List Int, (inv xs).count (255 - n) = xs.count n
  | [] => rfl
  | x :: xs => by
    show ((255 - x) :: inv xs).count (255 - n) = _
    rw [List.count_cons, List.count_cons, count_inv n xs]
    congr 1
    by_cases h : x = n
    · subst h; simp
    · have h2 : ¬ (255 - x = 255 - n) := by omega
      simp [h, h2]
theorem hist_inv (xs : List Int) (n : Nat) (h : n < 256) : (hist (inv xs)).getD (255 - n) 0 = (hist xs).getD n 0 := by
  rw [hist_get _ (show 255 - n < 256 by omega), hist_get _ h, ← count_inv (n : Int) xs]
  congr 3
  omega
theorem inv_img {W H P : Nat} (F : Nat → Nat → Nat → Int) : inv (img W H P F) = img W H P (fun x y p => 255 - F x y p) := by
  simp [inv, img, List.map_map]
theorem okI.inv {W H P : Nat} {F : Nat → Nat → Nat → Int} (h : okI W H P F) : okI W H P (fun x y p => 255 - F x y p) := ⟨h.1, h.2.1, h.2.2.1, fun x y p hx hy hp => by have := h.2.2.2 x y p hx hy hp; show 0 ≤ 255 - F x y p ∧ 255 - F x y p ≤ 255; omega⟩
theorem okI.mem {W H P : Nat} {F : Nat → Nat → Nat → Int} (h : okI W H P F) : ∀ x ∈ img W H P F, 0 ≤ x ∧ x ≤ 255 := by
  intro n hn
  obtain ⟨i, hi, rfl⟩ := List.mem_map.1 hn
  have := pix_of (List.mem_range.1 hi)
  exact h.2.2.2 _ _ _ this.1 this.2.1 this.2.2.1
theorem iV_inv (W H P : Int) (xs : List Int) (hx : xs.length ≤ 2000) : ImC0 19 W H P xs (cond (vim W H P xs) W 0) (cond (vim W H P xs) H 0) (cond (vim W H P xs) P 0) (cond (vim W H P xs) (inv xs) []) :=
  fun A c w hr hc => (i_Invert W H P A c xs w hr (by omega)).mono fun _ _ h => mif_sh h rfl rfl rfl rfl
theorem iV_I {W H P : Nat} {F : Nat → Nat → Nat → Int} (h : okI W H P F) : ImC0 19 W H P (img W H P F) W H P (img W H P (fun x y p => 255 - F x y p)) := by
  have hc := iV_inv W H P (img W H P F) (by have := h.bd; omega)
  rw [h.vim, inv_img] at hc
  exact hc
end Go.Proofs.Ytebfaomlljekiaa
