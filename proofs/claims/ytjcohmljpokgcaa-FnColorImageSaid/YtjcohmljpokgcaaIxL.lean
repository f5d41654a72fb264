/- Mathematics of IndexImage's law. -/
import Derived.Test.YtjcohmljpokgcaaIxM
import Derived.Test.YtjcohmljpokgcaaNcL
import Derived.Test.YtjcohmljpokgcaaPixI
namespace Go.Proofs.Ytjcohmljpokgcaa
open Go.RowKit
set_option linter.unusedSimpArgs false
set_option linter.unusedVariables false

theorem vim_mk {W H : Nat} {F : Nat → Nat → Nat → Int} (hW1 : 1 ≤ W) (hW : W ≤ 16) (hH1 : 1 ≤ H) (hH : H ≤ 16) (hb : ∀ x y, x < W → y < H → 0 ≤ F x y 0 ∧ F x y 0 ≤ 255) : vim W H 1 (img W H 1 F) = true := by
  have h1 : vsh (W : Int) (H : Int) 1 = true := by
    unfold vsh
    rw [decide_eq_true (show 1 ≤ (W : Int) ∧ (W : Int) ≤ 16 by omega), decide_eq_true (show 1 ≤ (H : Int) ∧ (H : Int) ≤ 16 by omega)]
    rfl
  have h2 : ((img W H 1 F).length : Int) = (W : Int) * (H : Int) * 1 := by rw [img_len]; simp
  have h3 : allB 0 255 (img W H 1 F) = true := allB_yes fun j hj => by
    rw [img_len, Nat.mul_one] at hj
    have h := img_at (P := 1) F (k := j) (p := 0) hj (by omega)
    rw [Nat.mul_one, Nat.add_zero] at h
    rw [h]
    exact hb _ _ (Nat.mod_lt _ (by omega)) (by rw [Nat.mul_comm] at hj; exact Nat.div_lt_of_lt_mul (by rw [Nat.mul_comm]; exact hj))
  unfold vim
  rw [h1, decide_eq_true h2, h3]
  rfl
theorem onIm_mk {W H x y : Nat} (hx : x < W) (hy : y < H) : onIm W H x y = true := by simp only [onIm, Bool.and_eq_true, decide_eq_true_eq]; omega
/-- Where an image can be told: its shape, and the pixels of both images. -/
theorem ix_law {W H P : Int} {xs : List Int} {xss : List (List Int)} (h : ixOk W H P xs xss = true) : ∃ w h p : Nat, W = w ∧ H = h ∧ P = p ∧ (1 ≤ w ∧ w ≤ 16) ∧ (1 ≤ h ∧ h ≤ 16) ∧ (1 ≤ p ∧ p ≤ 4) ∧
    ∀ x y : Nat, x < w → y < h → (pxl w p xs x y).length = p ∧ pxv W H P xs x y = pxl w p xs x y ∧ ∃ z : Nat, ncV xss (pxl w p xs x y) = z ∧ z ≤ 16 ∧ pxv W H 1 (ixL w h p xs xss) x y = [(z : Int)] := by
  unfold ixOk at h
  rw [Bool.and_eq_true, Bool.and_eq_true] at h
  obtain ⟨hv, hp, hn⟩ := h
  obtain ⟨W, H, P, rfl, rfl, rfl, hW1, hW, hH1, hH, hP1, hP4, hln, hby⟩ := vim_nat hv
  have hpo := palB_of hp
  have hn0 : xss.length ≠ 0 := by
    intro e
    rw [decide_eq_true e] at hn
    simp at hn
  have hnc : ∀ x y : Nat, x < W → y < H → ncV xss (pxl W P xs x y) = (ncN xss (pxl W P xs x y) xss.length : Nat) := fun x y hx hy => by
    have hb : allB 0 255 (pxl W P xs x y) = true := allB_yes fun j hj => by
      rw [pxl_len] at hj
      rw [pxl_get _ _ _ _ _ _ hj]
      exact hby _ (by rw [hln]; exact pix_lt hx hy hj)
    have hok : ncOk xss (pxl W P xs x y) = true := by
      unfold ncOk
      rw [pxl_len, hb, hp, decide_eq_true (show 1 ≤ (P : Int) ∧ (P : Int) ≤ 4 by omega), decide_eq_false hn0]
      rfl
    unfold ncV
    rw [if_pos hok]
  have hbd : ∀ x y : Nat, ncN xss (pxl W P xs x y) xss.length ≤ 16 := fun x y => by
    have := ncN_lt xss (pxl W P xs x y) xss.length (by omega)
    have := hpo.1
    omega
  have hF : ∀ x y p : Nat, ixF W P xs xss x y p = (ncN xss (pxl W P xs x y) xss.length : Nat) := fun x y p => by
    unfold ixF nbI
    rw [if_neg hn0]
  refine ⟨W, H, P, rfl, rfl, rfl, ⟨hW1, hW⟩, ⟨hH1, hH⟩, ⟨hP1, hP4⟩, fun x y hx hy => ⟨pxl_len .., ?_, ncN xss (pxl W P xs x y) xss.length, hnc x y hx hy, hbd x y, ?_⟩⟩
  · show cond (vim W H P xs && onIm W H x y) (pxl W P xs x y) [] = _
    rw [hv, onIm_mk hx hy]; rfl
  · have hv1 : vim W H 1 (ixL W H P xs xss) = true := vim_mk hW1 hW hH1 hH (fun x y _ _ => by rw [hF]; have := hbd x y; omega)
    show cond (vim W H 1 (ixL W H P xs xss) && onIm W H x y) (pxl W 1 (ixL W H P xs xss) x y) [] = _
    rw [hv1, onIm_mk hx hy]
    show pxl W 1 (ixL W H P xs xss) x y = _
    show (List.range 1).map (px W 1 (ixL W H P xs xss) x y) = _
    have h1 : px W 1 (ixL W H P xs xss) x y 0 = ixF W P xs xss x y 0 := img_px _ hx hy (by omega)
    show [px W 1 (ixL W H P xs xss) x y 0] = _
    rw [h1, hF]
end Go.Proofs.Ytjcohmljpokgcaa
