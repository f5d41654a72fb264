/- Facts of images scaled by areas that the laws need. -/
import Derived.Test.YtcmjlpmdmejmaaaScaT
import Derived.Test.YtcmjlpmdmejmaaaOkJ
import Derived.Test.YtcmjlpmdmejmaaaImgSc
namespace Go.Proofs.Ytcmjlpmdmejmaaa
open Go.RowKit Go.Shelf
set_option linter.unusedSimpArgs false
set_option linter.unusedVariables false

theorem iAr_sc (W H P a b : Int) (xs : List Int) (hx : xs.length ≤ 2000) : ScC 14 a b W H P xs (cond (scOk W H P xs a b) a 0) (cond (scOk W H P xs a b) b 0) (cond (scOk W H P xs a b) P 0) (cond (scOk W H P xs a b) (areL W.toNat H.toNat P.toNat xs a.toNat b.toNat) []) :=
  fun A c w hr hc => (by first | exact i_ScaleArea W H P a b A c xs w hr (by omega) hc | exact s_ScaleArea W H P a b A c xs w hr (by omega) hc : Calls _ _ _ _ _).mono fun _ _ h => ShI.of h
theorem iAr_I {W H P a b : Nat} {F : Nat → Nat → Nat → Int} (ok : okJ W H P F) (ha : 1 ≤ a ∧ a ≤ 16) (hb : 1 ≤ b ∧ b ≤ 16) : ScC 14 a b W H P (img W H P F) a b P (img a b P (arF W H a b F)) := by
  have hs : vsh a b P = true := by
    have h3 := ok.2.2.1
    unfold vsh
    rw [decide_eq_true (show (1 : Int) ≤ a ∧ (a : Int) ≤ 16 by omega), decide_eq_true (show (1 : Int) ≤ b ∧ (b : Int) ≤ 16 by omega), decide_eq_true (show (1 : Int) ≤ P ∧ (P : Int) ≤ 4 by omega)]; rfl
  have ho : scOk W H P (img W H P F) a b = true := by unfold scOk; rw [ok.vim, hs]; rfl
  have h := iAr_sc W H P a b (img W H P F) (by have := ok.bd; omega)
  rw [ho] at h
  have h' : ScC 14 a b W H P (img W H P F) a b P (areL W H P (img W H P F) a b) := h
  have e : areL W H P (img W H P F) a b = img a b P (arF W H a b F) :=
    img_ext fun x y p hx hy hp => arF_ext (F := px W P (img W H P F)) (fun c r hc hr => by rw [← img_pxc (H := H) hp]; exact img_pxc2' F hc hr hp)
  rwa [e] at h'
theorem okJ.are {W H P a b : Nat} {F : Nat → Nat → Nat → Int} (ok : okJ W H P F) (ha : 1 ≤ a ∧ a ≤ 16) (hb : 1 ≤ b ∧ b ≤ 16) : okJ a b P (arF W H a b F) :=
  ⟨ha, hb, ok.2.2.1, fun x y p hx hy hp => arF_between (lo := 0) (hi := 255) ok.1.1 ok.2.1.1 hx hy (fun c r hc hr => ok.2.2.2 c r p hc hr hp)⟩
/-- Twice as many columns and rows, by areas and by pixels. -/
theorem dbl_same {W H P : Nat} (F : Nat → Nat → Nat → Int) (hW : 1 ≤ W) (hH : 1 ≤ H) : img (2 * W) (2 * H) P (arF W H (2 * W) (2 * H) F) = img (2 * W) (2 * H) P (fun x y => F (x * W / (2 * W)) (y * H / (2 * H))) :=
  img_ext fun x y p hx hy hp => by
    rw [arF_dbl F hW hH hx hy, Nat.mul_div_mul_right x 2 hW, Nat.mul_div_mul_right y 2 hH]
/-- Twice and half again. -/
theorem dbl_half {W H P : Nat} (F : Nat → Nat → Nat → Int) (hW : 1 ≤ W) (hH : 1 ≤ H) : img W H P (arF (2 * W) (2 * H) W H (arF W H (2 * W) (2 * H) F)) = img W H P F :=
  img_ext fun x y p hx hy hp => by
    rw [arF_half _ hW hH hx hy]
    unfold hvF
    rw [arF_dbl F hW hH (by omega) (by omega), arF_dbl F hW hH (by omega) (by omega), arF_dbl F hW hH (by omega) (by omega), arF_dbl F hW hH (by omega) (by omega)]
    rw [show 2 * x / 2 = x by omega, show (2 * x + 1) / 2 = x by omega, show 2 * y / 2 = y by omega, show (2 * y + 1) / 2 = y by omega]
    omega
end Go.Proofs.Ytcmjlpmdmejmaaa
