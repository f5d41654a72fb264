/- Facts of images scaled by areas that the laws need. -/
import Derived.Test.YtmkfgcmabmocfaaScaT
import Derived.Test.YtmkfgcmabmocfaaOkJ
import Derived.Test.YtmkfgcmabmocfaaImgSc
namespace Go.Proofs.Ytmkfgcmabmocfaa
open Go.RowKit Go.Shelf
set_option linter.unusedSimpArgs false
set_option linter.unusedVariables false

theorem iAr_sc (W H P a b : Int) (xs : List Int) (hx : xs.length ≤ 2000) : ScC 39 a b W H P xs (cond (scOk W H P xs a b) a 0) (cond (scOk W H P xs a b) b 0) (cond (scOk W H P xs a b) P 0) (cond (scOk W H P xs a b) (areL W.toNat H.toNat P.toNat xs a.toNat b.toNat) []) :=
  fun A c w hr hc => (by first | exact i_ScaleArea W H P a b A c xs w hr (by omega) hc | exact s_ScaleArea W H P a b A c xs w hr (by omega) hc : Calls _ _ _ _ _).mono fun _ _ h => ShI.of h
theorem iAr_I {W H P a b : Nat} {F : Nat → Nat → Nat → Int} (ok : okJ W H P F) (ha : 1 ≤ a ∧ a ≤ 16) (hb : 1 ≤ b ∧ b ≤ 16) : ScC 39 a b W H P (img W H P F) a b P (img a b P (arF W H a b F)) := by
  have hs : vsh a b P = true := by
    have h3 := ok.2.2.1
    unfold vsh
    rw [decide_eq_true (show (1 : Int) ≤ a ∧ (a : Int) ≤ 16 by omega), decide_eq_true (show (1 : Int) ≤ b ∧ (b : Int) ≤ 16 by omega), decide_eq_true (show (1 : Int) ≤ P ∧ (P : Int) ≤ 4 by omega)]; rfl
  have ho : scOk W H P (img W H P F) a b = true := by unfold scOk; rw [ok.vim, hs]; rfl
  have h := iAr_sc W H P a b (img W H P F) (by have := ok.bd; omega)
  rw [ho] at h
  have h' : ScC 39 a b W H P (img W H P F) a b P (areL W H P (img W H P F) a b) := h
  have e : areL W H P (img W H P F) a b = img a b P (arF W H a b F) :=
    img_ext fun x y p hx hy hp => arF_ext (F := px W P (img W H P F)) (fun c r hc hr => by rw [← img_pxc (H := H) hp]; exact img_pxc2' F hc hr hp)
  rwa [e] at h'
theorem sAr_sc (W H P a b : Int) (xs : List Int) (hx : xs.length ≤ 2000) : ScC 38 a b W H P xs (cond (scOk W H P xs a b) a 0) (cond (scOk W H P xs a b) b 0) (cond (scOk W H P xs a b) P 0) (cond (scOk W H P xs a b) (areL W.toNat H.toNat P.toNat xs a.toNat b.toNat) []) :=
  fun A c w hr hc => (by first | exact i_ScaleArea W H P a b A c xs w hr (by omega) hc | exact s_ScaleArea W H P a b A c xs w hr (by omega) hc : Calls _ _ _ _ _).mono fun _ _ h => ShI.of h
theorem sAr_I {W H P a b : Nat} {F : Nat → Nat → Nat → Int} (ok : okJ W H P F) (ha : 1 ≤ a ∧ a ≤ 16) (hb : 1 ≤ b ∧ b ≤ 16) : ScC 38 a b W H P (img W H P F) a b P (img a b P (arF W H a b F)) := by
  have hs : vsh a b P = true := by
    have h3 := ok.2.2.1
    unfold vsh
    rw [decide_eq_true (show (1 : Int) ≤ a ∧ (a : Int) ≤ 16 by omega), decide_eq_true (show (1 : Int) ≤ b ∧ (b : Int) ≤ 16 by omega), decide_eq_true (show (1 : Int) ≤ P ∧ (P : Int) ≤ 4 by omega)]; rfl
  have ho : scOk W H P (img W H P F) a b = true := by unfold scOk; rw [ok.vim, hs]; rfl
  have h := sAr_sc W H P a b (img W H P F) (by have := ok.bd; omega)
  rw [ho] at h
  have h' : ScC 38 a b W H P (img W H P F) a b P (areL W H P (img W H P F) a b) := h
  have e : areL W H P (img W H P F) a b = img a b P (arF W H a b F) :=
    img_ext fun x y p hx hy hp => arF_ext (F := px W P (img W H P F)) (fun c r hc hr => by rw [← img_pxc (H := H) hp]; exact img_pxc2' F hc hr hp)
  rwa [e] at h'
theorem okJ.are {W H P a b : Nat} {F : Nat → Nat → Nat → Int} (ok : okJ W H P F) (ha : 1 ≤ a ∧ a ≤ 16) (hb : 1 ≤ b ∧ b ≤ 16) : okJ a b P (arF W H a b F) :=
  ⟨ha, hb, ok.2.2.1, fun x y p hx hy hp => arF_between (lo := 0) (hi := 255) ok.1.1 ok.2.1.1 hx hy (fun c r hc hr => ok.2.2.2 c r p hc hr hp)⟩
/-- Twice as many columns and rows, by areas and by pixels. -/
theorem dbl_same {W H P : Nat} (F : Nat → Nat → Nat → Int) (hW : 1 ≤ W) (hH : 1 ≤ H) : img (2 * W) (2 * H) P (arF W H (2 * W) (2 * H) F) = img (2 * W) (2 * H) P (fun x y => F (x * W / (2 * W)) (y * H / (2 * H))) :=
  img_ext fun x y p hx hy hp => by
    rw [arF_dbl F hW hH hx hy, Nat.mul_div_mul_right x 2 hW, Nat.mul_div_mul_right y 2 hH]
/-- Twice and half again. -/
theorem dbl_half {W H P : Nat} (F : Nat → Nat → Nat → Int) (hW : 1 ≤ W) (hH : 1 ≤ H) : img W H P (arF (2 * W) (2 * H) W H (arF W H (2 * W) (2 * H) F)) = img W H P F :=
  img_ext fun x y p hx hy hp => by
    rw [arF_half _ hW hH hx hy]
    unfold hvF
    rw [arF_dbl F hW hH (by omega) (by omega), arF_dbl F hW hH (by omega) (by omega), arF_dbl F hW hH (by omega) (by omega), arF_dbl F hW hH (by omega) (by omega)]
    rw [show 2 * x / 2 = x by omega, show (2 * x + 1) / 2 = x by omega, show 2 * y / 2 = y by omega, show (2 * y + 1) / 2 = y by omega]
    omega
theorem are_law (W H P a b : Int) (xs : List Int) (hx : xs.length ≤ 256) : ∃ (X Y Z : Int) (ys : List Int), ys.length ≤ 2000 ∧ Hid (ScC 39 a b W H P xs X Y Z ys) ∧ Hid (ScC 38 a b W H P xs X Y Z ys) ∧
    (X = 0 ∨ (X ≠ 0 ∧ (1 ≤ W ∧ W ≤ 16) ∧ (1 ≤ H ∧ H ≤ 16) ∧ (16 < 2 * W ∨ (2 * W ≤ 16 ∧ 16 < 2 * H) ∨ (2 * W ≤ 16 ∧ 2 * H ≤ 16 ∧ ∃ zs : List Int, zs.length ≤ 2000 ∧ Hid (ScC 39 (2 * W) (2 * H) W H P xs (2 * W) (2 * H) P zs) ∧ Hid (ScC 41 (2 * W) (2 * H) W H P xs (2 * W) (2 * H) P zs))))) := by
  have h1 := iAr_sc W H P a b xs (by omega)
  have h2 := sAr_sc W H P a b xs (by omega)
  cases ho : scOk W H P xs a b
  · rw [ho] at h1 h2
    exact ⟨_, _, _, _, by simp, Lib.hid h1, Lib.hid h2, .inl rfl⟩
  · rw [ho] at h1 h2
    have ho' := ho
    unfold scOk at ho'
    rw [Bool.and_eq_true] at ho'
    obtain ⟨W, H, P, F, rfl, rfl, rfl, rfl, ok⟩ := vim_okJ ho'.1
    obtain ⟨a, b, _, rfl, rfl, _, ha, hb, _⟩ := vsh_nat ho'.2
    refine ⟨_, _, _, _, by have := (ok.are ha hb).bd; omega, Lib.hid (iAr_I ok ha hb), Lib.hid (sAr_I ok ha hb), .inr ⟨by omega, by have := ok.1; omega, by have := ok.2.1; omega, ?_⟩⟩
    by_cases h1 : 16 < 2 * (W : Int)
    · exact .inl h1
    · by_cases h2 : 16 < 2 * (H : Int)
      · exact .inr (.inl ⟨by omega, h2⟩)
      · have hw : 1 ≤ 2 * W ∧ 2 * W ≤ 16 := by have := ok.1; omega
        have hh : 1 ≤ 2 * H ∧ 2 * H ≤ 16 := by have := ok.2.1; omega
        have k1 := iAr_I ok hw hh
        have k2 := iS_I ok hw hh
        rw [dbl_same F ok.1.1 ok.2.1.1] at k1
        have e1 : 2 * (W : Int) = ((2 * W : Nat) : Int) := by omega
        have e2 : 2 * (H : Int) = ((2 * H : Nat) : Int) := by omega
        refine .inr (.inr ⟨by omega, by omega, img (2 * W) (2 * H) P (fun x y => F (x * W / (2 * W)) (y * H / (2 * H))), by have := (ok.sca hw hh).bd; omega, Lib.hid ?_, Lib.hid ?_⟩)
        · rw [e1, e2]; exact k1
        · rw [e1, e2]; exact k2
theorem arl_law (W H P a b : Int) (xs : List Int) (hx : xs.length ≤ 256) : ∃ (X Y Z : Int) (ys : List Int), ys.length ≤ 2000 ∧ Hid (ScC 39 a b W H P xs X Y Z ys) ∧ Hid (ScC 38 a b W H P xs X Y Z ys) ∧
    (X = 0 ∨ (X ≠ 0 ∧ ∃ (w h p K : Nat), W = w ∧ H = h ∧ P = p ∧ (1 ≤ w ∧ w ≤ 16) ∧ (1 ≤ h ∧ h ≤ 16) ∧ (1 ≤ p ∧ p ≤ 4) ∧ xs.length = w * h * p ∧ ys.length = K * p ∧ (∀ j, j < xs.length → 0 ≤ xs.getD j 0 ∧ xs.getD j 0 ≤ 255) ∧
      Hid (∀ (q : Nat) (lo hi : Int), q < p → (∀ k, k < w * h → lo ≤ xs.getD (k * p + q) 0 ∧ xs.getD (k * p + q) 0 ≤ hi) → ∀ k, k < K → lo ≤ ys.getD (k * p + q) 0 ∧ ys.getD (k * p + q) 0 ≤ hi) ∧
      (16 < 2 * W ∨ (2 * W ≤ 16 ∧ 16 < 2 * H) ∨ (2 * W ≤ 16 ∧ 2 * H ≤ 16 ∧ ∃ zs : List Int, zs.length ≤ 2000 ∧ Hid (ScC 39 (2 * W) (2 * H) W H P xs (2 * W) (2 * H) P zs) ∧ Hid (ScC 39 W H (2 * W) (2 * H) P zs W H P xs))))) := by
  have h1 := iAr_sc W H P a b xs (by omega)
  have h2 := sAr_sc W H P a b xs (by omega)
  cases ho : scOk W H P xs a b
  · rw [ho] at h1 h2
    exact ⟨_, _, _, _, by simp, Lib.hid h1, Lib.hid h2, .inl rfl⟩
  · rw [ho] at h1 h2
    have ho' := ho
    unfold scOk at ho'
    rw [Bool.and_eq_true] at ho'
    obtain ⟨W, H, P, F, rfl, rfl, rfl, rfl, ok⟩ := vim_okJ ho'.1
    obtain ⟨a, b, _, rfl, rfl, _, ha, hb, _⟩ := vsh_nat ho'.2
    refine ⟨_, _, _, _, by have := (ok.are ha hb).bd; omega, Lib.hid (iAr_I ok ha hb), Lib.hid (sAr_I ok ha hb), .inr ⟨by omega, W, H, P, a * b, rfl, rfl, rfl, ok.1, ok.2.1, ok.2.2.1, img_len _ _ _ _, img_len _ _ _ _, ?_, Lib.hid ?_, ?_⟩⟩
    · intro j hj
      obtain ⟨i, hi, e⟩ := List.mem_map.1 (show (img W H P F).getD j 0 ∈ img W H P F by rw [List.getD_eq_getElem?_getD, List.getElem?_eq_getElem hj]; exact List.getElem_mem hj)
      rw [← e]
      have hi' := List.mem_range.1 hi
      have hPp : 0 < P := ok.2.2.1.1
      have hk : i / P < W * H := by rw [Nat.div_lt_iff_lt_mul hPp]; exact hi'
      exact ok.2.2.2 _ _ _ (Nat.mod_lt _ ok.1.1) (by rw [Nat.div_lt_iff_lt_mul ok.1.1, Nat.mul_comm H W]; exact hk) (Nat.mod_lt _ hPp)
    · intro q lo hi hq hb2 k hk
      rw [img_at _ hk hq]
      have hky : k / a < b := by rw [Nat.div_lt_iff_lt_mul ha.1, Nat.mul_comm b a]; exact hk
      refine arF_between ok.1.1 ok.2.1.1 (Nat.mod_lt _ ha.1) hky (fun c r hc hr => ?_)
      have := hb2 (r * W + c) (row_lt hc hr)
      rw [img_at _ (row_lt hc hr) hq, row_mod hc, row_div hc] at this
      exact this
    · by_cases h1 : 16 < 2 * (W : Int)
      · exact .inl h1
      · by_cases h2 : 16 < 2 * (H : Int)
        · exact .inr (.inl ⟨by omega, h2⟩)
        · have hw : 1 ≤ 2 * W ∧ 2 * W ≤ 16 := by have := ok.1; omega
          have hh : 1 ≤ 2 * H ∧ 2 * H ≤ 16 := by have := ok.2.1; omega
          have k1 := iAr_I ok hw hh
          have k2 := iAr_I (ok.are hw hh) ok.1 ok.2.1
          rw [dbl_half F ok.1.1 ok.2.1.1] at k2
          have e1 : 2 * (W : Int) = ((2 * W : Nat) : Int) := by omega
          have e2 : 2 * (H : Int) = ((2 * H : Nat) : Int) := by omega
          refine .inr (.inr ⟨by omega, by omega, img (2 * W) (2 * H) P (arF W H (2 * W) (2 * H) F), by have := (ok.are hw hh).bd; omega, Lib.hid ?_, Lib.hid ?_⟩)
          · rw [e1, e2]; exact k1
          · rw [e1, e2]; exact k2
end Go.Proofs.Ytmkfgcmabmocfaa
