/- Facts of mirrors, turns and transposes that the laws need: contracts as hypotheses, and what comes back. -/
import Derived.Test.YtpgicdnbdjdceaaLSt
import Derived.Test.YtpgicdnbdjdceaaTurnI
import Derived.Test.YtpgicdnbdjdceaaSpecT
namespace Go.Proofs.Ytpgicdnbdjdceaa
open Go.RowKit Go.Shelf
set_option linter.unusedSimpArgs false
set_option linter.unusedVariables false

theorem mif_sh {b : Bool} {W H P X Y Z : Int} {xs ys : List Int} {w : World} {e : Ending} {w' : World} (h : MadeIf b W H P xs w e w') (hx : cond b W 0 = X) (hy : cond b H 0 = Y) (hz : cond b P 0 = Z) (hl : cond b xs [] = ys) : ShI X Y Z ys w e w' := by
  subst hx hy hz hl; exact ShI.of h
theorem iM_mir (W H P : Int) (xs : List Int) (hx : xs.length ≤ 2000) : ImC0 16 W H P xs (cond (vim W H P xs) W 0) (cond (vim W H P xs) H 0) (cond (vim W H P xs) P 0) (cond (vim W H P xs) (mirL W.toNat H.toNat P.toNat xs) []) :=
  fun A c w hr hc => (i_MirrorImage W H P A c xs w hr (by omega) hc).mono fun _ _ h => mif_sh h rfl rfl rfl rfl
theorem sM_mir (W H P : Int) (xs : List Int) (hx : xs.length ≤ 2000) : ImC0 18 W H P xs (cond (vim W H P xs) W 0) (cond (vim W H P xs) H 0) (cond (vim W H P xs) P 0) (cond (vim W H P xs) (mirL W.toNat H.toNat P.toNat xs) []) :=
  fun A c w hr hc => (s_MirrorImage W H P A c xs w hr (by omega) hc).mono fun _ _ h => mif_sh h rfl rfl rfl rfl
theorem iR_trn (W H P : Int) (xs : List Int) (hx : xs.length ≤ 2000) : ImC0 25 W H P xs (cond (vim W H P xs) H 0) (cond (vim W H P xs) W 0) (cond (vim W H P xs) P 0) (cond (vim W H P xs) (trnL W.toNat H.toNat P.toNat xs) []) :=
  fun A c w hr hc => (i_TransposeImage W H P A c xs w hr (by omega) hc).mono fun _ _ h => mif_sh h rfl rfl rfl rfl
theorem sR_trn (W H P : Int) (xs : List Int) (hx : xs.length ≤ 2000) : ImC0 26 W H P xs (cond (vim W H P xs) H 0) (cond (vim W H P xs) W 0) (cond (vim W H P xs) P 0) (cond (vim W H P xs) (trnL W.toNat H.toNat P.toNat xs) []) :=
  fun A c w hr hc => (s_TransposeImage W H P A c xs w hr (by omega) hc).mono fun _ _ h => mif_sh h rfl rfl rfl rfl
theorem iT_tur (W H P k : Int) (xs : List Int) (hx : xs.length ≤ 2000) : ImC1 22 k W H P xs (cond (vim W H P xs && inQ k) (tdim W.toNat H.toNat k.toNat).1 0) (cond (vim W H P xs && inQ k) (tdim W.toNat H.toNat k.toNat).2 0) (cond (vim W H P xs && inQ k) P 0) (cond (vim W H P xs && inQ k) (turL W.toNat H.toNat P.toNat xs k.toNat) []) :=
  fun A c w hr hc => (by first | exact i_TurnImage W H P k A c xs w hr (by omega) hc | exact s_TurnImage W H P k A c xs w hr (by omega) hc : Calls _ _ _ _ _).mono fun _ _ h => mif_sh h rfl rfl rfl rfl
theorem sT_tur (W H P k : Int) (xs : List Int) (hx : xs.length ≤ 2000) : ImC1 23 k W H P xs (cond (vim W H P xs && inQ k) (tdim W.toNat H.toNat k.toNat).1 0) (cond (vim W H P xs && inQ k) (tdim W.toNat H.toNat k.toNat).2 0) (cond (vim W H P xs && inQ k) P 0) (cond (vim W H P xs && inQ k) (turL W.toNat H.toNat P.toNat xs k.toNat) []) :=
  fun A c w hr hc => (by first | exact i_TurnImage W H P k A c xs w hr (by omega) hc | exact s_TurnImage W H P k A c xs w hr (by omega) hc : Calls _ _ _ _ _).mono fun _ _ h => mif_sh h rfl rfl rfl rfl
theorem i_px (W H P x y : Int) (xs : List Int) (hx : xs.length ≤ 2000) : PxC 20 W H P xs x y (pxv W H P xs x y) :=
  fun A c w hr hc => i_PixelAt W H P A c xs x y w hr (by omega) hc
theorem s_px (W H P x y : Int) (xs : List Int) (hx : xs.length ≤ 2000) : PxC 31 W H P xs x y (pxv W H P xs x y) :=
  fun A c w hr hc => (s_PixelAt W H P A c xs x y w hr (by omega) hc).mono fun _ _ h => Shows.of_made h
theorem pxv_bd (W H P : Int) (xs : List Int) (x y : Int) (h : vim W H P xs = true) : (pxv W H P xs x y).length ≤ 4 := by
  obtain ⟨w, h', p, rfl, rfl, rfl, _, _, _, _, _, hp, _, _⟩ := vim_nat h
  unfold pxv
  cases (vim _ _ _ xs && onIm _ _ x y)
  · simp
  · simp [pxl_len]; omega
/-- A place's numbers are those of an image. -/
def okI (W H P : Nat) (F : Nat → Nat → Nat → Int) : Prop := (1 ≤ W ∧ W ≤ 16) ∧ (1 ≤ H ∧ H ≤ 16) ∧ (1 ≤ P ∧ P ≤ 4) ∧ ∀ x y p, x < W → y < H → p < P → 0 ≤ F x y p ∧ F x y p ≤ 255
section
variable {W H P : Nat} {F : Nat → Nat → Nat → Int}
theorem okI.vim (h : okI W H P F) : vim W H P (img W H P F) = true := vim_img h.1.1 h.1.2 h.2.1.1 h.2.1.2 h.2.2.1.1 h.2.2.1.2 h.2.2.2
theorem okI.bd (h : okI W H P F) : (img W H P F).length ≤ 1024 := img_bd F h.1.2 h.2.1.2 h.2.2.1.2
theorem okI.mir (h : okI W H P F) : okI W H P (fun x y => F (W - 1 - x) y) := ⟨h.1, h.2.1, h.2.2.1, fun x y p hx hy hp => h.2.2.2 _ _ _ (by omega) hy hp⟩
theorem okI.trn (h : okI W H P F) : okI H W P (fun x y => F y x) := ⟨h.2.1, h.1, h.2.2.1, fun x y p hx hy hp => h.2.2.2 _ _ _ hy hx hp⟩
theorem okI.tur (h : okI W H P F) (k : Nat) : okI (tdim W H k).1 (tdim W H k).2 P (tfun W H F k) := by
  induction k with
  | zero => exact h
  | succ k ih => exact ⟨ih.2.1, ih.1, ih.2.2.1, fun x y p hx hy hp => ih.2.2.2 _ _ _ hy (by have : x < (tdim W H k).2 := hx; omega) hp⟩
theorem tfun_congr {F G : Nat → Nat → Nat → Int} (h : ∀ x y p, x < W → y < H → p < P → F x y p = G x y p) (k : Nat) : ∀ x y p, x < (tdim W H k).1 → y < (tdim W H k).2 → p < P → tfun W H F k x y p = tfun W H G k x y p := by
  induction k with
  | zero => exact h
  | succ k ih => intro x y p hx hy hp; exact ih _ _ _ hy (by have : x < (tdim W H k).2 := hx; omega) hp
theorem tur_img (k : Nat) : turL W H P (img W H P F) k = img (tdim W H k).1 (tdim W H k).2 P (tfun W H F k) :=
  img_ext (tfun_congr (fun x y p hx hy hp => img_pxc2 F hx hy hp) k)
/-- A valid image is one of a function. -/
theorem vim_ok {W H P : Int} {xs : List Int} (h : Go.Proofs.Ytpgicdnbdjdceaa.vim W H P xs = true) : ∃ (w h p : Nat) (F : Nat → Nat → Nat → Int), W = w ∧ H = h ∧ P = p ∧ xs = img w h p F ∧ okI w h p F := by
  obtain ⟨W, H, P, rfl, rfl, rfl, hW1, hW, hH1, hH, hP1, hP, hln, hby⟩ := vim_nat h
  exact ⟨W, H, P, pxc W P xs, rfl, rfl, rfl, (img_self hln).symm, ⟨hW1, hW⟩, ⟨hH1, hH⟩, ⟨hP1, hP⟩, pxc_bytes hln hby⟩
theorem iM_I (h : okI W H P F) : ImC0 16 W H P (img W H P F) W H P (img W H P (fun x y => F (W - 1 - x) y)) := by
  have hc := iM_mir W H P (img W H P F) (by have := h.bd; omega)
  rw [h.vim] at hc
  have hc' : ImC0 16 W H P (img W H P F) W H P (mirL W H P (img W H P F)) := hc
  rwa [mir_img] at hc'
theorem sM_I (h : okI W H P F) : ImC0 18 W H P (img W H P F) W H P (img W H P (fun x y => F (W - 1 - x) y)) := by
  have hc := sM_mir W H P (img W H P F) (by have := h.bd; omega)
  rw [h.vim] at hc
  have hc' : ImC0 18 W H P (img W H P F) W H P (mirL W H P (img W H P F)) := hc
  rwa [mir_img] at hc'
theorem iR_I (h : okI W H P F) : ImC0 25 W H P (img W H P F) H W P (img H W P (fun x y => F y x)) := by
  have hc := iR_trn W H P (img W H P F) (by have := h.bd; omega)
  rw [h.vim] at hc
  have hc' : ImC0 25 W H P (img W H P F) H W P (trnL W H P (img W H P F)) := hc
  rwa [trn_img] at hc'
theorem sR_I (h : okI W H P F) : ImC0 26 W H P (img W H P F) H W P (img H W P (fun x y => F y x)) := by
  have hc := sR_trn W H P (img W H P F) (by have := h.bd; omega)
  rw [h.vim] at hc
  have hc' : ImC0 26 W H P (img W H P F) H W P (trnL W H P (img W H P F)) := hc
  rwa [trn_img] at hc'
theorem iT_I (h : okI W H P F) (k : Nat) (hk : k ≤ 3) : ImC1 22 k W H P (img W H P F) (tdim W H k).1 (tdim W H k).2 P (img (tdim W H k).1 (tdim W H k).2 P (tfun W H F k)) := by
  have hc := iT_tur W H P k (img W H P F) (by have := h.bd; omega)
  have hq : inQ (k : Int) = true := decide_eq_true (by omega)
  rw [h.vim, hq] at hc
  have hc' : ImC1 22 k W H P (img W H P F) (tdim W H k).1 (tdim W H k).2 P (turL W H P (img W H P F) k) := hc
  rwa [tur_img] at hc'
theorem sT_I (h : okI W H P F) (k : Nat) (hk : k ≤ 3) : ImC1 23 k W H P (img W H P F) (tdim W H k).1 (tdim W H k).2 P (img (tdim W H k).1 (tdim W H k).2 P (tfun W H F k)) := by
  have hc := sT_tur W H P k (img W H P F) (by have := h.bd; omega)
  have hq : inQ (k : Int) = true := decide_eq_true (by omega)
  rw [h.vim, hq] at hc
  have hc' : ImC1 23 k W H P (img W H P F) (tdim W H k).1 (tdim W H k).2 P (turL W H P (img W H P F) k) := hc
  rwa [tur_img] at hc'
theorem iP_I (h : okI W H P F) (a b : Nat) (ha : a < W) (hb : b < H) : PxC 20 W H P (img W H P F) a b ((List.range P).map (F a b)) := by
  have hc := i_px W H P a b (img W H P F) (by have := h.bd; omega)
  rwa [pxv_img h.vim ha hb] at hc
theorem F3 (F : Nat → Nat → Nat → Int) {a b c d p : Nat} (h1 : a = c) (h2 : b = d) : F a b p = F c d p := by rw [h1, h2]
theorem F2 (F : Nat → Nat → Nat → Int) {a b c d : Nat} (h1 : a = c) (h2 : b = d) : F a b = F c d := by rw [h1, h2]
theorem tdim0 : tdim W H 0 = (W, H) := rfl
theorem tdim1 : tdim W H 1 = (H, W) := rfl
theorem tdim2 : tdim W H 2 = (W, H) := rfl
theorem tdim3 : tdim W H 3 = (H, W) := rfl
theorem tfun0 : tfun W H F 0 = F := rfl
theorem tfun1 : tfun W H F 1 = fun x y => F y (H - 1 - x) := rfl
theorem tfun2 : tfun W H F 2 = fun x y => F (W - 1 - x) (H - 1 - y) := rfl
theorem tfun3 : tfun W H F 3 = fun x y => F (W - 1 - y) (H - 1 - (H - 1 - x)) := rfl
end
theorem trn_law (W H P : Int) (xs : List Int) (hx : xs.length ≤ 256) : ∃ (X Y Z : Int) (ys : List Int), ys.length ≤ 2000 ∧ Hid (ImC0 25 W H P xs X Y Z ys) ∧ Hid (ImC0 26 W H P xs X Y Z ys) ∧
    (X = 0 ∨ (X ≠ 0 ∧ Hid (ImC0 25 X Y Z ys W H P xs) ∧ ∃ (X2 Y2 Z2 : Int) (zs : List Int), zs.length ≤ 2000 ∧ Hid (ImC1 22 1 W H P xs X2 Y2 Z2 zs) ∧ Hid (ImC0 16 X2 Y2 Z2 zs X Y Z ys))) := by
  cases hv : vim W H P xs
  · have h1 := iR_trn W H P xs (by omega)
    have h2 := sR_trn W H P xs (by omega)
    rw [hv] at h1 h2
    exact ⟨_, _, _, _, by simp, Lib.hid h1, Lib.hid h2, .inl rfl⟩
  · obtain ⟨W, H, P, F, rfl, rfl, rfl, rfl, ok⟩ := vim_ok hv
    refine ⟨_, _, _, _, by have := ok.trn.bd; omega, Lib.hid (iR_I ok), Lib.hid (sR_I ok), .inr ⟨by have := ok.2.1.1; omega, Lib.hid (iR_I ok.trn), _, _, _, _, ?_, Lib.hid (iT_I ok 1 (by omega)), Lib.hid ?_⟩⟩
    · have := (ok.tur 1).bd; omega
    · have h := iM_I (ok.tur 1)
      rw [tfun1] at h ⊢
      have e : img (tdim W H 1).1 (tdim W H 1).2 P (fun x y => (fun x y => F y (H - 1 - x)) ((tdim W H 1).1 - 1 - x) y) = img H W P (fun x y => F y x) :=
        img_ext fun x y p hx hy hp => by rw [tdim1] at hx; simp only [tdim1] at hx ⊢; exact F3 F rfl (by omega)
      rw [e] at h
      exact h
theorem tur_law (W H P k : Int) (xs : List Int) (hx : xs.length ≤ 256) : ∃ (X Y Z : Int) (ys : List Int), ys.length ≤ 2000 ∧ Hid (ImC1 22 k W H P xs X Y Z ys) ∧ Hid (ImC1 23 k W H P xs X Y Z ys) ∧
    (X = 0 ∨ (X ≠ 0 ∧ 0 ≤ k ∧ k ≤ 3 ∧ Hid (ImC1 22 ((4 - k) % 4) X Y Z ys W H P xs) ∧ ∃ (X2 Y2 Z2 : Int) (zs : List Int), zs.length ≤ 2000 ∧ Hid (ImC1 22 1 X Y Z ys X2 Y2 Z2 zs) ∧ Hid (ImC1 22 ((k + 1) % 4) W H P xs X2 Y2 Z2 zs))) := by
  cases hv : vim W H P xs && inQ k
  · have h1 := iT_tur W H P k xs (by omega)
    have h2 := sT_tur W H P k xs (by omega)
    rw [hv] at h1 h2
    exact ⟨_, _, _, _, by simp, Lib.hid h1, Lib.hid h2, .inl rfl⟩
  · rw [Bool.and_eq_true] at hv
    have hq : 0 ≤ k ∧ k ≤ 3 := of_decide_eq_true hv.2
    obtain ⟨W, H, P, F, rfl, rfl, rfl, rfl, ok⟩ := vim_ok hv.1
    obtain ⟨K, rfl⟩ := Int.eq_ofNat_of_zero_le hq.1
    have hK : K ≤ 3 := by omega
    refine ⟨_, _, _, _, by have := (ok.tur K).bd; omega, Lib.hid (iT_I ok K hK), Lib.hid (sT_I ok K hK), .inr ⟨by have := (ok.tur K).1.1; omega, hq.1, hq.2, Lib.hid ?_, _, _, _, _, ?_, Lib.hid (iT_I (ok.tur K) 1 (by omega)), Lib.hid ?_⟩⟩
    · have hk4 : K = 0 ∨ K = 1 ∨ K = 2 ∨ K = 3 := by omega
      rcases hk4 with rfl | rfl | rfl | rfl
      · exact iT_I ok 0 (by omega)
      · have h := iT_I (ok.tur 1) 3 (by omega)
        have e : img (tdim (tdim W H 1).1 (tdim W H 1).2 3).1 (tdim (tdim W H 1).1 (tdim W H 1).2 3).2 P (tfun (tdim W H 1).1 (tdim W H 1).2 (tfun W H F 1) 3) = img W H P F :=
          img_ext fun x y p hx hy hp => by simp only [tdim1, tdim3] at hx hy; simp only [tdim1, tfun1, tfun3]; exact F3 F (by omega) (by omega)
        rw [e] at h
        exact h
      · have h := iT_I (ok.tur 2) 2 (by omega)
        have e : img (tdim (tdim W H 2).1 (tdim W H 2).2 2).1 (tdim (tdim W H 2).1 (tdim W H 2).2 2).2 P (tfun (tdim W H 2).1 (tdim W H 2).2 (tfun W H F 2) 2) = img W H P F :=
          img_ext fun x y p hx hy hp => by simp only [tdim2] at hx hy; simp only [tdim2, tfun2]; exact F3 F (by omega) (by omega)
        rw [e] at h
        exact h
      · have h := iT_I (ok.tur 3) 1 (by omega)
        have e : img (tdim (tdim W H 3).1 (tdim W H 3).2 1).1 (tdim (tdim W H 3).1 (tdim W H 3).2 1).2 P (tfun (tdim W H 3).1 (tdim W H 3).2 (tfun W H F 3) 1) = img W H P F :=
          img_ext fun x y p hx hy hp => by simp only [tdim1, tdim3] at hx hy; simp only [tdim3, tfun1, tfun3]; exact F3 F (by omega) (by omega)
        rw [e] at h
        exact h
    · have := ((ok.tur K).tur 1).bd; omega
    · have hk4 : K = 0 ∨ K = 1 ∨ K = 2 ∨ K = 3 := by omega
      rcases hk4 with rfl | rfl | rfl | rfl
      · exact iT_I ok 1 (by omega)
      · exact iT_I ok 2 (by omega)
      · exact iT_I ok 3 (by omega)
      · have h := iT_I ok 0 (by omega)
        have e : img (tdim (tdim W H 3).1 (tdim W H 3).2 1).1 (tdim (tdim W H 3).1 (tdim W H 3).2 1).2 P (tfun (tdim W H 3).1 (tdim W H 3).2 (tfun W H F 3) 1) = img W H P F :=
          img_ext fun x y p hx hy hp => by simp only [tdim1, tdim3] at hx hy; simp only [tdim3, tfun1, tfun3]; exact F3 F (by omega) (by omega)
        rw [e]
        exact h
theorem tum_law (W H P k : Int) (xs : List Int) (hx : xs.length ≤ 256) : ∃ (X Y Z : Int) (ys : List Int), ys.length ≤ 2000 ∧ Hid (ImC1 22 k W H P xs X Y Z ys) ∧ Hid (ImC1 23 k W H P xs X Y Z ys) ∧
    (X = 0 ∨ (X ≠ 0 ∧ ∃ (X1 Y1 Z1 X2 Y2 Z2 X3 Y3 Z3 : Int) (al bl cl : List Int), al.length ≤ 2000 ∧ bl.length ≤ 2000 ∧ cl.length ≤ 2000 ∧ Hid (ImC0 16 W H P xs X1 Y1 Z1 al) ∧ Hid (ImC1 22 k X1 Y1 Z1 al X2 Y2 Z2 bl) ∧ Hid (ImC0 16 X2 Y2 Z2 bl X3 Y3 Z3 cl) ∧ Hid (ImC1 22 k X3 Y3 Z3 cl W H P xs))) := by
  cases hv : vim W H P xs && inQ k
  · have h1 := iT_tur W H P k xs (by omega)
    have h2 := sT_tur W H P k xs (by omega)
    rw [hv] at h1 h2
    exact ⟨_, _, _, _, by simp, Lib.hid h1, Lib.hid h2, .inl rfl⟩
  · rw [Bool.and_eq_true] at hv
    have hq : 0 ≤ k ∧ k ≤ 3 := of_decide_eq_true hv.2
    obtain ⟨W, H, P, F, rfl, rfl, rfl, rfl, ok⟩ := vim_ok hv.1
    obtain ⟨K, rfl⟩ := Int.eq_ofNat_of_zero_le hq.1
    have hK : K ≤ 3 := by omega
    have o1 := ok.mir
    have o2 := o1.tur K
    have o3 := o2.mir
    refine ⟨_, _, _, _, by have := (ok.tur K).bd; omega, Lib.hid (iT_I ok K hK), Lib.hid (sT_I ok K hK), .inr ⟨by have := (ok.tur K).1.1; omega, _, _, _, _, _, _, _, _, _, _, _, _, by have := o1.bd; omega, by have := o2.bd; omega, by have := o3.bd; omega, Lib.hid (iM_I ok), Lib.hid (iT_I o1 K hK), Lib.hid (iM_I o2), Lib.hid ?_⟩⟩
    have h := iT_I o3 K hK
    have hk4 : K = 0 ∨ K = 1 ∨ K = 2 ∨ K = 3 := by omega
    have e : img (tdim (tdim W H K).1 (tdim W H K).2 K).1 (tdim (tdim W H K).1 (tdim W H K).2 K).2 P (tfun (tdim W H K).1 (tdim W H K).2 (fun x y => tfun W H (fun x y => F (W - 1 - x) y) K ((tdim W H K).1 - 1 - x) y) K) = img W H P F := by
      rcases hk4 with rfl | rfl | rfl | rfl
      · exact img_ext fun x y p hx hy hp => by simp only [tdim0] at hx hy; simp only [tdim0, tfun0]; exact F3 F (by omega) (by omega)
      · exact img_ext fun x y p hx hy hp => by simp only [tdim1] at hx hy; simp only [tdim1, tfun1]; exact F3 F (by omega) (by omega)
      · exact img_ext fun x y p hx hy hp => by simp only [tdim2] at hx hy; simp only [tdim2, tfun2]; exact F3 F (by omega) (by omega)
      · exact img_ext fun x y p hx hy hp => by simp only [tdim3] at hx hy; simp only [tdim3, tfun3]; exact F3 F (by omega) (by omega)
    have ed : (tdim (tdim W H K).1 (tdim W H K).2 K).1 = W ∧ (tdim (tdim W H K).1 (tdim W H K).2 K).2 = H := by
      rcases hk4 with rfl | rfl | rfl | rfl <;> exact ⟨rfl, rfl⟩
    rw [e, ed.1, ed.2] at h
    exact h
theorem mpx_law (W H P x y : Int) (xs : List Int) (hx : xs.length ≤ 256) : ∃ q : List Int, q.length ≤ 4 ∧ Hid (PxC 20 W H P xs x y q) ∧ Hid (PxC 31 W H P xs x y q) ∧
    (q.length = 0 ∨ (0 < q.length ∧ 1 ≤ W ∧ W ≤ 16 ∧ 0 ≤ x ∧ x < W ∧ ∃ (X1 Y1 Z1 X2 Y2 Z2 : Int) (al bl : List Int), al.length ≤ 2000 ∧ bl.length ≤ 2000 ∧ Hid (ImC0 16 W H P xs X1 Y1 Z1 al) ∧ Hid (PxC 20 X1 Y1 Z1 al (W - 1 - x) y q) ∧ Hid (ImC0 25 W H P xs X2 Y2 Z2 bl) ∧ Hid (PxC 20 X2 Y2 Z2 bl y x q))) := by
  cases hv : vim W H P xs && onIm W H x y
  · have h1 := i_px W H P x y xs (by omega)
    have h2 := s_px W H P x y xs (by omega)
    have e : pxv W H P xs x y = [] := by unfold pxv; rw [hv]; rfl
    rw [e] at h1 h2
    exact ⟨_, by simp, Lib.hid h1, Lib.hid h2, .inl rfl⟩
  · rw [Bool.and_eq_true] at hv
    obtain ⟨W, H, P, F, rfl, rfl, rfl, rfl, ok⟩ := vim_ok hv.1
    obtain ⟨a, b, rfl, rfl, ha, hb⟩ := on_nat hv.2
    have h2 := s_px W H P a b (img W H P F) (by have := ok.bd; omega)
    rw [pxv_img ok.vim ha hb] at h2
    refine ⟨_, by simp; exact ok.2.2.1.2, Lib.hid (iP_I ok a b ha hb), Lib.hid h2, .inr ⟨by simp; exact ok.2.2.1.1, by have := ok.1.1; omega, by have := ok.1.2; omega, by omega, by omega, _, _, _, _, _, _, _, _, by have := ok.mir.bd; omega, by have := ok.trn.bd; omega, Lib.hid (iM_I ok), Lib.hid ?_, Lib.hid (iR_I ok), Lib.hid (iP_I ok.trn b a hb ha)⟩⟩
    have h := iP_I ok.mir (W - 1 - a) b (by omega) hb
    have e : (W : Int) - 1 - (a : Int) = ((W - 1 - a : Nat) : Int) := by omega
    have e2 : W - 1 - (W - 1 - a) = a := by omega
    rw [e]
    simp only [e2] at h
    exact h
theorem lEqInts_at (A A' : Option Addr) (c c' n n' : Nat) (q : List Int) (w : World) (hn : n = q.length) (hn' : n' = q.length) (hx : Rds .i64 w w.heap.size A q) (hy : Rds .i64 w w.heap.size A' q) (hl : q.length ≤ 2000000) :
    Calls Try.prog 19 #[.slice A n c, .slice A' n' c'] w fun e w' => e = .returned (.bool true) ∧ Below w.heap.size w w' := by
  subst hn hn'
  exact lEqInts_same A A' c c' q w hx hy hl
theorem rds_part2 {w : World} {B b off : Nat} {xs q : List Int} (hb : b < B) (hc : ∀ j, j < xs.length → w.cell? ⟨b, off + j, none⟩ = some (.int .i64 (xs.getD j 0))) {n p : Nat} (h : n + p ≤ xs.length) (hq : q = (xs.drop n).take p) : Rds .i64 w B (some ⟨b, off + n, none⟩) q := by
  subst hq
  refine .inr ⟨b, off + n, rfl, hb, fun j hj => ?_⟩
  have hj' : j < p := by simp at hj; omega
  rw [Nat.add_assoc, hc _ (by omega)]
  simp [hj']
theorem pxl_law (W H P x y : Int) (xs : List Int) (hx : xs.length ≤ 256) : ∃ q : List Int, q.length ≤ 4 ∧ Hid (PxC 20 W H P xs x y q) ∧ Hid (PxC 31 W H P xs x y q) ∧
    (q.length = 0 ∨ (0 < q.length ∧ ∃ (w p a b : Nat), W = w ∧ P = p ∧ x = a ∧ y = b ∧ w ≤ 16 ∧ p ≤ 4 ∧ a < w ∧ b < 16 ∧ (b * w + a) * p + p ≤ xs.length ∧ q.length = p ∧ Hid (q = (xs.drop ((b * w + a) * p)).take p))) := by
  cases hv : vim W H P xs && onIm W H x y
  · have h1 := i_px W H P x y xs (by omega)
    have h2 := s_px W H P x y xs (by omega)
    have e : pxv W H P xs x y = [] := by unfold pxv; rw [hv]; rfl
    rw [e] at h1 h2
    exact ⟨_, by simp, Lib.hid h1, Lib.hid h2, .inl rfl⟩
  · have h1 := i_px W H P x y xs (by omega)
    have h2 := s_px W H P x y xs (by omega)
    have e : pxv W H P xs x y = pxl W.toNat P.toNat xs x.toNat y.toNat := by unfold pxv; rw [hv]; rfl
    rw [e] at h1 h2
    rw [Bool.and_eq_true] at hv
    obtain ⟨W, H, P, rfl, rfl, rfl, hW1, hW, hH1, hH, hP1, hP, hln, hby⟩ := vim_nat hv.1
    obtain ⟨a, b, rfl, rfl, ha, hb⟩ := on_nat hv.2
    have hs := pxl_slice hln ha hb
    refine ⟨_, ?_, Lib.hid h1, Lib.hid h2, .inr ⟨?_, W, P, a, b, rfl, rfl, rfl, rfl, hW, hP, ha, by omega, hs, ?_, Lib.hid ?_⟩⟩
    · show (pxl W P xs a b).length ≤ 4
      rw [pxl_len]; exact hP
    · show 0 < (pxl W P xs a b).length
      rw [pxl_len]; exact hP1
    · show (pxl W P xs a b).length = P
      exact pxl_len _ _ _ _ _
    · show pxl W P xs a b = _
      have := pxl_take W P xs a b (by unfold pix; rw [← Nat.add_zero ((b * W + a) * P + P)]; exact hs)
      rw [← this]; rfl
theorem mir_law (W H P : Int) (xs : List Int) (hx : xs.length ≤ 256) : ∃ (X Y Z : Int) (ys : List Int), ys.length ≤ 2000 ∧ Hid (ImC0 16 W H P xs X Y Z ys) ∧ Hid (ImC0 18 W H P xs X Y Z ys) ∧
    (X = 0 ∨ (X ≠ 0 ∧ 1 ≤ W ∧ W ≤ 16 ∧ Hid (ImC0 16 X Y Z ys W H P xs) ∧ ∃ q : List Int, q.length ≤ 2000 ∧ Hid (PxC 20 X Y Z ys (W - 1) 0 q) ∧ Hid (PxC 20 W H P xs 0 0 q))) := by
  refine ⟨_, _, _, _, ?_, Lib.hid (iM_mir W H P xs (by omega)), Lib.hid (sM_mir W H P xs (by omega)), ?_⟩
  · cases hv : vim W H P xs
    · simp
    · obtain ⟨W, H, P, rfl, rfl, rfl, _, hW, _, hH, _, hP, _⟩ := vim_nat hv
      have := img_bd (fun x y => pxc W P xs (W - 1 - x) y) hW hH hP
      show (mirL W H P xs).length ≤ 2000
      unfold mirL; omega
  · cases hv : vim W H P xs
    · left; rfl
    · right
      obtain ⟨W, H, P, rfl, rfl, rfl, hW1, hW, hH1, hH, hP1, hP, hln, hby⟩ := vim_nat hv
      have hF := pxc_bytes hln hby
      have hS := img_self hln
      obtain ⟨F, hFe⟩ : ∃ F, F = pxc W P xs := ⟨_, rfl⟩
      rw [← hFe] at hF hS
      subst hS
      show (W : Int) ≠ 0 ∧ _ ∧ _ ∧ Hid (ImC0 _ (W : Int) (H : Int) (P : Int) (mirL W H P (img W H P F)) _ _ _ _) ∧ ∃ q : List Int, _ ∧ Hid (PxC _ (W : Int) (H : Int) (P : Int) (mirL W H P (img W H P F)) _ _ q) ∧ _
      rw [mir_img]
      have hG : ∀ x y p, x < W → y < H → p < P → 0 ≤ (fun x y => F (W - 1 - x) y) x y p ∧ (fun x y => F (W - 1 - x) y) x y p ≤ 255 := fun x y p hx hy hp => hF _ _ _ (by omega) hy hp
      have hv2 := vim_img hW1 hW hH1 hH hP1 hP hG
      refine ⟨by omega, by omega, by omega, Lib.hid ?_, (List.range P).map (F 0 0), by simp; omega, Lib.hid ?_, Lib.hid ?_⟩
      · have h := iM_mir W H P (img W H P (fun x y => F (W - 1 - x) y)) (by have := img_bd (fun x y => F (W - 1 - x) y) hW hH hP; omega)
        rw [hv2] at h
        have e : mirL W H P (img W H P (fun x y => F (W - 1 - x) y)) = img W H P F := by
          rw [mir_img]
          exact img_ext fun x y p hx hy hp => by show F _ _ _ = _; rw [show W - 1 - (W - 1 - x) = x by omega]
        show ImC0 _ (W : Int) (H : Int) (P : Int) _ (W : Int) (H : Int) (P : Int) _
        have h' : ImC0 16 W H P (img W H P (fun x y => F (W - 1 - x) y)) W H P (mirL W H P (img W H P (fun x y => F (W - 1 - x) y))) := h
        rwa [e] at h'
      · have h := i_px W H P ((W : Int) - 1) 0 (img W H P (fun x y => F (W - 1 - x) y)) (by have := img_bd (fun x y => F (W - 1 - x) y) hW hH hP; omega)
        have e : (W : Int) - 1 = ((W - 1 : Nat) : Int) := by omega
        rw [e] at h ⊢
        have e2 := pxv_img (a := W - 1) (b := 0) hv2 (by omega) (by omega)
        rw [show ((0 : Nat) : Int) = 0 from rfl] at e2
        rw [e2] at h
        simp only [Nat.sub_self] at h
        exact h
      · have h := i_px W H P 0 0 (img W H P F) (by have := img_bd F hW hH hP; omega)
        have e2 := pxv_img (a := 0) (b := 0) hv (by omega) (by omega)
        rw [show ((0 : Nat) : Int) = 0 from rfl] at e2
        rw [e2] at h
        exact h
end Go.Proofs.Ytpgicdnbdjdceaa
