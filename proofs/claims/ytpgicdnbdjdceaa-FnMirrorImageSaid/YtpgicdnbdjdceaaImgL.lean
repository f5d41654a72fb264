/- Facts of mirrors, turns and transposes that the laws need: contracts as hypotheses, and what comes back. -/
import Derived.Test.YtpgicdnbdjdceaaLSt
import Derived.Test.YtpgicdnbdjdceaaTurnI
import Derived.Test.YtpgicdnbdjdceaaSpecT
namespace Go.Proofs.Ytpgicdnbdjdceaa
open Go.RowKit Go.Shelf
set_option linter.unusedSimpArgs false
set_option linter.unusedVariables false

theorem mif_sh {b : Bool} {W H P X Y Z : Int} {xs ys : List Int} {w : World} {e : Ending} {w' : World} (h : MadeIf b W H P xs w e w') (hx : cond b W 0 = X) (hy : cond b H 0 = Y) (hz : cond b P 0 = Z) (hl : cond b xs [] = ys) : ShI X Y Z ys w e w' := by
  subst hx hy hz hl; exact ShI.of h
theorem i_mir (W H P : Int) (xs : List Int) (hx : xs.length ≤ 2000) : ImC0 16 W H P xs (cond (vim W H P xs) W 0) (cond (vim W H P xs) H 0) (cond (vim W H P xs) P 0) (cond (vim W H P xs) (mirL W.toNat H.toNat P.toNat xs) []) :=
  fun A c w hr hc => (i_MirrorImage W H P A c xs w hr (by omega) hc).mono fun _ _ h => mif_sh h rfl rfl rfl rfl
theorem s_mir (W H P : Int) (xs : List Int) (hx : xs.length ≤ 2000) : ImC0 18 W H P xs (cond (vim W H P xs) W 0) (cond (vim W H P xs) H 0) (cond (vim W H P xs) P 0) (cond (vim W H P xs) (mirL W.toNat H.toNat P.toNat xs) []) :=
  fun A c w hr hc => (s_MirrorImage W H P A c xs w hr (by omega) hc).mono fun _ _ h => mif_sh h rfl rfl rfl rfl
theorem i_trn (W H P : Int) (xs : List Int) (hx : xs.length ≤ 2000) : ImC0 25 W H P xs (cond (vim W H P xs) H 0) (cond (vim W H P xs) W 0) (cond (vim W H P xs) P 0) (cond (vim W H P xs) (trnL W.toNat H.toNat P.toNat xs) []) :=
  fun A c w hr hc => (i_TransposeImage W H P A c xs w hr (by omega) hc).mono fun _ _ h => mif_sh h rfl rfl rfl rfl
theorem s_trn (W H P : Int) (xs : List Int) (hx : xs.length ≤ 2000) : ImC0 26 W H P xs (cond (vim W H P xs) H 0) (cond (vim W H P xs) W 0) (cond (vim W H P xs) P 0) (cond (vim W H P xs) (trnL W.toNat H.toNat P.toNat xs) []) :=
  fun A c w hr hc => (s_TransposeImage W H P A c xs w hr (by omega) hc).mono fun _ _ h => mif_sh h rfl rfl rfl rfl
theorem iT_tur (W H P k : Int) (xs : List Int) (hx : xs.length ≤ 2000) : ImC1 22 k W H P xs (cond (vim W H P xs && inQ k) (tdim W.toNat H.toNat k.toNat).1 0) (cond (vim W H P xs && inQ k) (tdim W.toNat H.toNat k.toNat).2 0) (cond (vim W H P xs && inQ k) P 0) (cond (vim W H P xs && inQ k) (turL W.toNat H.toNat P.toNat xs k.toNat) []) :=
  fun A c w hr hc => (by first | exact i_TurnImage W H P k A c xs w hr (by omega) hc | exact s_TurnImage W H P k A c xs w hr (by omega) hc : Calls _ _ _ _ _).mono fun _ _ h => mif_sh h rfl rfl rfl rfl
theorem sT_tur (W H P k : Int) (xs : List Int) (hx : xs.length ≤ 2000) : ImC1 23 k W H P xs (cond (vim W H P xs && inQ k) (tdim W.toNat H.toNat k.toNat).1 0) (cond (vim W H P xs && inQ k) (tdim W.toNat H.toNat k.toNat).2 0) (cond (vim W H P xs && inQ k) P 0) (cond (vim W H P xs && inQ k) (turL W.toNat H.toNat P.toNat xs k.toNat) []) :=
  fun A c w hr hc => (by first | exact i_TurnImage W H P k A c xs w hr (by omega) hc | exact s_TurnImage W H P k A c xs w hr (by omega) hc : Calls _ _ _ _ _).mono fun _ _ h => mif_sh h rfl rfl rfl rfl
theorem i_px (W H P x y : Int) (xs : List Int) (hx : xs.length ≤ 2000) : PxC 20 W H P xs x y (pxv W H P xs x y) :=
  fun A c w hr hc => i_PixelAt W H P A c xs x y w hr (by omega) hc
theorem s_px (W H P x y : Int) (xs : List Int) (hx : xs.length ≤ 2000) : PxC 31 W H P xs x y (pxv W H P xs x y) :=
  fun A c w hr hc => (s_PixelAt W H P A c xs x y w hr (by omega) hc).mono fun _ _ h => Shows.of_made h
theorem pxv_bd (W H P : Int) (xs : List Int) (x y : Int) (h : vim W H P xs = true) : (pxv W H P xs x y).length ≤ 4 := by
  obtain ⟨w, h', p, rfl, rfl, rfl, _, _, _, _, _, hp, _, _⟩ := vim_nat h
  unfold pxv
  cases (vim _ _ _ xs && onIm _ _ x y)
  · simp
  · simp [pxl_len]; omega
theorem mir_law (W H P : Int) (xs : List Int) (hx : xs.length ≤ 256) : ∃ (X Y Z : Int) (ys : List Int), ys.length ≤ 2000 ∧ Hid (ImC0 16 W H P xs X Y Z ys) ∧ Hid (ImC0 18 W H P xs X Y Z ys) ∧
    (X = 0 ∨ (X ≠ 0 ∧ 1 ≤ W ∧ W ≤ 16 ∧ Hid (ImC0 16 X Y Z ys W H P xs) ∧ ∃ q : List Int, q.length ≤ 2000 ∧ Hid (PxC 20 X Y Z ys (W - 1) 0 q) ∧ Hid (PxC 20 W H P xs 0 0 q))) := by
  refine ⟨_, _, _, _, ?_, Lib.hid (i_mir W H P xs (by omega)), Lib.hid (s_mir W H P xs (by omega)), ?_⟩
  · cases hv : vim W H P xs
    · simp
    · obtain ⟨W, H, P, rfl, rfl, rfl, _, hW, _, hH, _, hP, _⟩ := vim_nat hv
      have := img_bd (fun x y => pxc W P xs (W - 1 - x) y) hW hH hP
      show (mirL W H P xs).length ≤ 2000
      unfold mirL; omega
  · cases hv : vim W H P xs
    · left; rfl
    · right
      obtain ⟨W, H, P, rfl, rfl, rfl, hW1, hW, hH1, hH, hP1, hP, hln, hby⟩ := vim_nat hv
      have hF := pxc_bytes hln hby
      have hS := img_self hln
      obtain ⟨F, hFe⟩ : ∃ F, F = pxc W P xs := ⟨_, rfl⟩
      rw [← hFe] at hF hS
      subst hS
      show (W : Int) ≠ 0 ∧ _ ∧ _ ∧ Hid (ImC0 _ (W : Int) (H : Int) (P : Int) (mirL W H P (img W H P F)) _ _ _ _) ∧ ∃ q : List Int, _ ∧ Hid (PxC _ (W : Int) (H : Int) (P : Int) (mirL W H P (img W H P F)) _ _ q) ∧ _
      rw [mir_img]
      have hG : ∀ x y p, x < W → y < H → p < P → 0 ≤ (fun x y => F (W - 1 - x) y) x y p ∧ (fun x y => F (W - 1 - x) y) x y p ≤ 255 := fun x y p hx hy hp => hF _ _ _ (by omega) hy hp
      have hv2 := vim_img hW1 hW hH1 hH hP1 hP hG
      refine ⟨by omega, by omega, by omega, Lib.hid ?_, (List.range P).map (F 0 0), by simp; omega, Lib.hid ?_, Lib.hid ?_⟩
      · have h := i_mir W H P (img W H P (fun x y => F (W - 1 - x) y)) (by have := img_bd (fun x y => F (W - 1 - x) y) hW hH hP; omega)
        rw [hv2] at h
        have e : mirL W H P (img W H P (fun x y => F (W - 1 - x) y)) = img W H P F := by
          rw [mir_img]
          exact img_ext fun x y p hx hy hp => by show F _ _ _ = _; rw [show W - 1 - (W - 1 - x) = x by omega]
        show ImC0 _ (W : Int) (H : Int) (P : Int) _ (W : Int) (H : Int) (P : Int) _
        have h' : ImC0 16 W H P (img W H P (fun x y => F (W - 1 - x) y)) W H P (mirL W H P (img W H P (fun x y => F (W - 1 - x) y))) := h
        rwa [e] at h'
      · have h := i_px W H P ((W : Int) - 1) 0 (img W H P (fun x y => F (W - 1 - x) y)) (by have := img_bd (fun x y => F (W - 1 - x) y) hW hH hP; omega)
        have e : (W : Int) - 1 = ((W - 1 : Nat) : Int) := by omega
        rw [e] at h ⊢
        have e2 := pxv_img (a := W - 1) (b := 0) hv2 (by omega) (by omega)
        rw [show ((0 : Nat) : Int) = 0 from rfl] at e2
        rw [e2] at h
        simp only [Nat.sub_self] at h
        exact h
      · have h := i_px W H P 0 0 (img W H P F) (by have := img_bd F hW hH hP; omega)
        have e2 := pxv_img (a := 0) (b := 0) hv (by omega) (by omega)
        rw [show ((0 : Nat) : Int) = 0 from rfl] at e2
        rw [e2] at h
        exact h
end Go.Proofs.Ytpgicdnbdjdceaa
