/- Facts of parts of images that the laws need. -/
import Derived.Test.YtfjcbdpepbcjcaaCropJ
namespace Go.Proofs.Ytfjcbdpepbcjcaa
open Go.RowKit Go.Shelf
set_option linter.unusedSimpArgs false
set_option linter.unusedVariables false

def CrC (f : FuncId) (W H P : Int) (xs : List Int) (bx by_ bw bh : Int) (X Y Z : Int) (ys : List Int) (ok : Bool) : Prop :=
  ∀ (A : Option Addr) (c : Nat) (w : World), Rds .i64 w w.heap.size A xs → xs.length ≤ c → Calls Try.prog f #[.agg #[.int .i64 W, .int .i64 H, .int .i64 P, .slice A xs.length c], .agg #[.int .i64 bx, .int .i64 by_, .int .i64 bw, .int .i64 bh]] w (ShIB X Y Z ys ok w)
theorem CrC.use {f : FuncId} {W H P : Int} {xs : List Int} {bx by_ bw bh : Int} {X Y Z : Int} {ys : List Int} {ok : Bool} (h : Hid (CrC f W H P xs bx by_ bw bh X Y Z ys ok)) (A : Option Addr) (c : Nat) (w : World) (hr : Rds .i64 w w.heap.size A xs) (hc : xs.length ≤ c) : Calls Try.prog f #[.agg #[.int .i64 W, .int .i64 H, .int .i64 P, .slice A xs.length c], .agg #[.int .i64 bx, .int .i64 by_, .int .i64 bw, .int .i64 bh]] w (ShIB X Y Z ys ok w) := h.out A c w hr hc
theorem SetR.sh {ok : Bool} {W H P : Int} {ys : List Int} {w : World} {e : Ending} {w' : World} (h : SetR ok W H P ys w e w') : ShIB (cond ok W 0) (cond ok H 0) (cond ok P 0) (cond ok ys []) ok w e w' := by
  obtain ⟨v, rfl, hO, hB⟩ := h
  obtain ⟨A, c, rfl, hc⟩ := hO.slice
  exact ⟨A, c, rfl, hc, hO.rds.2, hB⟩
theorem iC_C (W H P : Int) (xs : List Int) (hx : xs.length ≤ 2000) (bx by_ bw bh : Int) : CrC 18 W H P xs bx by_ bw bh (cond (cropOk W H P xs bx by_ bw bh) bw 0) (cond (cropOk W H P xs bx by_ bw bh) bh 0) (cond (cropOk W H P xs bx by_ bw bh) P 0) (cond (cropOk W H P xs bx by_ bw bh) (cropL W.toNat P.toNat xs bx.toNat by_.toNat bw.toNat bh.toNat) []) (cropOk W H P xs bx by_ bw bh) :=
  fun A c w hr hc => (by first | exact i_CropImage W H P bx by_ bw bh A c xs w hr (by omega) hc | exact s_CropImage W H P bx by_ bw bh A c xs w hr (by omega) hc : Calls _ _ _ _ _).mono fun _ _ h => SetR.sh h
theorem sC_C (W H P : Int) (xs : List Int) (hx : xs.length ≤ 2000) (bx by_ bw bh : Int) : CrC 37 W H P xs bx by_ bw bh (cond (cropOk W H P xs bx by_ bw bh) bw 0) (cond (cropOk W H P xs bx by_ bw bh) bh 0) (cond (cropOk W H P xs bx by_ bw bh) P 0) (cond (cropOk W H P xs bx by_ bw bh) (cropL W.toNat P.toNat xs bx.toNat by_.toNat bw.toNat bh.toNat) []) (cropOk W H P xs bx by_ bw bh) :=
  fun A c w hr hc => (by first | exact i_CropImage W H P bx by_ bw bh A c xs w hr (by omega) hc | exact s_CropImage W H P bx by_ bw bh A c xs w hr (by omega) hc : Calls _ _ _ _ _).mono fun _ _ h => SetR.sh h
theorem vim_ok' {W H P : Int} {xs : List Int} (h : Go.Proofs.Ytfjcbdpepbcjcaa.vim W H P xs = true) : ∃ (w h p : Nat) (F : Nat → Nat → Nat → Int), W = w ∧ H = h ∧ P = p ∧ xs = img w h p F ∧ (1 ≤ w ∧ w ≤ 16) ∧ (1 ≤ h ∧ h ≤ 16) ∧ (1 ≤ p ∧ p ≤ 4) ∧ ∀ x y q, x < w → y < h → q < p → 0 ≤ F x y q ∧ F x y q ≤ 255 := by
  obtain ⟨W, H, P, rfl, rfl, rfl, hW1, hW, hH1, hH, hP1, hP, hln, hby⟩ := vim_nat h
  exact ⟨W, H, P, pxc W P xs, rfl, rfl, rfl, (img_self hln).symm, ⟨hW1, hW⟩, ⟨hH1, hH⟩, ⟨hP1, hP⟩, pxc_bytes hln hby⟩
theorem crop_img {W H P X0 Y0 bw bh : Nat} (F : Nat → Nat → Nat → Int) (hX : X0 + bw ≤ W) (hY : Y0 + bh ≤ H) : cropL W P (img W H P F) X0 Y0 bw bh = img bw bh P (fun x y => F (X0 + x) (Y0 + y)) :=
  img_ext fun x y p hx hy hp => img_pxc2' F (by omega) (by omega) hp
theorem fitB_of {X0 Y0 bw bh W H : Nat} (h1 : 1 ≤ bw) (h2 : 1 ≤ bh) (hX : X0 + bw ≤ W) (hY : Y0 + bh ≤ H) : fitB X0 Y0 bw bh W H = true := by
  simp only [fitB, Bool.and_eq_true, decide_eq_true_eq]; omega
theorem iC_I {W H P X0 Y0 bw bh : Nat} {F : Nat → Nat → Nat → Int} (hW : 1 ≤ W ∧ W ≤ 16) (hH : 1 ≤ H ∧ H ≤ 16) (hP : 1 ≤ P ∧ P ≤ 4) (hF : ∀ x y q, x < W → y < H → q < P → 0 ≤ F x y q ∧ F x y q ≤ 255) (h1 : 1 ≤ bw) (h2 : 1 ≤ bh) (hX : X0 + bw ≤ W) (hY : Y0 + bh ≤ H) :
    CrC 18 W H P (img W H P F) X0 Y0 bw bh bw bh P (img bw bh P (fun x y => F (X0 + x) (Y0 + y))) true := by
  have hv := vim_img hW.1 hW.2 hH.1 hH.2 hP.1 hP.2 hF
  have hf := fitB_of h1 h2 hX hY
  have ho : cropOk W H P (img W H P F) X0 Y0 bw bh = true := by unfold cropOk; rw [hv, hf]; rfl
  have h := iC_C W H P (img W H P F) (by have := img_bd F hW.2 hH.2 hP.2; omega) X0 Y0 bw bh
  rw [ho] at h
  have h' : CrC 18 W H P (img W H P F) X0 Y0 bw bh bw bh P (cropL W P (img W H P F) X0 Y0 bw bh) true := h
  rwa [crop_img F hX hY] at h'
theorem crt_law (W H P : Int) (xs : List Int) (hx : xs.length ≤ 256) (bx by_ bw bh : Int) : ∃ (X Y Z : Int) (ys : List Int) (ok : Bool), ys.length ≤ 2000 ∧ Hid (CrC 18 W H P xs bx by_ bw bh X Y Z ys ok) ∧ Hid (CrC 37 W H P xs bx by_ bw bh X Y Z ys ok) ∧
    (ok = false ∨ (ok = true ∧ bw < 2) ∨ (ok = true ∧ ¬ bw < 2 ∧ ∃ (X2 Y2 Z2 : Int) (zs : List Int), zs.length ≤ 2000 ∧ Hid (CrC 18 X Y Z ys 1 0 (bw - 1) bh X2 Y2 Z2 zs true) ∧ Hid (CrC 18 W H P xs (bx + 1) by_ (bw - 1) bh X2 Y2 Z2 zs true))) := by
  have h1 := iC_C W H P xs (by omega) bx by_ bw bh
  have h2 := sC_C W H P xs (by omega) bx by_ bw bh
  cases ho : cropOk W H P xs bx by_ bw bh
  · rw [ho] at h1 h2
    exact ⟨_, _, _, _, _, by simp, Lib.hid h1, Lib.hid h2, .inl rfl⟩
  · rw [ho] at h1 h2
    have ho' := ho
    unfold cropOk at ho'
    rw [Bool.and_eq_true] at ho'
    obtain ⟨W, H, P, F, rfl, rfl, rfl, rfl, hW, hH, hP, hF⟩ := vim_ok' ho'.1
    obtain ⟨X0, Y0, bw, bh, rfl, rfl, rfl, rfl, hbw, hbh, hXw, hYh⟩ := fit_nat ho'.2
    have h1' : CrC 18 W H P (img W H P F) X0 Y0 bw bh bw bh P (cropL W P (img W H P F) X0 Y0 bw bh) true := h1
    have h2' : CrC 37 W H P (img W H P F) X0 Y0 bw bh bw bh P (cropL W P (img W H P F) X0 Y0 bw bh) true := h2
    rw [crop_img F hXw hYh] at h1' h2'
    refine ⟨_, _, _, _, _, by have := img_bd (W := bw) (H := bh) (P := P) (fun x y => F (X0 + x) (Y0 + y)) (by omega) (by omega) hP.2; omega, Lib.hid h1', Lib.hid h2', ?_⟩
    by_cases hb2 : (bw : Int) < 2
    · exact .inr (.inl ⟨rfl, hb2⟩)
    · refine .inr (.inr ⟨rfl, hb2, ((bw - 1 : Nat) : Int), (bh : Int), (P : Int), img (bw - 1) bh P (fun x y => F (X0 + 1 + x) (Y0 + y)), ?_, ?_, ?_⟩)
      · have := img_bd (W := bw - 1) (H := bh) (P := P) (fun x y => F (X0 + 1 + x) (Y0 + y)) (by omega) (by omega) hP.2; omega
      · have h := iC_I (W := bw) (H := bh) (P := P) (X0 := 1) (Y0 := 0) (bw := bw - 1) (bh := bh) (F := fun x y => F (X0 + x) (Y0 + y)) ⟨by omega, by omega⟩ ⟨by omega, by omega⟩ hP (fun x y q hx hy hq => hF _ _ _ (by omega) (by omega) hq) (by omega) hbh (by omega) (by omega)
        have e1 : (bw : Int) - 1 = ((bw - 1 : Nat) : Int) := by omega
        have e2 : (fun x y => (fun x y => F (X0 + x) (Y0 + y)) (1 + x) (0 + y)) = (fun x y => F (X0 + 1 + x) (Y0 + y)) := by
          funext x y; show F _ _ = F _ _; rw [show X0 + (1 + x) = X0 + 1 + x by omega, show Y0 + (0 + y) = Y0 + y by omega]
        rw [e1]
        rw [e2] at h
        exact Lib.hid h
      · have h := iC_I (W := W) (H := H) (P := P) (X0 := X0 + 1) (Y0 := Y0) (bw := bw - 1) (bh := bh) (F := F) hW hH hP hF (by omega) hbh (by omega) hYh
        have e1 : (bw : Int) - 1 = ((bw - 1 : Nat) : Int) := by omega
        have e3 : (X0 : Int) + 1 = ((X0 + 1 : Nat) : Int) := by omega
        rw [e1, e3]
        exact Lib.hid h
end Go.Proofs.Ytfjcbdpepbcjcaa
