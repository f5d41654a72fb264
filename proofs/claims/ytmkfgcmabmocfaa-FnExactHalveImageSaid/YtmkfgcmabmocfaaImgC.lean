/- Facts of parts of images that the laws need. -/
import Derived.Test.YtmkfgcmabmocfaaCropJ
namespace Go.Proofs.Ytmkfgcmabmocfaa
open Go.RowKit Go.Shelf
set_option linter.unusedSimpArgs false
set_option linter.unusedVariables false

def CrC (f : FuncId) (W H P : Int) (xs : List Int) (bx by_ bw bh : Int) (X Y Z : Int) (ys : List Int) (ok : Bool) : Prop :=
  ∀ (A : Option Addr) (c : Nat) (w : World), Rds .i64 w w.heap.size A xs → xs.length ≤ c → Calls Try.prog f #[.agg #[.int .i64 W, .int .i64 H, .int .i64 P, .slice A xs.length c], .agg #[.int .i64 bx, .int .i64 by_, .int .i64 bw, .int .i64 bh]] w (ShIB X Y Z ys ok w)
theorem CrC.use {f : FuncId} {W H P : Int} {xs : List Int} {bx by_ bw bh : Int} {X Y Z : Int} {ys : List Int} {ok : Bool} (h : Hid (CrC f W H P xs bx by_ bw bh X Y Z ys ok)) (A : Option Addr) (c : Nat) (w : World) (hr : Rds .i64 w w.heap.size A xs) (hc : xs.length ≤ c) : Calls Try.prog f #[.agg #[.int .i64 W, .int .i64 H, .int .i64 P, .slice A xs.length c], .agg #[.int .i64 bx, .int .i64 by_, .int .i64 bw, .int .i64 bh]] w (ShIB X Y Z ys ok w) := h.out A c w hr hc
theorem SetR.sh {ok : Bool} {W H P : Int} {ys : List Int} {w : World} {e : Ending} {w' : World} (h : SetR ok W H P ys w e w') : ShIB (cond ok W 0) (cond ok H 0) (cond ok P 0) (cond ok ys []) ok w e w' := by
  obtain ⟨v, rfl, hO, hB⟩ := h
  obtain ⟨A, c, rfl, hc⟩ := hO.slice
  exact ⟨A, c, rfl, hc, hO.rds.2, hB⟩
theorem iC_C (W H P : Int) (xs : List Int) (hx : xs.length ≤ 2000) (bx by_ bw bh : Int) : CrC 35 W H P xs bx by_ bw bh (cond (cropOk W H P xs bx by_ bw bh) bw 0) (cond (cropOk W H P xs bx by_ bw bh) bh 0) (cond (cropOk W H P xs bx by_ bw bh) P 0) (cond (cropOk W H P xs bx by_ bw bh) (cropL W.toNat P.toNat xs bx.toNat by_.toNat bw.toNat bh.toNat) []) (cropOk W H P xs bx by_ bw bh) :=
  fun A c w hr hc => (by first | exact i_CropImage W H P bx by_ bw bh A c xs w hr (by omega) hc | exact s_CropImage W H P bx by_ bw bh A c xs w hr (by omega) hc : Calls _ _ _ _ _).mono fun _ _ h => SetR.sh h
theorem vim_ok' {W H P : Int} {xs : List Int} (h : Go.Proofs.Ytmkfgcmabmocfaa.vim W H P xs = true) : ∃ (w h p : Nat) (F : Nat → Nat → Nat → Int), W = w ∧ H = h ∧ P = p ∧ xs = img w h p F ∧ (1 ≤ w ∧ w ≤ 16) ∧ (1 ≤ h ∧ h ≤ 16) ∧ (1 ≤ p ∧ p ≤ 4) ∧ ∀ x y q, x < w → y < h → q < p → 0 ≤ F x y q ∧ F x y q ≤ 255 := by
  obtain ⟨W, H, P, rfl, rfl, rfl, hW1, hW, hH1, hH, hP1, hP, hln, hby⟩ := vim_nat h
  exact ⟨W, H, P, pxc W P xs, rfl, rfl, rfl, (img_self hln).symm, ⟨hW1, hW⟩, ⟨hH1, hH⟩, ⟨hP1, hP⟩, pxc_bytes hln hby⟩
theorem crop_img {W H P X0 Y0 bw bh : Nat} (F : Nat → Nat → Nat → Int) (hX : X0 + bw ≤ W) (hY : Y0 + bh ≤ H) : cropL W P (img W H P F) X0 Y0 bw bh = img bw bh P (fun x y => F (X0 + x) (Y0 + y)) :=
  img_ext fun x y p hx hy hp => img_pxc2' F (by omega) (by omega) hp
theorem fitB_of {X0 Y0 bw bh W H : Nat} (h1 : 1 ≤ bw) (h2 : 1 ≤ bh) (hX : X0 + bw ≤ W) (hY : Y0 + bh ≤ H) : fitB X0 Y0 bw bh W H = true := by
  simp only [fitB, Bool.and_eq_true, decide_eq_true_eq]; omega
theorem iC_I {W H P X0 Y0 bw bh : Nat} {F : Nat → Nat → Nat → Int} (hW : 1 ≤ W ∧ W ≤ 16) (hH : 1 ≤ H ∧ H ≤ 16) (hP : 1 ≤ P ∧ P ≤ 4) (hF : ∀ x y q, x < W → y < H → q < P → 0 ≤ F x y q ∧ F x y q ≤ 255) (h1 : 1 ≤ bw) (h2 : 1 ≤ bh) (hX : X0 + bw ≤ W) (hY : Y0 + bh ≤ H) :
    CrC 35 W H P (img W H P F) X0 Y0 bw bh bw bh P (img bw bh P (fun x y => F (X0 + x) (Y0 + y))) true := by
  have hv := vim_img hW.1 hW.2 hH.1 hH.2 hP.1 hP.2 hF
  have hf := fitB_of h1 h2 hX hY
  have ho : cropOk W H P (img W H P F) X0 Y0 bw bh = true := by unfold cropOk; rw [hv, hf]; rfl
  have h := iC_C W H P (img W H P F) (by have := img_bd F hW.2 hH.2 hP.2; omega) X0 Y0 bw bh
  rw [ho] at h
  have h' : CrC 35 W H P (img W H P F) X0 Y0 bw bh bw bh P (cropL W P (img W H P F) X0 Y0 bw bh) true := h
  rwa [crop_img F hX hY] at h'
end Go.Proofs.Ytmkfgcmabmocfaa
