/- Facts of gray images that the laws need. -/
import Derived.Test.YtpajccpcdmaalaaFillI
import Derived.Test.YtpajccpcdmaalaaOkJ
import Derived.Test.YtpajccpcdmaalaaGray
namespace Go.Proofs.Ytpajccpcdmaalaa
open Go.RowKit Go.Shelf
set_option linter.unusedSimpArgs false
set_option linter.unusedVariables false

theorem rds_bx3 {w : World} {g : Nat} {T : TypeId} {a b c : Int} (h : Bx w g T #[.int .i64 a, .int .i64 b, .int .i64 c]) : Rds .i64 w w.heap.size (some ⟨g, 0, none⟩) [a, b, c] := by
  obtain ⟨h0, h1, h2⟩ := bx3 h
  refine .inr ⟨g, 0, rfl, h.lt, fun j hj => ?_⟩
  match j, hj with
  | 0, _ => exact h0
  | 1, _ => exact h1
  | 2, _ => exact h2
theorem rds_bx1 {w : World} {g : Nat} {T : TypeId} {a : Int} (h : Bx w g T #[.int .i64 a]) : Rds .i64 w w.heap.size (some ⟨g, 0, none⟩) [a] := by
  refine .inr ⟨g, 0, rfl, h.lt, fun j hj => ?_⟩
  match j, hj with
  | 0, _ => exact cell_of_row w g 0 _ _ _ h
theorem mif_shJ {b : Bool} {W H P X Y Z : Int} {xs ys : List Int} {w : World} {e : Ending} {w' : World} (h : MadeIf b W H P xs w e w') (hx : cond b W 0 = X) (hy : cond b H 0 = Y) (hz : cond b P 0 = Z) (hl : cond b xs [] = ys) : ShI X Y Z ys w e w' := by
  subst hx hy hz hl; exact ShI.of h
theorem okJ.mir {W H P : Nat} {F : Nat → Nat → Nat → Int} (h : okJ W H P F) : okJ W H P (fun x y => F (W - 1 - x) y) := ⟨h.1, h.2.1, h.2.2.1, fun x y p hx hy hp => h.2.2.2 _ _ _ (by have := h.1; omega) hy hp⟩
theorem iG_gy (W H P : Int) (xs : List Int) (hx : xs.length ≤ 2000) : ImC0 23 W H P xs (cond (gyOk W H P xs) W 0) (cond (gyOk W H P xs) H 0) (cond (gyOk W H P xs) 1 0) (cond (gyOk W H P xs) (gyL W.toNat H.toNat xs) []) :=
  fun A c w hr hc => (by first | exact i_GrayImage W H P A c xs w hr (by omega) hc | exact s_GrayImage W H P A c xs w hr (by omega) hc : Calls _ _ _ _ _).mono fun _ _ h => mif_shJ h rfl rfl rfl rfl
theorem iG_I {W H : Nat} {F : Nat → Nat → Nat → Int} (ok : okJ W H 3 F) : ImC0 23 W H 3 (img W H 3 F) W H 1 (img W H 1 (fun x y _ => gry (F x y 0) (F x y 1) (F x y 2))) := by
  have ho : gyOk W H 3 (img W H 3 F) = true := by unfold gyOk; rw [show (3 : Int) = ((3 : Nat) : Int) from rfl, ok.vim]; rfl
  have h := iG_gy W H 3 (img W H 3 F) (by have := ok.bd; omega)
  rw [ho] at h
  have h' : ImC0 23 W H 3 (img W H 3 F) W H 1 (gyL W H (img W H 3 F)) := h
  have e : gyL W H (img W H 3 F) = img W H 1 (fun x y _ => gry (F x y 0) (F x y 1) (F x y 2)) :=
    img_ext fun x y p hx hy hp => by
      show gyF W (img W H 3 F) x y = _
      unfold gyF
      rw [img_pxc2' F hx hy (by omega), img_pxc2' F hx hy (by omega), img_pxc2' F hx hy (by omega)]
  rwa [e] at h'
theorem sG_gy (W H P : Int) (xs : List Int) (hx : xs.length ≤ 2000) : ImC0 25 W H P xs (cond (gyOk W H P xs) W 0) (cond (gyOk W H P xs) H 0) (cond (gyOk W H P xs) 1 0) (cond (gyOk W H P xs) (gyL W.toNat H.toNat xs) []) :=
  fun A c w hr hc => (by first | exact i_GrayImage W H P A c xs w hr (by omega) hc | exact s_GrayImage W H P A c xs w hr (by omega) hc : Calls _ _ _ _ _).mono fun _ _ h => mif_shJ h rfl rfl rfl rfl
theorem sG_I {W H : Nat} {F : Nat → Nat → Nat → Int} (ok : okJ W H 3 F) : ImC0 25 W H 3 (img W H 3 F) W H 1 (img W H 1 (fun x y _ => gry (F x y 0) (F x y 1) (F x y 2))) := by
  have ho : gyOk W H 3 (img W H 3 F) = true := by unfold gyOk; rw [show (3 : Int) = ((3 : Nat) : Int) from rfl, ok.vim]; rfl
  have h := sG_gy W H 3 (img W H 3 F) (by have := ok.bd; omega)
  rw [ho] at h
  have h' : ImC0 25 W H 3 (img W H 3 F) W H 1 (gyL W H (img W H 3 F)) := h
  have e : gyL W H (img W H 3 F) = img W H 1 (fun x y _ => gry (F x y 0) (F x y 1) (F x y 2)) :=
    img_ext fun x y p hx hy hp => by
      show gyF W (img W H 3 F) x y = _
      unfold gyF
      rw [img_pxc2' F hx hy (by omega), img_pxc2' F hx hy (by omega), img_pxc2' F hx hy (by omega)]
  rwa [e] at h'
theorem okJ.gy {W H : Nat} {F : Nat → Nat → Nat → Int} (ok : okJ W H 3 F) : okJ W H 1 (fun x y _ => gry (F x y 0) (F x y 1) (F x y 2)) :=
  ⟨ok.1, ok.2.1, by omega, fun x y p hx hy hp => gry_bd (ok.2.2.2 x y 0 hx hy (by omega)) (ok.2.2.2 x y 1 hx hy (by omega)) (ok.2.2.2 x y 2 hx hy (by omega))⟩
theorem gry_mm {a b c : Int} : min a (min b c) ≤ gry a b c ∧ gry a b c ≤ max a (max b c) := by unfold gry; omega
theorem gyb_law (W H P : Int) (xs : List Int) (hx : xs.length ≤ 256) : ∃ (X Y Z : Int) (ys : List Int), ys.length ≤ 2000 ∧ Hid (ImC0 23 W H P xs X Y Z ys) ∧ Hid (ImC0 25 W H P xs X Y Z ys) ∧
    (X = 0 ∨ (X ≠ 0 ∧ Z = 1 ∧ Hid (xs.length = 3 * ys.length) ∧ Hid (∀ i, i < ys.length → min (xs.getD (3 * i) 0) (min (xs.getD (3 * i + 1) 0) (xs.getD (3 * i + 2) 0)) ≤ ys.getD i 0 ∧ ys.getD i 0 ≤ max (xs.getD (3 * i) 0) (max (xs.getD (3 * i + 1) 0) (xs.getD (3 * i + 2) 0))))) := by
  have h1 := iG_gy W H P xs (by omega)
  have h2 := sG_gy W H P xs (by omega)
  cases ho : gyOk W H P xs
  · rw [ho] at h1 h2
    exact ⟨_, _, _, _, by simp, Lib.hid h1, Lib.hid h2, .inl rfl⟩
  · have ho' := ho
    unfold gyOk at ho'
    rw [Bool.and_eq_true, decide_eq_true_eq] at ho'
    obtain ⟨W, H, P, F, rfl, rfl, rfl, rfl, ok⟩ := vim_okJ ho'.1
    have hP : P = 3 := by omega
    subst hP
    refine ⟨_, _, _, _, by have := ok.gy.bd; omega, Lib.hid (iG_I ok), Lib.hid (sG_I ok), .inr ⟨by have := ok.1; omega, rfl, Lib.hid (by rw [img_len, img_len]; omega), Lib.hid fun i hi => ?_⟩⟩
    have hi' : i < W * H := by rw [img_len] at hi; omega
    have e0 := img_at (P := 3) F hi' (show 0 < 3 by omega)
    have e1 := img_at (P := 3) F hi' (show 1 < 3 by omega)
    have e2 := img_at (P := 3) F hi' (show 2 < 3 by omega)
    have e3 := img_at (P := 1) (fun x y _ => gry (F x y 0) (F x y 1) (F x y 2)) hi' (show 0 < 1 by omega)
    rw [Nat.mul_comm i 3] at e0 e1 e2
    rw [Nat.add_zero] at e0 e3
    rw [Nat.mul_one] at e3
    rw [e0, e1, e2, e3]
    exact gry_mm
end Go.Proofs.Ytpajccpcdmaalaa
