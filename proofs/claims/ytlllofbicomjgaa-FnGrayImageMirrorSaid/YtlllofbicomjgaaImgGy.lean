/- Facts of gray images that the laws need. -/
import Derived.Test.YtlllofbicomjgaaFillI
import Derived.Test.YtlllofbicomjgaaOkJ
import Derived.Test.YtlllofbicomjgaaGray
namespace Go.Proofs.Ytlllofbicomjgaa
open Go.RowKit Go.Shelf
set_option linter.unusedSimpArgs false
set_option linter.unusedVariables false

theorem rds_bx3 {w : World} {g : Nat} {T : TypeId} {a b c : Int} (h : Bx w g T #[.int .i64 a, .int .i64 b, .int .i64 c]) : Rds .i64 w w.heap.size (some ⟨g, 0, none⟩) [a, b, c] := by
  obtain ⟨h0, h1, h2⟩ := bx3 h
  refine .inr ⟨g, 0, rfl, h.lt, fun j hj => ?_⟩
  match j, hj with
  | 0, _ => exact h0
  | 1, _ => exact h1
  | 2, _ => exact h2
theorem rds_bx1 {w : World} {g : Nat} {T : TypeId} {a : Int} (h : Bx w g T #[.int .i64 a]) : Rds .i64 w w.heap.size (some ⟨g, 0, none⟩) [a] := by
  refine .inr ⟨g, 0, rfl, h.lt, fun j hj => ?_⟩
  match j, hj with
  | 0, _ => exact cell_of_row w g 0 _ _ _ h
theorem mif_shJ {b : Bool} {W H P X Y Z : Int} {xs ys : List Int} {w : World} {e : Ending} {w' : World} (h : MadeIf b W H P xs w e w') (hx : cond b W 0 = X) (hy : cond b H 0 = Y) (hz : cond b P 0 = Z) (hl : cond b xs [] = ys) : ShI X Y Z ys w e w' := by
  subst hx hy hz hl; exact ShI.of h
theorem okJ.mir {W H P : Nat} {F : Nat → Nat → Nat → Int} (h : okJ W H P F) : okJ W H P (fun x y => F (W - 1 - x) y) := ⟨h.1, h.2.1, h.2.2.1, fun x y p hx hy hp => h.2.2.2 _ _ _ (by have := h.1; omega) hy hp⟩
theorem iM_J {W H P : Nat} {F : Nat → Nat → Nat → Int} (h : okJ W H P F) : ImC0 37 W H P (img W H P F) W H P (img W H P (fun x y => F (W - 1 - x) y)) := by
  have hc : ImC0 37 W H P (img W H P F) (cond (vim W H P (img W H P F)) W 0) (cond (vim W H P (img W H P F)) H 0) (cond (vim W H P (img W H P F)) P 0) (cond (vim W H P (img W H P F)) (mirL W H P (img W H P F)) []) :=
    fun A c w hr hc => (i_MirrorImage W H P A c (img W H P F) w hr (by have := h.bd; omega) hc).mono fun _ _ h => mif_shJ h rfl rfl rfl rfl
  rw [h.vim] at hc
  have hc' : ImC0 37 W H P (img W H P F) W H P (mirL W H P (img W H P F)) := hc
  have e : mirL W H P (img W H P F) = img W H P (fun x y => F (W - 1 - x) y) := img_ext fun x y p hx hy hp => img_pxc2' F (by have := h.1; omega) hy hp
  rwa [e] at hc'
theorem iG_gy (W H P : Int) (xs : List Int) (hx : xs.length ≤ 2000) : ImC0 34 W H P xs (cond (gyOk W H P xs) W 0) (cond (gyOk W H P xs) H 0) (cond (gyOk W H P xs) 1 0) (cond (gyOk W H P xs) (gyL W.toNat H.toNat xs) []) :=
  fun A c w hr hc => (by first | exact i_GrayImage W H P A c xs w hr (by omega) hc | exact s_GrayImage W H P A c xs w hr (by omega) hc : Calls _ _ _ _ _).mono fun _ _ h => mif_shJ h rfl rfl rfl rfl
theorem iG_I {W H : Nat} {F : Nat → Nat → Nat → Int} (ok : okJ W H 3 F) : ImC0 34 W H 3 (img W H 3 F) W H 1 (img W H 1 (fun x y _ => gry (F x y 0) (F x y 1) (F x y 2))) := by
  have ho : gyOk W H 3 (img W H 3 F) = true := by unfold gyOk; rw [show (3 : Int) = ((3 : Nat) : Int) from rfl, ok.vim]; rfl
  have h := iG_gy W H 3 (img W H 3 F) (by have := ok.bd; omega)
  rw [ho] at h
  have h' : ImC0 34 W H 3 (img W H 3 F) W H 1 (gyL W H (img W H 3 F)) := h
  have e : gyL W H (img W H 3 F) = img W H 1 (fun x y _ => gry (F x y 0) (F x y 1) (F x y 2)) :=
    img_ext fun x y p hx hy hp => by
      show gyF W (img W H 3 F) x y = _
      unfold gyF
      rw [img_pxc2' F hx hy (by omega), img_pxc2' F hx hy (by omega), img_pxc2' F hx hy (by omega)]
  rwa [e] at h'
theorem sG_gy (W H P : Int) (xs : List Int) (hx : xs.length ≤ 2000) : ImC0 33 W H P xs (cond (gyOk W H P xs) W 0) (cond (gyOk W H P xs) H 0) (cond (gyOk W H P xs) 1 0) (cond (gyOk W H P xs) (gyL W.toNat H.toNat xs) []) :=
  fun A c w hr hc => (by first | exact i_GrayImage W H P A c xs w hr (by omega) hc | exact s_GrayImage W H P A c xs w hr (by omega) hc : Calls _ _ _ _ _).mono fun _ _ h => mif_shJ h rfl rfl rfl rfl
theorem sG_I {W H : Nat} {F : Nat → Nat → Nat → Int} (ok : okJ W H 3 F) : ImC0 33 W H 3 (img W H 3 F) W H 1 (img W H 1 (fun x y _ => gry (F x y 0) (F x y 1) (F x y 2))) := by
  have ho : gyOk W H 3 (img W H 3 F) = true := by unfold gyOk; rw [show (3 : Int) = ((3 : Nat) : Int) from rfl, ok.vim]; rfl
  have h := sG_gy W H 3 (img W H 3 F) (by have := ok.bd; omega)
  rw [ho] at h
  have h' : ImC0 33 W H 3 (img W H 3 F) W H 1 (gyL W H (img W H 3 F)) := h
  have e : gyL W H (img W H 3 F) = img W H 1 (fun x y _ => gry (F x y 0) (F x y 1) (F x y 2)) :=
    img_ext fun x y p hx hy hp => by
      show gyF W (img W H 3 F) x y = _
      unfold gyF
      rw [img_pxc2' F hx hy (by omega), img_pxc2' F hx hy (by omega), img_pxc2' F hx hy (by omega)]
  rwa [e] at h'
theorem okJ.gy {W H : Nat} {F : Nat → Nat → Nat → Int} (ok : okJ W H 3 F) : okJ W H 1 (fun x y _ => gry (F x y 0) (F x y 1) (F x y 2)) :=
  ⟨ok.1, ok.2.1, by omega, fun x y p hx hy hp => gry_bd (ok.2.2.2 x y 0 hx hy (by omega)) (ok.2.2.2 x y 1 hx hy (by omega)) (ok.2.2.2 x y 2 hx hy (by omega))⟩
theorem lEqInts_atJ (A A' : Option Addr) (c c' n n' : Nat) (q : List Int) (w : World) (hn : n = q.length) (hn' : n' = q.length) (hx : Rds .i64 w w.heap.size A q) (hy : Rds .i64 w w.heap.size A' q) (hl : q.length ≤ 2000000) :
    Calls Try.prog 26 #[.slice A n c, .slice A' n' c'] w fun e w' => e = .returned (.bool true) ∧ Below w.heap.size w w' := by
  subst hn hn'
  exact lEqInts_same A A' c c' q w hx hy hl
theorem gym_law (W H P : Int) (xs : List Int) (hx : xs.length ≤ 256) : ∃ (X Y Z : Int) (ys : List Int), ys.length ≤ 2000 ∧ Hid (ImC0 34 W H P xs X Y Z ys) ∧ Hid (ImC0 33 W H P xs X Y Z ys) ∧
    (X = 0 ∨ (X ≠ 0 ∧ ∃ mx gx : List Int, mx.length ≤ 2000 ∧ gx.length ≤ 2000 ∧ Hid (ImC0 37 W H P xs W H P mx) ∧ Hid (ImC0 34 W H P mx X Y Z gx) ∧ Hid (ImC0 37 X Y Z ys X Y Z gx))) := by
  have h1 := iG_gy W H P xs (by omega)
  have h2 := sG_gy W H P xs (by omega)
  cases ho : gyOk W H P xs
  · rw [ho] at h1 h2
    exact ⟨_, _, _, _, by simp, Lib.hid h1, Lib.hid h2, .inl rfl⟩
  · have ho' := ho
    unfold gyOk at ho'
    rw [Bool.and_eq_true, decide_eq_true_eq] at ho'
    obtain ⟨W, H, P, F, rfl, rfl, rfl, rfl, ok⟩ := vim_okJ ho'.1
    have hP : P = 3 := by omega
    subst hP
    have okm : okJ W H 3 (fun x y => F (W - 1 - x) y) := ok.mir
    exact ⟨_, _, _, _, by have := ok.gy.bd; omega, Lib.hid (iG_I ok), Lib.hid (sG_I ok), .inr ⟨by have := ok.1; omega, _, _, by have := okm.bd; omega, by have := okm.gy.bd; omega, Lib.hid (iM_J ok), Lib.hid (iG_I okm), Lib.hid (iM_J ok.gy)⟩⟩
theorem white_law : ∃ q3 q1 : List Int, q3.length ≤ 2000 ∧ q1.length ≤ 2000 ∧ Hid (q1 = [255]) ∧ Hid (FillC 36 1 1 [255, 255, 255] 1 1 3 q3) ∧ Hid (ImC0 34 1 1 3 q3 1 1 1 q1) := by
  refine ⟨[255, 255, 255], [255], by simp, by simp, Lib.hid rfl, Lib.hid fun A c w hr hc => ?_, Lib.hid ?_⟩
  · exact (i_FillImage 1 1 A c [255, 255, 255] w hr (by simp)).mono fun _ _ h => mif_shJ h (by decide) (by decide) (by decide) (by decide)
  · have h := iG_gy 1 1 3 [255, 255, 255] (by simp)
    have ho : gyOk 1 1 3 [255, 255, 255] = true := by decide
    rw [ho] at h
    have e : gyL (1 : Int).toNat (1 : Int).toNat [255, 255, 255] = [255] := by decide
    have h' : ImC0 34 1 1 3 [255, 255, 255] 1 1 1 (gyL (1 : Int).toNat (1 : Int).toNat [255, 255, 255]) := h
    rwa [e] at h'
end Go.Proofs.Ytlllofbicomjgaa
