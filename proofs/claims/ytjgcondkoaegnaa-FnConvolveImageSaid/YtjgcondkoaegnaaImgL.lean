/- Facts of mirrors, turns and transposes that the laws need: contracts as hypotheses, and what comes back. -/
import Derived.Test.YtjgcondkoaegnaaLSt
import Derived.Test.YtjgcondkoaegnaaTurnI
import Derived.Test.YtjgcondkoaegnaaSpecT
namespace Go.Proofs.Ytjgcondkoaegnaa
open Go.RowKit Go.Shelf
set_option linter.unusedSimpArgs false
set_option linter.unusedVariables false

theorem mif_sh {b : Bool} {W H P X Y Z : Int} {xs ys : List Int} {w : World} {e : Ending} {w' : World} (h : MadeIf b W H P xs w e w') (hx : cond b W 0 = X) (hy : cond b H 0 = Y) (hz : cond b P 0 = Z) (hl : cond b xs [] = ys) : ShI X Y Z ys w e w' := by
  subst hx hy hz hl; exact ShI.of h
theorem iT_tur (W H P k : Int) (xs : List Int) (hx : xs.length ≤ 2000) : ImC1 22 k W H P xs (cond (vim W H P xs && inQ k) (tdim W.toNat H.toNat k.toNat).1 0) (cond (vim W H P xs && inQ k) (tdim W.toNat H.toNat k.toNat).2 0) (cond (vim W H P xs && inQ k) P 0) (cond (vim W H P xs && inQ k) (turL W.toNat H.toNat P.toNat xs k.toNat) []) :=
  fun A c w hr hc => (by first | exact i_TurnImage W H P k A c xs w hr (by omega) hc | exact s_TurnImage W H P k A c xs w hr (by omega) hc : Calls _ _ _ _ _).mono fun _ _ h => mif_sh h rfl rfl rfl rfl
theorem i_px (W H P x y : Int) (xs : List Int) (hx : xs.length ≤ 2000) : PxC 20 W H P xs x y (pxv W H P xs x y) :=
  fun A c w hr hc => i_PixelAt W H P A c xs x y w hr (by omega) hc
theorem pxv_bd (W H P : Int) (xs : List Int) (x y : Int) (h : vim W H P xs = true) : (pxv W H P xs x y).length ≤ 4 := by
  obtain ⟨w, h', p, rfl, rfl, rfl, _, _, _, _, _, hp, _, _⟩ := vim_nat h
  unfold pxv
  cases (vim _ _ _ xs && onIm _ _ x y)
  · simp
  · simp [pxl_len]; omega
/-- A place's numbers are those of an image. -/
def okI (W H P : Nat) (F : Nat → Nat → Nat → Int) : Prop := (1 ≤ W ∧ W ≤ 16) ∧ (1 ≤ H ∧ H ≤ 16) ∧ (1 ≤ P ∧ P ≤ 4) ∧ ∀ x y p, x < W → y < H → p < P → 0 ≤ F x y p ∧ F x y p ≤ 255
section
variable {W H P : Nat} {F : Nat → Nat → Nat → Int}
theorem okI.vim (h : okI W H P F) : vim W H P (img W H P F) = true := vim_img h.1.1 h.1.2 h.2.1.1 h.2.1.2 h.2.2.1.1 h.2.2.1.2 h.2.2.2
theorem okI.bd (h : okI W H P F) : (img W H P F).length ≤ 1024 := img_bd F h.1.2 h.2.1.2 h.2.2.1.2
theorem okI.mir (h : okI W H P F) : okI W H P (fun x y => F (W - 1 - x) y) := ⟨h.1, h.2.1, h.2.2.1, fun x y p hx hy hp => h.2.2.2 _ _ _ (by omega) hy hp⟩
theorem okI.trn (h : okI W H P F) : okI H W P (fun x y => F y x) := ⟨h.2.1, h.1, h.2.2.1, fun x y p hx hy hp => h.2.2.2 _ _ _ hy hx hp⟩
theorem okI.tur (h : okI W H P F) (k : Nat) : okI (tdim W H k).1 (tdim W H k).2 P (tfun W H F k) := by
  induction k with
  | zero => exact h
  | succ k ih => exact ⟨ih.2.1, ih.1, ih.2.2.1, fun x y p hx hy hp => ih.2.2.2 _ _ _ hy (by have : x < (tdim W H k).2 := hx; omega) hp⟩
theorem tfun_congr {F G : Nat → Nat → Nat → Int} (h : ∀ x y p, x < W → y < H → p < P → F x y p = G x y p) (k : Nat) : ∀ x y p, x < (tdim W H k).1 → y < (tdim W H k).2 → p < P → tfun W H F k x y p = tfun W H G k x y p := by
  induction k with
  | zero => exact h
  | succ k ih => intro x y p hx hy hp; exact ih _ _ _ hy (by have : x < (tdim W H k).2 := hx; omega) hp
theorem tur_img (k : Nat) : turL W H P (img W H P F) k = img (tdim W H k).1 (tdim W H k).2 P (tfun W H F k) :=
  img_ext (tfun_congr (fun x y p hx hy hp => img_pxc2 F hx hy hp) k)
/-- A valid image is one of a function. -/
theorem vim_ok {W H P : Int} {xs : List Int} (h : Go.Proofs.Ytjgcondkoaegnaa.vim W H P xs = true) : ∃ (w h p : Nat) (F : Nat → Nat → Nat → Int), W = w ∧ H = h ∧ P = p ∧ xs = img w h p F ∧ okI w h p F := by
  obtain ⟨W, H, P, rfl, rfl, rfl, hW1, hW, hH1, hH, hP1, hP, hln, hby⟩ := vim_nat h
  exact ⟨W, H, P, pxc W P xs, rfl, rfl, rfl, (img_self hln).symm, ⟨hW1, hW⟩, ⟨hH1, hH⟩, ⟨hP1, hP⟩, pxc_bytes hln hby⟩
theorem iT_I (h : okI W H P F) (k : Nat) (hk : k ≤ 3) : ImC1 22 k W H P (img W H P F) (tdim W H k).1 (tdim W H k).2 P (img (tdim W H k).1 (tdim W H k).2 P (tfun W H F k)) := by
  have hc := iT_tur W H P k (img W H P F) (by have := h.bd; omega)
  have hq : inQ (k : Int) = true := decide_eq_true (by omega)
  rw [h.vim, hq] at hc
  have hc' : ImC1 22 k W H P (img W H P F) (tdim W H k).1 (tdim W H k).2 P (turL W H P (img W H P F) k) := hc
  rwa [tur_img] at hc'
theorem iP_I (h : okI W H P F) (a b : Nat) (ha : a < W) (hb : b < H) : PxC 20 W H P (img W H P F) a b ((List.range P).map (F a b)) := by
  have hc := i_px W H P a b (img W H P F) (by have := h.bd; omega)
  rwa [pxv_img h.vim ha hb] at hc
theorem F3 (F : Nat → Nat → Nat → Int) {a b c d p : Nat} (h1 : a = c) (h2 : b = d) : F a b p = F c d p := by rw [h1, h2]
theorem F2 (F : Nat → Nat → Nat → Int) {a b c d : Nat} (h1 : a = c) (h2 : b = d) : F a b = F c d := by rw [h1, h2]
theorem tdim0 : tdim W H 0 = (W, H) := rfl
theorem tdim1 : tdim W H 1 = (H, W) := rfl
theorem tdim2 : tdim W H 2 = (W, H) := rfl
theorem tdim3 : tdim W H 3 = (H, W) := rfl
theorem tfun0 : tfun W H F 0 = F := rfl
theorem tfun1 : tfun W H F 1 = fun x y => F y (H - 1 - x) := rfl
theorem tfun2 : tfun W H F 2 = fun x y => F (W - 1 - x) (H - 1 - y) := rfl
theorem tfun3 : tfun W H F 3 = fun x y => F (W - 1 - y) (H - 1 - (H - 1 - x)) := rfl
end
end Go.Proofs.Ytjgcondkoaegnaa
