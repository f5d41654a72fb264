/- Facts of pasted parts that the laws need. -/
import Derived.Test.YtlllofbicomjgaaImgC
import Derived.Test.YtlllofbicomjgaaPasteL
import Derived.Test.YtlllofbicomjgaaPasteS
namespace Go.Proofs.Ytlllofbicomjgaa
open Go.RowKit Go.Shelf
set_option linter.unusedSimpArgs false
set_option linter.unusedVariables false

theorem LSt.box2 {W0 w : World} {R : List (Option Addr × List Int)} {Bs : List Bxs} (h : LSt W0 w R Bs) (T : TypeId) (cs : Array Value) (g : Nat) (hg : g = w.heap.size) : LSt W0 (w.alloc (.cells cs T)) R (⟨g, T, cs⟩ :: Bs) := by
  subst hg; exact h.box T cs
def PaC (f : FuncId) (W H P : Int) (xs : List Int) (x y : Int) (W' H' P' : Int) (ps : List Int) (X Y Z : Int) (ys : List Int) (ok : Bool) : Prop :=
  ∀ (A : Option Addr) (c : Nat) (A' : Option Addr) (c' : Nat) (w : World), Rds .i64 w w.heap.size A xs → xs.length ≤ c → Rds .i64 w w.heap.size A' ps → ps.length ≤ c' → Calls Try.prog f #[.agg #[.int .i64 W, .int .i64 H, .int .i64 P, .slice A xs.length c], .int .i64 x, .int .i64 y, .agg #[.int .i64 W', .int .i64 H', .int .i64 P', .slice A' ps.length c']] w (ShIB X Y Z ys ok w)
theorem PaC.use {f : FuncId} {W H P : Int} {xs : List Int} {x y W' H' P' : Int} {ps : List Int} {X Y Z : Int} {ys : List Int} {ok : Bool} (h : Hid (PaC f W H P xs x y W' H' P' ps X Y Z ys ok)) (A : Option Addr) (c : Nat) (A' : Option Addr) (c' : Nat) (w : World) (hr : Rds .i64 w w.heap.size A xs) (hc : xs.length ≤ c) (hr' : Rds .i64 w w.heap.size A' ps) (hc' : ps.length ≤ c') : Calls Try.prog f #[.agg #[.int .i64 W, .int .i64 H, .int .i64 P, .slice A xs.length c], .int .i64 x, .int .i64 y, .agg #[.int .i64 W', .int .i64 H', .int .i64 P', .slice A' ps.length c']] w (ShIB X Y Z ys ok w) := h.out A c A' c' w hr hc hr' hc'
theorem iPa_C (W H P : Int) (xs : List Int) (hx : xs.length ≤ 2000) (x y PW PH PP : Int) (ps : List Int) (hp : ps.length ≤ 2000) : PaC 18 W H P xs x y PW PH PP ps (cond (pasteOk W H P xs x y PW PH PP ps) W 0) (cond (pasteOk W H P xs x y PW PH PP ps) H 0) (cond (pasteOk W H P xs x y PW PH PP ps) P 0) (cond (pasteOk W H P xs x y PW PH PP ps) (pasteL W.toNat H.toNat P.toNat xs x y PW.toNat PH.toNat ps) []) (pasteOk W H P xs x y PW PH PP ps) :=
  fun A c A' c' w hr hc hr' hc' => (by first | exact i_PasteImage W H P x y PW PH PP A A' c c' xs ps w hr (by omega) hc hr' (by omega) hc' | exact s_PasteImage W H P x y PW PH PP A A' c c' xs ps w hr (by omega) hc hr' (by omega) hc' : Calls _ _ _ _ _).mono fun _ _ h => SetR.sh h
theorem sPa_C (W H P : Int) (xs : List Int) (hx : xs.length ≤ 2000) (x y PW PH PP : Int) (ps : List Int) (hp : ps.length ≤ 2000) : PaC 16 W H P xs x y PW PH PP ps (cond (pasteOk W H P xs x y PW PH PP ps) W 0) (cond (pasteOk W H P xs x y PW PH PP ps) H 0) (cond (pasteOk W H P xs x y PW PH PP ps) P 0) (cond (pasteOk W H P xs x y PW PH PP ps) (pasteL W.toNat H.toNat P.toNat xs x y PW.toNat PH.toNat ps) []) (pasteOk W H P xs x y PW PH PP ps) :=
  fun A c A' c' w hr hc hr' hc' => (by first | exact i_PasteImage W H P x y PW PH PP A A' c c' xs ps w hr (by omega) hc hr' (by omega) hc' | exact s_PasteImage W H P x y PW PH PP A A' c c' xs ps w hr (by omega) hc hr' (by omega) hc' : Calls _ _ _ _ _).mono fun _ _ h => SetR.sh h
/-- An image's numbers are bytes, its shape is valid. -/
def okJ (W H P : Nat) (F : Nat → Nat → Nat → Int) : Prop := (1 ≤ W ∧ W ≤ 16) ∧ (1 ≤ H ∧ H ≤ 16) ∧ (1 ≤ P ∧ P ≤ 4) ∧ ∀ x y p, x < W → y < H → p < P → 0 ≤ F x y p ∧ F x y p ≤ 255
section
variable {W H P : Nat} {F : Nat → Nat → Nat → Int}
theorem okJ.vim (h : okJ W H P F) : vim W H P (img W H P F) = true := vim_img h.1.1 h.1.2 h.2.1.1 h.2.1.2 h.2.2.1.1 h.2.2.1.2 h.2.2.2
theorem okJ.bd (h : okJ W H P F) : (img W H P F).length ≤ 1024 := img_bd F h.1.2 h.2.1.2 h.2.2.1.2
theorem okJ.crop {X0 Y0 bw bh : Nat} (h : okJ W H P F) (h1 : 1 ≤ bw) (h2 : 1 ≤ bh) (hX : X0 + bw ≤ W) (hY : Y0 + bh ≤ H) : okJ bw bh P (fun x y => F (X0 + x) (Y0 + y)) :=
  ⟨⟨h1, by have := h.1.2; omega⟩, ⟨h2, by have := h.2.1.2; omega⟩, h.2.2.1, fun x y p hx hy hp => h.2.2.2 _ _ _ (by omega) (by omega) hp⟩
theorem vim_okJ {W H P : Int} {xs : List Int} (h : Go.Proofs.Ytlllofbicomjgaa.vim W H P xs = true) : ∃ (w h p : Nat) (F : Nat → Nat → Nat → Int), W = w ∧ H = h ∧ P = p ∧ xs = img w h p F ∧ okJ w h p F := by
  obtain ⟨w, h, p, F, h1, h2, h3, h4, h5⟩ := vim_ok' h
  exact ⟨w, h, p, F, h1, h2, h3, h4, h5⟩
theorem paF_bytes {PW PH : Nat} {G : Nat → Nat → Nat → Int} {X Y : Int} (h : okJ W H P F) (hg : okJ PW PH P G) : okJ W H P (paF G F X Y PW PH 0) :=
  ⟨h.1, h.2.1, h.2.2.1, fun x y p hx hy hp => by
    unfold paF
    split
    · next c => exact hg.2.2.2 _ _ _ (by omega) (by omega) hp
    · exact h.2.2.2 _ _ _ hx hy hp⟩
theorem iPa_I {PW PH : Nat} {G : Nat → Nat → Nat → Int} {X Y : Int} (h : okJ W H P F) (hg : okJ PW PH P G) (hX : -16 ≤ X ∧ X ≤ 16) (hY : -16 ≤ Y ∧ Y ≤ 16) :
    PaC 18 W H P (img W H P F) X Y PW PH P (img PW PH P G) W H P (img W H P (paF G F X Y PW PH 0)) true := by
  have ho : pasteOk W H P (img W H P F) X Y PW PH P (img PW PH P G) = true := by
    unfold pasteOk
    rw [h.vim, hg.vim, decide_eq_true hX, decide_eq_true hY, decide_eq_true rfl]; rfl
  have hc := iPa_C W H P (img W H P F) (by have := h.bd; omega) X Y PW PH P (img PW PH P G) (by have := hg.bd; omega)
  rw [ho] at hc
  have hc' : PaC 18 W H P (img W H P F) X Y PW PH P (img PW PH P G) W H P (pasteL W H P (img W H P F) X Y PW PH (img PW PH P G)) true := hc
  have e : pasteL W H P (img W H P F) X Y PW PH (img PW PH P G) = img W H P (paF G F X Y PW PH 0) := by
    unfold pasteL
    refine img_ext fun x y p hx hy hp => ?_
    unfold paF
    split
    · next c => exact img_px (H := PH) G (by omega) (by omega) hp
    · exact img_px (H := H) F hx hy hp
  rwa [e] at hc'
theorem sPa_I {PW PH : Nat} {G : Nat → Nat → Nat → Int} {X Y : Int} (h : okJ W H P F) (hg : okJ PW PH P G) (hX : -16 ≤ X ∧ X ≤ 16) (hY : -16 ≤ Y ∧ Y ≤ 16) :
    PaC 16 W H P (img W H P F) X Y PW PH P (img PW PH P G) W H P (img W H P (paF G F X Y PW PH 0)) true := by
  have ho : pasteOk W H P (img W H P F) X Y PW PH P (img PW PH P G) = true := by
    unfold pasteOk
    rw [h.vim, hg.vim, decide_eq_true hX, decide_eq_true hY, decide_eq_true rfl]; rfl
  have hc := sPa_C W H P (img W H P F) (by have := h.bd; omega) X Y PW PH P (img PW PH P G) (by have := hg.bd; omega)
  rw [ho] at hc
  have hc' : PaC 16 W H P (img W H P F) X Y PW PH P (img PW PH P G) W H P (pasteL W H P (img W H P F) X Y PW PH (img PW PH P G)) true := hc
  have e : pasteL W H P (img W H P F) X Y PW PH (img PW PH P G) = img W H P (paF G F X Y PW PH 0) := by
    unfold pasteL
    refine img_ext fun x y p hx hy hp => ?_
    unfold paF
    split
    · next c => exact img_px (H := PH) G (by omega) (by omega) hp
    · exact img_px (H := H) F hx hy hp
  rwa [e] at hc'
theorem iP_J {a b : Nat} (h : okJ W H P F) (ha : a < W) (hb : b < H) : PxC 27 W H P (img W H P F) a b ((List.range P).map (F a b)) := by
  have hc : PxC 27 W H P (img W H P F) a b (pxv W H P (img W H P F) a b) := fun A c w hr hc => i_PixelAt W H P A c _ a b w hr (by have := h.bd; omega) hc
  rwa [pxv_img h.vim ha hb] at hc
end
theorem cro_law (W H P : Int) (xs : List Int) (hx : xs.length ≤ 256) (bx by_ bw bh : Int) : ∃ (X Y Z : Int) (ys : List Int) (ok : Bool), ys.length ≤ 2000 ∧ Hid (CrC 23 W H P xs bx by_ bw bh X Y Z ys ok) ∧ Hid (CrC 24 W H P xs bx by_ bw bh X Y Z ys ok) ∧
    (ok = false ∨ (ok = true ∧ bw = X ∧ bh = Y ∧ Hid (PaC 18 W H P xs bx by_ X Y Z ys W H P xs true) ∧ ∃ q : List Int, q.length ≤ 4 ∧ Hid (PxC 27 X Y Z ys (bw - 1) (bh - 1) q) ∧ Hid (PxC 27 W H P xs (bx + bw - 1) (by_ + bh - 1) q))) := by
  have h1 := iC_C W H P xs (by omega) bx by_ bw bh
  have h2 := sC_C W H P xs (by omega) bx by_ bw bh
  cases ho : cropOk W H P xs bx by_ bw bh
  · rw [ho] at h1 h2
    exact ⟨_, _, _, _, _, by simp, Lib.hid h1, Lib.hid h2, .inl rfl⟩
  · rw [ho] at h1 h2
    have ho' := ho
    unfold cropOk at ho'
    rw [Bool.and_eq_true] at ho'
    obtain ⟨W, H, P, F, rfl, rfl, rfl, rfl, ok⟩ := vim_okJ ho'.1
    obtain ⟨X0, Y0, bw, bh, rfl, rfl, rfl, rfl, hbw, hbh, hXw, hYh⟩ := fit_nat ho'.2
    have h1' : CrC 23 W H P (img W H P F) X0 Y0 bw bh bw bh P (cropL W P (img W H P F) X0 Y0 bw bh) true := h1
    have h2' : CrC 24 W H P (img W H P F) X0 Y0 bw bh bw bh P (cropL W P (img W H P F) X0 Y0 bw bh) true := h2
    rw [crop_img F hXw hYh] at h1' h2'
    have okc := ok.crop hbw hbh hXw hYh
    refine ⟨_, _, _, _, _, by have := okc.bd; omega, Lib.hid h1', Lib.hid h2', .inr ⟨rfl, rfl, rfl, Lib.hid ?_, (List.range P).map (F (X0 + bw - 1) (Y0 + bh - 1)), by simp; exact ok.2.2.1.2, Lib.hid ?_, Lib.hid ?_⟩⟩
    · have h := iPa_I (X := X0) (Y := Y0) ok okc (by have := ok.1.2; omega) (by have := ok.2.1.2; omega)
      have e : img W H P (paF (fun x y => F (X0 + x) (Y0 + y)) F X0 Y0 bw bh 0) = img W H P F := img_ext fun x y p hx hy hp => by
        unfold paF
        split
        · next c =>
          show F (X0 + ((x : Int) - X0).toNat) (Y0 + ((y : Int) - Y0).toNat) p = F x y p
          rw [show X0 + ((x : Int) - X0).toNat = x by omega, show Y0 + ((y : Int) - Y0).toNat = y by omega]
        · rfl
      rw [e] at h
      exact h
    · have h := iP_J (a := bw - 1) (b := bh - 1) okc (by omega) (by omega)
      have e1 : (bw : Int) - 1 = ((bw - 1 : Nat) : Int) := by omega
      have e2 : (bh : Int) - 1 = ((bh - 1 : Nat) : Int) := by omega
      have e3 : X0 + (bw - 1) = X0 + bw - 1 := by omega
      have e4 : Y0 + (bh - 1) = Y0 + bh - 1 := by omega
      rw [e1, e2]
      rw [e3, e4] at h
      exact h
    · have h := iP_J (a := X0 + bw - 1) (b := Y0 + bh - 1) ok (by omega) (by omega)
      have e1 : (X0 : Int) + bw - 1 = ((X0 + bw - 1 : Nat) : Int) := by omega
      have e2 : (Y0 : Int) + bh - 1 = ((Y0 + bh - 1 : Nat) : Int) := by omega
      rw [e1, e2]
      exact h
end Go.Proofs.Ytlllofbicomjgaa
