/- What the laws of convolved images need. -/
import Derived.Test.YtjgcondkoaegnaaCvlL
import Derived.Test.YtjgcondkoaegnaaMgE
import Derived.Test.YtjgcondkoaegnaaFimL
namespace Go.Proofs.Ytjgcondkoaegnaa
open Go.RowKit Go.Shelf
set_option linter.unusedSimpArgs false
set_option linter.unusedVariables false

/-- ConvolveImage's contract, its answer in letters. -/
def CvC (f : FuncId) (W H P : Int) (xs : List Int) (R D : Int) (ks : List Int) (X Y Z : Int) (ys : List Int) : Prop :=
  ∀ (A : Option Addr) (c : Nat) (A2 : Option Addr) (c2 : Nat) (w : World), Rds .i64 w w.heap.size A xs → xs.length ≤ c → Rds .i64 w w.heap.size A2 ks → Calls Try.prog f #[.agg #[.int .i64 W, .int .i64 H, .int .i64 P, .slice A xs.length c], .agg #[.int .i64 R, .slice A2 ks.length c2, .int .i64 D]] w (ShI X Y Z ys w)
theorem CvC.use {f : FuncId} {W H P : Int} {xs : List Int} {R D : Int} {ks : List Int} {X Y Z : Int} {ys : List Int} (h : Hid (CvC f W H P xs R D ks X Y Z ys)) (A : Option Addr) (c : Nat) (A2 : Option Addr) (c2 : Nat) (w : World) (hr : Rds .i64 w w.heap.size A xs) (hc : xs.length ≤ c) (hk : Rds .i64 w w.heap.size A2 ks) : Calls Try.prog f #[.agg #[.int .i64 W, .int .i64 H, .int .i64 P, .slice A xs.length c], .agg #[.int .i64 R, .slice A2 ks.length c2, .int .i64 D]] w (ShI X Y Z ys w) := h.out A c A2 c2 w hr hc hk
theorem CvC.use' {f : FuncId} {W H P : Int} {xs : List Int} {R D : Int} {ks : List Int} {X Y Z : Int} {ys : List Int} (h : Hid (CvC f W H P xs R D ks X Y Z ys)) (A : Option Addr) (c : Nat) (A2 : Option Addr) (c2 n : Nat) (w : World) (hn : n = ks.length) (hr : Rds .i64 w w.heap.size A xs) (hc : xs.length ≤ c) (hk : Rds .i64 w w.heap.size A2 ks) : Calls Try.prog f #[.agg #[.int .i64 W, .int .i64 H, .int .i64 P, .slice A xs.length c], .agg #[.int .i64 R, .slice A2 n c2, .int .i64 D]] w (ShI X Y Z ys w) := by
  subst hn; exact h.out A c A2 c2 w hr hc hk
theorem rds_lit (w : World) (xs : List Int) (cs : Array Value) (h : cs = (xs.map (.int .i64)).toArray) : Rds .i64 (w.alloc (.cells cs 3)) (w.heap.size + 1) (some ⟨w.heap.size, 0, none⟩) xs := .inr ⟨_, _, rfl, by omega, fun j hj => by
  rw [Nat.zero_add, cell_of_row _ _ j _ _ _ (heap_alloc_new w _), h]
  simp [List.getD_eq_getElem?_getD, hj]⟩
theorem cvi_C (W H P : Int) (xs : List Int) (R D : Int) (ks : List Int) (hx : xs.length ≤ 2000) (hk : ks.length ≤ 2000) : CvC 11 W H P xs R D ks (cond (cvOk W H P xs R ks D) W 0) (cond (cvOk W H P xs R ks D) H 0) (cond (cvOk W H P xs R ks D) P 0) (cond (cvOk W H P xs R ks D) (cvL W.toNat H.toNat P.toNat xs R.toNat ks D.toNat) []) :=
  fun A c A2 c2 w h1 h2 h3 => (i_ConvolveImage W H P A c xs R D A2 c2 ks w h1 (by omega) h2 h3 (by omega)).mono fun _ _ h => mif_sh h rfl rfl rfl rfl
theorem cvs_C (W H P : Int) (xs : List Int) (R D : Int) (ks : List Int) (hx : xs.length ≤ 2000) (hk : ks.length ≤ 2000) : CvC 8 W H P xs R D ks (cond (cvOk W H P xs R ks D) W 0) (cond (cvOk W H P xs R ks D) H 0) (cond (cvOk W H P xs R ks D) P 0) (cond (cvOk W H P xs R ks D) (cvL W.toNat H.toNat P.toNat xs R.toNat ks D.toNat) []) :=
  fun A c A2 c2 w h1 h2 h3 => (s_ConvolveImage W H P A c xs R D A2 c2 ks w h1 (by omega) h2 h3 (by omega)).mono fun _ _ h => mif_sh h rfl rfl rfl rfl
section
variable {W H P : Nat} {F : Nat → Nat → Nat → Int} {R D : Nat} {ks : List Int}
theorem okI.cv (h : okI W H P F) : okI W H P (fun x y p => cvV (fun a b => F a b p) W H R ks D x y) := ⟨h.1, h.2.1, h.2.2.1, fun x y p _ _ _ => cvV_bd _ _ _ _ _ _ _ _⟩
theorem cv_img (h : okI W H P F) : cvL W H P (img W H P F) R ks D = img W H P (fun x y p => cvV (fun a b => F a b p) W H R ks D x y) := by
  unfold cvL
  exact img_ext fun x y p _ _ hp => cvV_congr h.1.1 h.2.1.1 (fun a b ha hb => img_px F ha hb hp) x y
/-- The contract at a valid image and a valid kernel. -/
theorem cvi_I (h : okI W H P F) (hk : knOk R ks D = true) (hl : ks.length ≤ 2000) : CvC 11 W H P (img W H P F) R D ks W H P (img W H P (fun x y p => cvV (fun a b => F a b p) W H R ks D x y)) := by
  have h1 := cvi_C W H P (img W H P F) R D ks (by have := h.bd; omega) hl
  have ho : cvOk W H P (img W H P F) R ks D = true := by unfold cvOk; rw [h.vim, hk]; rfl
  rw [ho] at h1
  have h2 : CvC 11 W H P (img W H P F) R D ks W H P (cvL W H P (img W H P F) R ks D) := h1
  rw [cv_img h] at h2
  exact h2
end
theorem knOk_one : knOk 0 [1] 1 = true := by decide
theorem knOk_box : knOk 1 [1, 1, 1, 1, 1, 1, 1, 1, 1] 9 = true := by decide
theorem cvt_law (W H P : Int) (xs : List Int) (R D : Int) (ks : List Int) (hx : xs.length ≤ 256) (hkl : ks.length ≤ 25) : ∃ (X Y Z : Int) (ys : List Int), ys.length ≤ 2000 ∧ Hid (CvC 11 W H P xs R D ks X Y Z ys) ∧ Hid (CvC 8 W H P xs R D ks X Y Z ys) ∧
    (X = 0 ∨ (¬ X = 0 ∧ ∃ (X1 Y1 Z1 : Int) (al bl cl : List Int), al.length ≤ 2000 ∧ bl.length ≤ 2000 ∧ cl.length ≤ 2000 ∧ Hid (ImC1 22 1 W H P xs X1 Y1 Z1 al) ∧ Hid (CvC 11 X1 Y1 Z1 al 1 9 [1, 1, 1, 1, 1, 1, 1, 1, 1] X1 Y1 Z1 bl) ∧ Hid (CvC 11 W H P xs 1 9 [1, 1, 1, 1, 1, 1, 1, 1, 1] W H P cl) ∧ Hid (ImC1 22 1 W H P cl X1 Y1 Z1 bl))) := by
  have h1 := cvi_C W H P xs R D ks (by omega) (by omega)
  have h2 := cvs_C W H P xs R D ks (by omega) (by omega)
  cases hk : cvOk W H P xs R ks D
  · rw [hk] at h1 h2
    exact ⟨_, _, _, _, by simp, Lib.hid h1, Lib.hid h2, .inl rfl⟩
  · rw [hk] at h1 h2
    unfold cvOk at hk
    rw [Bool.and_eq_true] at hk
    obtain ⟨W, H, P, F, rfl, rfl, rfl, rfl, ok⟩ := vim_ok hk.1
    obtain ⟨R, D, rfl, rfl, _⟩ := knOk_nat hk.2
    have okT : okI H W P (fun x y => F y (H - 1 - x)) := ok.tur 1
    have hT : ImC1 22 1 W H P (img W H P F) H W P (img H W P (fun x y => F y (H - 1 - x))) := iT_I ok 1 (by omega)
    have okC := ok.cv (R := 1) (D := 9) (ks := [1, 1, 1, 1, 1, 1, 1, 1, 1])
    have hT2 : ImC1 22 1 W H P (img W H P (fun x y p => cvV (fun a b => F a b p) W H 1 [1, 1, 1, 1, 1, 1, 1, 1, 1] 9 x y)) H W P (img H W P (fun x y p => cvV (fun a b => F a b p) W H 1 [1, 1, 1, 1, 1, 1, 1, 1, 1] 9 y (H - 1 - x))) := iT_I okC 1 (by omega)
    have hC1 := cvi_I okT (R := 1) (D := 9) knOk_box (by simp)
    have hC2 := cvi_I ok (R := 1) (D := 9) knOk_box (by simp)
    have e : img H W P (fun x y p => cvV (fun a b => F b (H - 1 - a) p) H W 1 [1, 1, 1, 1, 1, 1, 1, 1, 1] 9 x y) = img H W P (fun x y p => cvV (fun a b => F a b p) W H 1 [1, 1, 1, 1, 1, 1, 1, 1, 1] 9 y (H - 1 - x)) :=
      img_ext fun x y p hx hy _ => cvV_turn (f := fun a b => F a b p) ok.1.1 ok.2.1.1 hx hy
    rw [e] at hC1
    have hyl : (cvL W H P (img W H P F) R ks D).length ≤ 2000 := by rw [cv_img ok]; have := (ok.cv (R := R) (D := D) (ks := ks)).bd; omega
    exact ⟨_, _, _, _, hyl, Lib.hid h1, Lib.hid h2, .inr ⟨by have := ok.1.1; show ¬ (W : Int) = 0; omega, _, _, _, _, _, _, by have := okT.bd; omega, by rw [← e]; have := (okT.cv (R := 1) (D := 9) (ks := [1, 1, 1, 1, 1, 1, 1, 1, 1])).bd; omega, by have := okC.bd; omega, Lib.hid hT, Lib.hid hC1, Lib.hid hC2, Lib.hid hT2⟩⟩
/-- FillImage's answer owns its numbers. -/
def FilO (f : FuncId) (W H : Int) (q : List Int) (X Y Z : Int) (ys : List Int) : Prop :=
  ∀ (A : Option Addr) (c : Nat) (w : World), Rds .i64 w w.heap.size A q → q.length ≤ c → Calls Try.prog f #[.int .i64 W, .int .i64 H, .slice A q.length c] w (MadeI X Y Z ys w)
theorem iFO_I {w h : Nat} {q : List Int} (ok : okI w h q.length (fun _ _ p => q.getD p 0)) : FilO 19 w h q w h q.length (img w h q.length (fun _ _ p => q.getD p 0)) := fun A c u hr hc => by
  have h1 := i_FillImage w h A c q u hr (by have := ok.2.2.1; omega)
  rw [fillOk_of ok] at h1
  exact h1
theorem LSt.addBx {W0 u : World} {R : List (Option Addr × List Int)} {Bs : List Bxs} (h : LSt W0 u R Bs) {g : Nat} {T : TypeId} {cs : Array Value} (hX : Bx u g T cs) : LSt W0 u R (⟨g, T, cs⟩ :: Bs) :=
  ⟨h.1, h.2.1, fun b hm => by
    rcases List.mem_cons.1 hm with rfl | hm
    · exact hX
    · exact h.2.2 b hm⟩
theorem rds_bx1 {u : World} {g : Nat} {z : Int} (h : Bx u g 3 #[.int .i64 z]) : Rds .i64 u u.heap.size (some ⟨g, 0, none⟩) [z] := .inr ⟨_, _, rfl, h.lt, fun j hj => by
  have hj0 : j = 0 := by simpa using hj
  subst hj0
  exact cell_of_row u g 0 _ _ _ h⟩
theorem bx_put4C {w : World} {b : Nat} {T : TypeId} {cs : Array Value} {a0 a1 a2 a3 : Value} (h : Bx w b T #[a0, a1, a2, a3]) (c0 c1 c2 c3 : Value) : Bx ((((w.setCell ⟨b, 0, none⟩ c0).setCell ⟨b, 1, none⟩ c1).setCell ⟨b, 2, none⟩ c2).setCell ⟨b, 3, none⟩ c3) b T #[c0, c1, c2, c3] := by
  have h1 := heap_setCell_same w b 0 _ T c0 h
  have h2 := heap_setCell_same _ b 1 _ T c1 h1
  have h3 := heap_setCell_same _ b 2 _ T c2 h2
  have h4 := heap_setCell_same _ b 3 _ T c3 h3
  simpa [Bx] using h4
theorem hsetC (r : Nat) (u : World) (i : Nat) (x : Value) : u.grownBy (u.setCell ⟨r, i, none⟩ x) (some r) := ⟨rfl, rfl, rfl, by simp [World.setCell], fun k _ hk => heap_setCell_other u ⟨r, i, none⟩ k x (fun e => hk (by simp [e]))⟩
/-- The box was made before FillImage answered, and is filled. -/
theorem fim_fillA {W0 v u : World} {R : List (Option Addr × List Int)} {Bs : List Bxs} {g base n c : Nat} {A : Option Addr} {ys : List Int} {T : TypeId} {a0 a1 a2 a3 : Value} (h0 : LSt W0 v R Bs) (hB : Below v.heap.size v u) (hX : Bx u g T #[a0, a1, a2, a3]) (hg : v.heap.size ≤ g) (hO : Own u base (.slice A n c) ys) (hgb : g < base) (c0 c1 c2 c3 : Value) :
    LSt W0 ((((u.setCell ⟨g, 0, none⟩ c0).setCell ⟨g, 1, none⟩ c1).setCell ⟨g, 2, none⟩ c2).setCell ⟨g, 3, none⟩ c3) ((A, ys) :: R) (⟨g, T, #[c0, c1, c2, c3]⟩ :: Bs) := by
  have hG := gtrans (gtrans (gtrans (hsetC g u 0 c0) (hsetC g _ 1 c1)) (hsetC g _ 2 c2)) (hsetC g _ 3 c3)
  have hB2 := hB.grown hG hB.size (fun k hk => by injection hk with hk; omega)
  exact ((h0.call hB2).add (hO.keep fun k hk => hG.block k (hO.lt k hk).2 (fun e => by have := (hO.lt k hk).1; injection e with e; omega)).rds.2).addBx (bx_put4C (cs := #[]) hX c0 c1 c2 c3)
/-- The box is made behind the answer. -/
theorem fim_fillB {W0 v u : World} {R : List (Option Addr × List Int)} {Bs : List Bxs} {base n c : Nat} {A : Option Addr} {ys : List Int} (T : TypeId) (cs : Array Value) (h0 : LSt W0 v R Bs) (hB : Below v.heap.size v u) (hO : Own u base (.slice A n c) ys) :
    LSt W0 (u.alloc (.cells cs T)) ((A, ys) :: R) (⟨u.heap.size, T, cs⟩ :: Bs) :=
  ((h0.call hB).add hO.rds.2).box T cs
theorem cvc_law (W H P : Int) (xs : List Int) (R D : Int) (ks : List Int) (hx : xs.length ≤ 256) (hkl : ks.length ≤ 25) : ∃ (X Y Z : Int) (ys : List Int), ys.length ≤ 2000 ∧ Hid (CvC 11 W H P xs R D ks X Y Z ys) ∧ Hid (CvC 8 W H P xs R D ks X Y Z ys) ∧
    (X = 0 ∨ (¬ X = 0 ∧ ∃ (q fl gl : List Int), q.length ≤ 2000 ∧ fl.length ≤ 2000 ∧ gl.length ≤ 2000 ∧ Hid (PxC 20 W H P xs 0 0 q) ∧ Hid (FilO 19 W H q W H P fl) ∧ Hid (CvC 11 W H P fl R D ks W H P gl) ∧
      Hid (∀ (A : Option Addr) (c : Nat) (u : World), Rds .i64 u u.heap.size A gl → gl.length ≤ c → Calls Try.prog 21 #[.agg #[.int .i64 W, .int .i64 H, .int .i64 P, .slice A gl.length c]] u fun e w' => ∃ (A2 : Option Addr) (c2 : Nat), e = .returned (.tuple #[.slice A2 1 c2, .bool true]) ∧ 1 ≤ c2 ∧ Below u.heap.size u w') ∧
      Hid (CvC 11 W H P xs 0 1 [1] W H P xs))) := by
  have h1 := cvi_C W H P xs R D ks (by omega) (by omega)
  have h2 := cvs_C W H P xs R D ks (by omega) (by omega)
  cases hk : cvOk W H P xs R ks D
  · rw [hk] at h1 h2
    exact ⟨_, _, _, _, by simp, Lib.hid h1, Lib.hid h2, .inl rfl⟩
  · rw [hk] at h1 h2
    unfold cvOk at hk
    rw [Bool.and_eq_true] at hk
    obtain ⟨W, H, P, F, rfl, rfl, rfl, rfl, ok⟩ := vim_ok hk.1
    have hkn := hk.2
    obtain ⟨R, D, rfl, rfl, _⟩ := knOk_nat hk.2
    have hyl : (cvL W H P (img W H P F) R ks D).length ≤ 2000 := by rw [cv_img ok]; have := (ok.cv (R := R) (D := D) (ks := ks)).bd; omega
    have hP := iP_I ok 0 0 ok.1.1 ok.2.1.1
    have hql : ((List.range P).map (F 0 0)).length = P := by simp
    obtain ⟨q, hq⟩ : ∃ q, q = (List.range P).map (F 0 0) := ⟨_, rfl⟩
    rw [← hq] at hP hql
    have hqg : ∀ p, p < P → q.getD p 0 = F 0 0 p := fun p hp => by rw [hq]; simp [List.getD_eq_getElem?_getD, hp]
    subst hql
    have okF : okI W H q.length (fun _ _ p => q.getD p 0) := ⟨ok.1, ok.2.1, ok.2.2.1, fun x y p _ _ hp => by show 0 ≤ q.getD p 0 ∧ q.getD p 0 ≤ 255; rw [hqg p hp]; exact ok.2.2.2 0 0 p ok.1.1 ok.2.1.1 hp⟩
    have hF := iFO_I okF
    have hC := cvi_I okF hkn (by omega)
    obtain ⟨r, hr⟩ : ∃ r, r = (List.range q.length).map (fun p => cvV (fun _ _ => q.getD p 0) W H R ks D 0 0) := ⟨_, rfl⟩
    have hrl : r.length = q.length := by rw [hr]; simp
    have hrg : ∀ p, p < q.length → r.getD p 0 = cvV (fun _ _ => q.getD p 0) W H R ks D 0 0 := fun p hp => by rw [hr]; simp [List.getD_eq_getElem?_getD, hp]
    have e : img W H q.length (fun x y p => cvV (fun _ _ => q.getD p 0) W H R ks D x y) = img W H r.length (fun _ _ p => r.getD p 0) := by
      rw [hrl]
      exact img_ext fun x y p _ _ hp => by rw [hrg p hp]; exact cvV_const _ x y
    have okR : okI W H r.length (fun _ _ p => r.getD p 0) := ⟨ok.1, ok.2.1, by rw [hrl]; exact ok.2.2.1, fun x y p _ _ hp => by show 0 ≤ r.getD p 0 ∧ r.getD p 0 ≤ 255; rw [hrg p (by omega)]; exact cvV_bd _ _ _ _ _ _ _ _⟩
    rw [e] at hC
    have hN : 1 ≤ W * H := Nat.mul_pos ok.1.1 ok.2.1.1
    have hac := fil_acL (w := W) (h := H) (q := r) (W * H) (Nat.le_refl _)
    rw [if_neg (by omega)] at hac
    have hok : palOk W H r.length (img W H r.length (fun _ _ p => r.getD p 0)) = true := by
      unfold palOk
      rw [okR.vim]
      show decide ((acL r.length (img W H r.length (fun _ _ p => r.getD p 0)) (W * H)).length ≤ 16) = true
      rw [hac]; rfl
    have hpl : palL W H r.length (img W H r.length (fun _ _ p => r.getD p 0)) = [r] := by
      unfold palL
      rw [hok]
      exact hac
    have hOne := cvi_I ok (R := 0) (D := 1) knOk_one (by simp)
    have e1 : img W H q.length (fun x y p => cvV (fun a b => F a b p) W H 0 [1] 1 x y) = img W H q.length F :=
      img_ext fun x y p hx hy hp => cvV_one (f := fun a b => F a b p) hx hy (ok.2.2.2 x y p hx hy hp)
    rw [e1] at hOne
    refine ⟨_, _, _, _, hyl, Lib.hid h1, Lib.hid h2, .inr ⟨by have := ok.1.1; show ¬ (W : Int) = 0; omega, q, _, _, by have := ok.2.2.1; omega, by have := okF.bd; omega, by have := okR.bd; omega, Lib.hid hP, Lib.hid hF, Lib.hid hC, Lib.hid (fun A c u k1 k2 => ?_), Lib.hid hOne⟩⟩
    have hbR := okR.bd
    have eZ : ((r.length : Nat) : Int) = ((q.length : Nat) : Int) := by rw [hrl]
    rw [eZ] at hpl hok
    refine (i_PaletteOf W H q.length A c _ u k1 (by omega) k2).mono fun e w' ⟨M, A2, c2, he, hc, hM, hG⟩ => ?_
    rw [hpl] at he hc hM
    rw [hok] at he
    exact ⟨A2, c2, by rw [he]; rfl, hc, hG.below⟩
end Go.Proofs.Ytjgcondkoaegnaa
