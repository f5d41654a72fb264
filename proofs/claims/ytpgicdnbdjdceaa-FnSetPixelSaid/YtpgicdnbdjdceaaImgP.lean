/- Facts of set pixels that the laws need, and a box that is made before the calls that fill it. -/
import Derived.Test.YtpgicdnbdjdceaaImgL
import Derived.Test.YtpgicdnbdjdceaaSetI
import Derived.Test.YtpgicdnbdjdceaaTurnS
namespace Go.Proofs.Ytpgicdnbdjdceaa
open Go.RowKit Go.Shelf
set_option linter.unusedSimpArgs false
set_option linter.unusedVariables false

theorem bel_sets4' {W w : World} {r : Nat} (h : Below W.heap.size W w) (hr : W.heap.size ≤ r) (v0 v1 v2 v3 : Value) :
    Below W.heap.size W ((((w.setCell ⟨r, 0, none⟩ v0).setCell ⟨r, 1, none⟩ v1).setCell ⟨r, 2, none⟩ v2).setCell ⟨r, 3, none⟩ v3) := (((h.setCell (p := ⟨r, 0, none⟩) hr v0).setCell (p := ⟨r, 1, none⟩) hr v1).setCell (p := ⟨r, 2, none⟩) hr v2).setCell (p := ⟨r, 3, none⟩) hr v3
/-- A box was made at b0, then calls ran, then the box was filled. -/
theorem LSt.late {W0 u u' : World} {R : List (Option Addr × List Int)} {Bs : List Bxs} {A : Option Addr} {n c b0 : Nat} {xs : List Int} (hS : LSt W0 u R Bs) (hb0 : b0 = u.heap.size) (T : TypeId) (a0 a1 a2 a3 : Value)
    (hB : Below (u.alloc (.cells #[a0, a1, a2, a3] T)).heap.size (u.alloc (.cells #[a0, a1, a2, a3] T)) u') (hO : Own u' (u.alloc (.cells #[a0, a1, a2, a3] T)).heap.size (.slice A n c) xs) (c0 c1 c2 c3 : Value) :
    LSt W0 ((((u'.setCell ⟨b0, 0, none⟩ c0).setCell ⟨b0, 1, none⟩ c1).setCell ⟨b0, 2, none⟩ c2).setCell ⟨b0, 3, none⟩ c3) ((A, xs) :: R) (⟨b0, T, #[c0, c1, c2, c3]⟩ :: Bs) := by
  subst hb0
  have hz : (u.alloc (.cells #[a0, a1, a2, a3] T)).heap.size = u.heap.size + 1 := by simp
  have hzz : u.heap.size + 1 ≤ u'.heap.size := by have := hB.size; omega
  have hX : Bx u' u.heap.size T #[a0, a1, a2, a3] := (Bx.new u T _).below hB
  have hcell : ∀ p : Addr, p.block < u.heap.size → ((((u'.setCell ⟨u.heap.size, 0, none⟩ c0).setCell ⟨u.heap.size, 1, none⟩ c1).setCell ⟨u.heap.size, 2, none⟩ c2).setCell ⟨u.heap.size, 3, none⟩ c3).cell? p = u.cell? p := by
    intro p hp
    have e : ∀ (w : World) (i : Nat) (v : Value), (w.setCell ⟨u.heap.size, i, none⟩ v).cell? p = w.cell? p := fun w i v => World.cell?_setCell_other w ⟨u.heap.size, i, none⟩ p v (fun e => by subst e; simp at hp)
    rw [e, e, e, e]
    exact (hB.cell (p := p) (by omega)).trans (World.cell?_alloc_lt u _ p hp)
  refine ⟨?_, fun r hm => ?_, fun b hm => ?_⟩
  · have h1 : Below W0.heap.size W0 u' := (hS.1.alloc hS.1.size _).trans (hB.mono (by have := hS.1.size; omega))
    exact bel_sets4' h1 hS.1.size c0 c1 c2 c3
  · rcases List.mem_cons.1 hm with rfl | hm
    · have h := ((((hO.setB (p := ⟨u.heap.size, 0, none⟩) (by simp) c0).setB (p := ⟨u.heap.size, 1, none⟩) (by simp) c1).setB (p := ⟨u.heap.size, 2, none⟩) (by simp) c2).setB (p := ⟨u.heap.size, 3, none⟩) (by simp) c3)
      exact h.rds.2
    · exact ((hS.2.1 r hm).keep hcell).more (by simp [World.setCell]; omega)
  · rcases List.mem_cons.1 hm with rfl | hm
    · exact bx_put4 hX _ _ _ _
    · have hb := hS.2.2 b hm
      have hne : b.g ≠ u.heap.size := by have := hb.lt; omega
      exact bx_sets4 ((hb.alloc _).below hB) hne _ _ _ _
theorem LSt.sub {W0 w : World} {R R' : List (Option Addr × List Int)} {Bs : List Bxs} (h : LSt W0 w R Bs) (hs : ∀ r ∈ R', r ∈ R) : LSt W0 w R' Bs := ⟨h.1, fun r hr => h.2.1 r (hs r hr), h.2.2⟩
def SetO (f : FuncId) (W H P : Int) (xs : List Int) (x y : Int) (q : List Int) (X Y Z : Int) (ys : List Int) (ok : Bool) : Prop :=
  ∀ (A : Option Addr) (c : Nat) (A' : Option Addr) (c' : Nat) (w : World), Rds .i64 w w.heap.size A xs → xs.length ≤ c → Rds .i64 w w.heap.size A' q → q.length ≤ c' →
    Calls Try.prog f #[.agg #[.int .i64 W, .int .i64 H, .int .i64 P, .slice A xs.length c], .int .i64 x, .int .i64 y, .slice A' q.length c'] w fun e w' => ∃ v, e = .returned (.tuple #[.agg #[.int .i64 X, .int .i64 Y, .int .i64 Z, v], .bool ok]) ∧ Own w' w.heap.size v ys ∧ Below w.heap.size w w'
theorem SetO.use {f : FuncId} {W H P : Int} {xs : List Int} {x y : Int} {q : List Int} {X Y Z : Int} {ys : List Int} {ok : Bool} (h : Hid (SetO f W H P xs x y q X Y Z ys ok)) (A : Option Addr) (c : Nat) (A' : Option Addr) (c' : Nat) (w : World) (hr : Rds .i64 w w.heap.size A xs) (hc : xs.length ≤ c) (hr' : Rds .i64 w w.heap.size A' q) (hc' : q.length ≤ c') :
    Calls Try.prog f #[.agg #[.int .i64 W, .int .i64 H, .int .i64 P, .slice A xs.length c], .int .i64 x, .int .i64 y, .slice A' q.length c'] w fun e w' => ∃ v, e = .returned (.tuple #[.agg #[.int .i64 X, .int .i64 Y, .int .i64 Z, v], .bool ok]) ∧ Own w' w.heap.size v ys ∧ Below w.heap.size w w' := h.out A c A' c' w hr hc hr' hc'
theorem iS_C (W H P x y : Int) (xs q : List Int) (hx : xs.length ≤ 2000) (hq : q.length ≤ 2000) : SetO 33 W H P xs x y q (cond (setOk W H P xs x y q) W 0) (cond (setOk W H P xs x y q) H 0) (cond (setOk W H P xs x y q) P 0) (cond (setOk W H P xs x y q) (setL W.toNat H.toNat P.toNat xs x.toNat y.toNat q) []) (setOk W H P xs x y q) :=
  fun A c A' c' w hr hc hr' hc' => by first | exact i_SetPixel W H P x y A c xs A' c' q w hr (by omega) hc hr' (by omega) | exact s_SetPixel W H P x y A c xs A' c' q w hr (by omega) hc hr' (by omega)
theorem sS_C (W H P x y : Int) (xs q : List Int) (hx : xs.length ≤ 2000) (hq : q.length ≤ 2000) : SetO 34 W H P xs x y q (cond (setOk W H P xs x y q) W 0) (cond (setOk W H P xs x y q) H 0) (cond (setOk W H P xs x y q) P 0) (cond (setOk W H P xs x y q) (setL W.toNat H.toNat P.toNat xs x.toNat y.toNat q) []) (setOk W H P xs x y q) :=
  fun A c A' c' w hr hc hr' hc' => by first | exact i_SetPixel W H P x y A c xs A' c' q w hr (by omega) hc hr' (by omega) | exact s_SetPixel W H P x y A c xs A' c' q w hr (by omega) hc hr' (by omega)
section
variable {W H P : Nat} {F : Nat → Nat → Nat → Int}
theorem setL_img (q : List Int) (a b : Nat) : setL W H P (img W H P F) a b q = img W H P (setF F a b q) :=
  img_ext fun x y p hx hy hp => by
    unfold setF
    by_cases h : x = a ∧ y = b
    · rw [if_pos h, if_pos h]
    · rw [if_neg h, if_neg h]; exact img_pxc2 F hx hy hp
theorem okI.set (h : okI W H P F) {q : List Int} (a b : Nat) (hq : q.length = P) (hb : ∀ j, j < q.length → 0 ≤ q.getD j 0 ∧ q.getD j 0 ≤ 255) : okI W H P (setF F a b q) := ⟨h.1, h.2.1, h.2.2.1, fun x y p hx hy hp => by
  unfold setF
  by_cases e : x = a ∧ y = b
  · rw [if_pos e]; exact hb p (by omega)
  · rw [if_neg e]; exact h.2.2.2 x y p hx hy hp⟩
theorem iS_I (h : okI W H P F) {q : List Int} {a b : Nat} (ha : a < W) (hb : b < H) (hq : q.length = P) (hby : ∀ j, j < q.length → 0 ≤ q.getD j 0 ∧ q.getD j 0 ≤ 255) : SetO 33 W H P (img W H P F) a b q W H P (img W H P (setF F a b q)) true := by
  have hc := iS_C W H P a b (img W H P F) q (by have := h.bd; omega) (by have := h.2.2.1; omega)
  have ho : setOk W H P (img W H P F) a b q = true := by
    unfold setOk
    have h1 : onIm W H a b = true := by simp only [onIm, Bool.and_eq_true, decide_eq_true_eq]; omega
    have h2 : allB 0 255 q = true := allB_yes hby
    rw [h.vim, h1, h2, decide_eq_true (by rw [hq])]; rfl
  rw [ho] at hc
  have hc' : SetO 33 W H P (img W H P F) a b q W H P (setL W H P (img W H P F) a b q) true := hc
  rwa [setL_img] at hc'
theorem set_law (W H P x y : Int) (xs q : List Int) (hx : xs.length ≤ 256) (hq : q.length ≤ 256) : ∃ (X Y Z : Int) (ys : List Int) (ok : Bool), ys.length ≤ 2000 ∧ Hid (SetO 33 W H P xs x y q X Y Z ys ok) ∧ Hid (SetO 34 W H P xs x y q X Y Z ys ok) ∧
    (ok = false ∨ (ok = true ∧ ∃ p : List Int, p.length ≤ 2000 ∧ Hid (PxC 20 W H P xs x y p) ∧ Hid (SetO 33 X Y Z ys x y p W H P xs true) ∧ Hid (PxC 20 X Y Z ys x y q))) := by
  have h1 := iS_C W H P x y xs q (by omega) (by omega)
  have h2 := sS_C W H P x y xs q (by omega) (by omega)
  cases ho : setOk W H P xs x y q
  · rw [ho] at h1 h2
    exact ⟨_, _, _, _, _, by simp, Lib.hid h1, Lib.hid h2, .inl rfl⟩
  · rw [ho] at h1 h2
    unfold setOk at ho
    rw [Bool.and_eq_true, Bool.and_eq_true, Bool.and_eq_true] at ho
    obtain ⟨hv, hon, hqP, hqb⟩ := ho
    obtain ⟨W, H, P, F, rfl, rfl, rfl, rfl, ok⟩ := vim_ok hv
    obtain ⟨a, b, rfl, rfl, ha, hb⟩ := on_nat hon
    have hqP' : q.length = P := by have := of_decide_eq_true hqP; omega
    have hby : ∀ j, j < q.length → 0 ≤ q.getD j 0 ∧ q.getD j 0 ≤ 255 := fun j hj => by
      have := of_decide_eq_true hqb (q[j]) (List.getElem_mem hj)
      simpa [hj] using this
    have h1' : SetO 33 W H P (img W H P F) a b q W H P (setL W H P (img W H P F) a b q) true := h1
    have h2' : SetO 34 W H P (img W H P F) a b q W H P (setL W H P (img W H P F) a b q) true := h2
    rw [setL_img] at h1' h2'
    have ok2 := ok.set a b hqP' hby
    refine ⟨_, _, _, _, _, by have := ok2.bd; omega, Lib.hid h1', Lib.hid h2', .inr ⟨rfl, (List.range P).map (F a b), by simp; have := ok.2.2.1; omega, Lib.hid (iP_I ok a b ha hb), Lib.hid ?_, Lib.hid ?_⟩⟩
    · have h := iS_I ok2 (q := (List.range P).map (F a b)) ha hb (by simp) (fun j hj => by
        simp at hj
        have := ok.2.2.2 a b j ha hb hj
        simpa [hj] using this)
      have e : img W H P (setF (setF F a b q) a b ((List.range P).map (F a b))) = img W H P F := img_ext fun x y p hx hy hp => by
        unfold setF
        by_cases e : x = a ∧ y = b
        · rw [if_pos e, e.1, e.2]; simp [hp]
        · rw [if_neg e, if_neg e]
      rwa [e] at h
    · have h := iP_I ok2 a b ha hb
      have e : (List.range P).map (setF F a b q a b) = q := by
        apply List.ext_getElem
        · simp [hqP']
        · intro i h1 h2
          simp only [List.getElem_map, List.getElem_range]
          unfold setF
          rw [if_pos ⟨rfl, rfl⟩]
          simp [h2]
      rwa [e] at h
end
end Go.Proofs.Ytpgicdnbdjdceaa
