/- What the law of FillImage needs: the palette of a filled image. -/
import Derived.Test.YtjcohmljpokgcaaImgF
import Derived.Test.YtjcohmljpokgcaaPalI
namespace Go.Proofs.Ytjcohmljpokgcaa
open Go.RowKit Go.Shelf
set_option linter.unusedSimpArgs false
set_option linter.unusedVariables false

theorem fil_row {w h : Nat} {q : List Int} {k : Nat} (hk : k < w * h) : pxk q.length (img w h q.length (fun _ _ p => q.getD p 0)) k = q := by
  have hle : k * q.length + q.length ≤ (img w h q.length (fun _ _ p => q.getD p 0)).length := by
    rw [img_len]
    have h1 : (k + 1) * q.length ≤ w * h * q.length := Nat.mul_le_mul_right _ hk
    rw [Nat.add_mul, Nat.one_mul] at h1
    exact h1
  refine list_eq (pxk_len hle) fun j hj => ?_
  rw [pxk_len hle] at hj
  rw [pxk_get hj, img_at _ hk hj]
theorem fil_acL {w h : Nat} {q : List Int} : ∀ k, k ≤ w * h → acL q.length (img w h q.length (fun _ _ p => q.getD p 0)) k = if k = 0 then [] else [q]
  | 0, _ => rfl
  | k + 1, hk => by
    have ih := fil_acL (w := w) (h := h) (q := q) k (by omega)
    unfold acL
    rw [fil_row (show k < w * h by omega), ih]
    by_cases e : k = 0
    · subst e; simp
    · rw [if_neg e]; simp
theorem fim_use (W H : Int) (q : List Int) (hq : q.length ≤ 256) : ∃ (X Y Z : Int) (ys : List Int), ys.length ≤ 2000 ∧ Hid (FillC 12 W H q X Y Z ys) ∧ Hid (FillC 13 W H q X Y Z ys) ∧
    (X = 0 ∨ (¬ X = 0 ∧ W = X ∧ H = Y ∧ Z = (q.length : Int) ∧ (1 ≤ X ∧ X ≤ 16) ∧ (1 ≤ Y ∧ Y ≤ 16) ∧
      Hid (∀ (A : Option Addr) (c : Nat) (u : World), Rds .i64 u u.heap.size A ys → ys.length ≤ c → Calls Try.prog 14 #[.agg #[.int .i64 X, .int .i64 Y, .int .i64 Z, .slice A ys.length c]] u fun e w' => ∃ (A2 : Option Addr) (c2 : Nat), e = .returned (.tuple #[.slice A2 1 c2, .bool true]) ∧ 1 ≤ c2 ∧ Rdss w' w'.heap.size A2 [q] ∧ Below u.heap.size u w') ∧
      Hid (PxC 16 X Y Z ys (X - 1) (Y - 1) q) ∧
      Hid (∀ (A : Option Addr) (c : Nat) (u : World), Rds .i64 u u.heap.size A ys → Calls Try.prog 17 #[.agg #[.int .i64 X, .int .i64 Y, .int .i64 Z, .slice A ys.length c]] u fun e w' => e = .returned (.bool true) ∧ Below u.heap.size u w'))) := by
  cases hf : fillOk W H q
  · have h1 := iF_C W H q (by omega)
    have h2 := sF_C W H q (by omega)
    rw [hf] at h1 h2
    exact ⟨_, _, _, _, by simp, Lib.hid h1, Lib.hid h2, .inl rfl⟩
  · obtain ⟨W, H, rfl, rfl, ok⟩ := fillOk_nat hf
    have hbd := ok.bd
    have hN : 1 ≤ W * H := Nat.mul_pos ok.1.1 ok.2.1.1
    have hac := fil_acL (w := W) (h := H) (q := q) (W * H) (Nat.le_refl _)
    rw [if_neg (by omega)] at hac
    have hok : palOk W H q.length (img W H q.length (fun _ _ p => q.getD p 0)) = true := by
      unfold palOk
      rw [ok.vim]
      show decide ((acL q.length (img W H q.length (fun _ _ p => q.getD p 0)) (W * H)).length ≤ 16) = true
      rw [hac]; rfl
    have hpl : palL W H q.length (img W H q.length (fun _ _ p => q.getD p 0)) = [q] := by
      unfold palL
      rw [hok]
      exact hac
    refine ⟨_, _, _, _, by omega, Lib.hid (iF_I ok), Lib.hid (sF_I ok), .inr ⟨by have := ok.1.1; omega, rfl, rfl, rfl, by have := ok.1; omega, by have := ok.2.1; omega, Lib.hid (fun A c u h1 h2 => ?_), Lib.hid ?_, Lib.hid (fun A c u h1 => ?_)⟩⟩
    · refine (i_PaletteOf W H q.length A c _ u h1 (by omega) h2).mono fun e w' ⟨M, A2, c2, he, hc, hM, hG⟩ => ?_
      rw [hpl] at he hc hM
      rw [hok] at he
      exact ⟨A2, c2, he, hc, LsM.rds hG hM (fun t ht => ht), hG.below⟩
    · have h1 := iP_I ok (W - 1) (H - 1) (by have := ok.1.1; omega) (by have := ok.2.1.1; omega)
      have e1 : ((W - 1 : Nat) : Int) = (W : Int) - 1 := by have := ok.1.1; omega
      have e2 : ((H - 1 : Nat) : Int) = (H : Int) - 1 := by have := ok.2.1.1; omega
      have e3 : (List.range q.length).map (fun p => q.getD p 0) = q := by
        refine list_eq (by simp) fun j hj => ?_
        have hj' : j < q.length := by simpa using hj
        simp [List.getD_eq_getElem?_getD, hj']
      rw [e1, e2] at h1
      have h2 : PxC 16 W H q.length (img W H q.length (fun _ _ p => q.getD p 0)) (W - 1) (H - 1) ((List.range q.length).map (fun p => q.getD p 0)) := h1
      rw [e3] at h2
      exact h2
    · have h3 := iVimg_any W H q.length A c _ u h1 (by omega)
      rw [ok.vim] at h3
      exact h3
end Go.Proofs.Ytjcohmljpokgcaa
