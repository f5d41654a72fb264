/- Turning and splitting: the mathematics and contracts of the law. -/
import Derived.Test.YtfeldhhbnhdodaaPlnL
import Derived.Test.YtfeldhhbnhdodaaTurnI
namespace Go.Proofs.Ytfeldhhbnhdodaa
open Go.RowKit Go.Shelf
set_option linter.unusedSimpArgs false
set_option linter.unusedVariables false
set_option maxRecDepth 20000

/-- Turning the image m gives the image t, of the call's own. -/
def TuO (f : FuncId) (m t : Imv) : Prop := ∀ (A : Option Addr) (c : Nat) (w : World), Rds .i64 w w.heap.size A m.ds → m.ds.length ≤ c → Calls Try.prog f #[.agg #[.int .i64 m.X, .int .i64 m.Y, .int .i64 m.Z, .slice A m.ds.length c], .int .i64 1] w (MadeI t.X t.Y t.Z t.ds w)
def TuR (f : FuncId) (W H P : Int) (xs : List Int) (X Y : Int) (ys : List Int) : Prop := ∀ (A : Option Addr) (c : Nat) (w : World), Rds .i64 w w.heap.size A xs → xs.length ≤ c → Calls Try.prog f #[.agg #[.int .i64 W, .int .i64 H, .int .i64 P, .slice A xs.length c], .int .i64 1] w (ShI X Y P ys w)
theorem take_imv {ts : List Imv} {k : Nat} (h : k < ts.length) : ts.take (k + 1) = ts.take k ++ [imv ts k] := by
  rw [List.take_succ_eq_append_getElem h]
  congr 2
  unfold imv
  rw [List.getD_eq_getElem?_getD, List.getElem?_eq_getElem h]; rfl
theorem tur_any {W H P : Nat} {xs : List Int} (h : vim W H P xs = true) (A : Option Addr) (c : Nat) (w : World) (hr : Rds .i64 w w.heap.size A xs) (hc : xs.length ≤ c) (hl : xs.length ≤ 2000000) :
    Calls Try.prog 16 #[.agg #[.int .i64 W, .int .i64 H, .int .i64 P, .slice A xs.length c], .int .i64 1] w (MadeI (tdim W H 1).1 (tdim W H 1).2 P (turL W H P xs 1) w) := by
  have h1 := i_TurnImage W H P 1 A c xs w hr hl hc
  rw [h] at h1
  exact h1.mono (fun e w' hh => hh)
theorem tsp_law (W H P : Int) (xs : List Int) (hl : xs.length ≤ 256) : ∃ ms : List Imv, Hid (IlC 9 W H P xs ms) ∧ Hid (IlC 11 W H P xs ms) ∧ ms.length ≤ 4 ∧ Hid (∀ i, i < ms.length → (imv ms i).ds.length ≤ 256) ∧
    (ms.length = 0 ∨ ∃ (ts : List Imv) (X Y : Int) (ys : List Int), 0 < ms.length ∧ ts.length = ms.length ∧ Hid (∀ i, i < ms.length → TuO 16 (imv ms i) (imv ts i)) ∧ Hid (TuR 16 W H P xs X Y ys) ∧ Hid (IlC 9 X Y P ys ts) ∧ Hid (∀ i, i < ts.length → (imv ts i).ds.length ≤ 256)) := by
  refine ⟨spL W H P xs, Lib.hid (IlC.of fun A c w hr hc => i_SplitPlanes W H P A c xs w hr (by omega) hc), Lib.hid (IlC.of fun A c w hr hc => s_SplitPlanes W H P A c xs w hr (by omega) hc), (spL_len4 W H P xs).1, Lib.hid (spL_len4 W H P xs).2, ?_⟩
  have hb := spL_len4 W H P xs
  cases h : vim W H P xs
  · left; rw [spL_no h]; rfl
  · right
    obtain ⟨W, H, P, F, rfl, rfl, rfl, rfl, hF⟩ := vim_okJ h
    obtain ⟨⟨hW1, hW⟩, ⟨hH1, hH⟩, ⟨hP1, hP⟩, hFb⟩ := hF
    rw [spL_yes h] at hb ⊢
    have hbd := tdim_bd hW1 hW hH1 hH 1
    have hvt : vim (tdim W H 1).1 (tdim W H 1).2 P (turL W H P (img W H P F) 1) = true := by
      unfold turL
      refine vim_img hbd.1 hbd.2.1 hbd.2.2.1 hbd.2.2.2 hP1 hP fun x y p hx hy hp => ?_
      have hd : tdim W H 1 = (H, W) := rfl
      rw [hd] at hx hy
      show 0 ≤ pxc W P (img W H P F) y (H - 1 - x) p ∧ pxc W P (img W H P F) y (H - 1 - x) p ≤ 255
      rw [img_pxc2 F hy (by simp at hx; omega) hp]
      exact hFb _ _ _ hy (by simp at hx; omega) hp
    have hbt := spL_len4 (tdim W H 1).1 (tdim W H 1).2 P (turL W H P (img W H P F) 1)
    rw [spL_yes hvt] at hbt
    have hlt : (turL W H P (img W H P F) 1).length ≤ 2000000 := by
      rw [turL_len]
      have := Nat.mul_le_mul (Nat.mul_le_mul hbd.2.1 hbd.2.2.2) hP
      omega
    refine ⟨spN (tdim W H 1).1 (tdim W H 1).2 P (turL W H P (img W H P F) 1), _, _, _, by rw [spN_len]; omega, by rw [spN_len, spN_len], Lib.hid (fun i hi => ?_), Lib.hid (fun A c w hr hc => (tur_any h A c w hr hc (by omega)).mono (fun e w' hh => ShI.of hh)), Lib.hid ?_, Lib.hid hbt.2⟩
    · rw [spN_len] at hi
      rw [spN_get hi, spN_get hi]
      have e1 : plL W H P (img W H P F) i = img W H 1 (fun x y _ => F x y i) := plL_img F hi
      have hv1 : vim W H (1 : Nat) (img W H 1 (fun x y _ => F x y i)) = true := vim_img hW1 hW hH1 hH (by omega) (by omega) fun x y p hx hy hp => hFb x y i hx hy hi
      have e2 : plL (tdim W H 1).1 (tdim W H 1).2 P (turL W H P (img W H P F) 1) i = turL W H 1 (img W H 1 (fun x y _ => F x y i)) 1 := by
        unfold turL
        rw [plL_img _ hi]
        refine img_ext fun x y p hx hy hp => ?_
        have hd : tdim W H 1 = (H, W) := rfl
        rw [hd] at hx hy
        show pxc W P (img W H P F) y (H - 1 - x) i = pxc W 1 (img W H 1 (fun x y _ => F x y i)) y (H - 1 - x) p
        rw [img_pxc2 F hy (by simp at hx; omega) hi, img_pxc2 _ hy (by simp at hx; omega) hp]
      intro A c w hr hc
      rw [e2]
      have hr' : Rds .i64 w w.heap.size A (img W H 1 (fun x y _ => F x y i)) := by rw [← e1]; exact hr
      have h3 := tur_any hv1 A c w hr' (by rw [← e1]; exact hc) (by rw [img_len]; have := Nat.mul_le_mul hW hH; omega)
      show Calls Try.prog _ #[.agg #[.int .i64 (W : Int), .int .i64 (H : Int), .int .i64 1, .slice A (plL W H P (img W H P F) i).length c], .int .i64 1] w _
      rw [e1]
      exact h3
    · have h4 : IlC 9 (tdim W H 1).1 (tdim W H 1).2 P (turL W H P (img W H P F) 1) (spL (tdim W H 1).1 (tdim W H 1).2 P (turL W H P (img W H P F) 1)) := IlC.of fun A c w hr hc => i_SplitPlanes _ _ _ A c _ w hr hlt hc
      rw [spL_yes hvt] at h4
      exact h4
end Go.Proofs.Ytfeldhhbnhdodaa
