/- CombineRegions in the program. -/
import Derived.Test.YtbjgjjhfnaiocaaDoorCmbJ
namespace Go.Proofs.YtbjgjjhfnaiocaaDoor
open Go.RowKit Go.Shelf
set_option linter.unusedSimpArgs false
set_option linter.unusedVariables false
set_option maxRecDepth 20000

theorem lin_cmb {k : Int} {xs ys : List Int} {n m : Nat} (q : Nat) : lin (cmbG k xs n ys m) q = krule k (lin (fun x y => rh xs x y n) q) (lin (fun x y => rh ys x y m) q) := by
  unfold lin cmbG
  by_cases h : q % 17 < 16
  · rw [decide_eq_true h]; simp
  · rw [decide_eq_false h]; simp [krule_ff]
theorem mkL_chgs {xs : List Int} {n : Nat} (hl : xs.length = 3 * n) (h : reg xs n) : mkL xs n = chgs (lin (fun x y => rh xs x y n)) 272 := by
  obtain ⟨h1, h2⟩ := rnL_rh hl h
  have := mkL_rnL (fun x y => rh xs x y n)
  rwa [h1, h2] at this
set_option maxHeartbeats 16000000 in
theorem i_CombineRegions (A A' : Option Addr) (n m c c' : Nat) (xs ys : List Int) (k : Int) (w : World) (hx : xs.length = 3 * n) (h : Rds .i64 w w.heap.size A xs) (hl : n ≤ 2000000) (hy : ys.length = 3 * m) (h' : Rds .i64 w w.heap.size A' ys) (hl' : m ≤ 2000000) :
    Calls Tryd.prog 49 #[.slice A n c, .slice A' m c', .int .i64 k] w (RunsIfB (cmbOk k xs n ys m) (cmbG k xs n ys m) w) := by
  have HX := Lib.hid h
  have HY := Lib.hid h'
  have HXL := Lib.hid hx
  have HYL := Lib.hid hy
  clear h h' hx hy
  by_cases hk : 0 ≤ k ∧ k ≤ 3
  · obtain ⟨eg, hf⟩ := kfn_any k hk
    have HK := Lib.hid hk
    have HRO := Lib.hid (ruleOf_yes k hk w)
    have Eg := Lib.hid eg
    have HF := Lib.hid hf
    clear hk eg hf
    generalize kfn k = fk at *
    go_enter Tryd.func49, Tryd.ntmps49
    go_wp2_with fail
    refine HRO.out.mono ?_
    rintro e w1 ⟨rfl, e2⟩; subst w1
    go_wp2_with fail
    refine (i_ValidRegion A n c w.heap.size xs w HXL.out HX.out (Nat.le_refl _) hl).mono ?_
    rintro e w1 ⟨rfl, hb1⟩
    have HY1 := Lib.hid ((HY.out.below hb1).more hb1.size)
    have HX1 := Lib.hid ((HX.out.below hb1).more hb1.size)
    have HB1 := Lib.hid hb1
    clear hb1
    cases h1 : regB xs n
    · go_wp2
      go_ret2
      exact RunsIfB.no (by unfold cmbOk; rw [h1]; rfl) HB1.out
    · have H1 := Lib.hid h1
      clear h1
      go_wp2_with fail
      refine (i_ValidRegion A' m c' w1.heap.size ys w1 HYL.out HY1.out (Nat.le_refl _) hl').mono ?_
      rintro e w2 ⟨rfl, hb2⟩
      have HB2 := Lib.hid (HB1.out.trans (hb2.mono HB1.out.size))
      have HY2 := Lib.hid ((HY1.out.below hb2).more hb2.size)
      have HX2 := Lib.hid ((HX1.out.below hb2).more hb2.size)
      clear hb2 HB1
      cases h2 : regB ys m
      · go_wp2
        go_ret2
        exact RunsIfB.no (by unfold cmbOk; rw [h2, H1.out]; rfl) HB2.out
      · have H2 := Lib.hid h2
        have H3 : Hid (cmbOk k xs n ys m = true) := Lib.hid (by unfold cmbOk; rw [H1.out, h2, decide_eq_true HK.out]; rfl)
        clear h2
        go_wp2_with fail
        refine (marksOf_any A c n xs w2 HXL.out HX2.out (regB_of H1.out) hl).mono ?_
        rintro e w3 ⟨v3, rfl, hO3, hb3⟩
        have HY3 := Lib.hid ((HY2.out.below hb3).more hb3.size)
        have HB3 := Lib.hid (HB2.out.trans (hb3.mono HB2.out.size))
        obtain ⟨A3, c3, rfl, _⟩ := hO3.slice
        have HO3 := Lib.hid hO3
        clear hO3 hb3
        go_wp2_with fail
        refine (marksOf_any A' c' m ys w3 HYL.out HY3.out (regB_of H2.out) hl').mono ?_
        rintro e w4 ⟨v4, rfl, hO4, hb4⟩
        have HB4 := Lib.hid (HB3.out.trans (hb4.mono HB3.out.size))
        obtain ⟨A4, c4, rfl, _⟩ := hO4.slice
        have HR3 := Lib.hid (HO3.out.below hb4 (Nat.le_refl _)).rds.2
        have HR4 := Lib.hid hO4.rds.2
        clear hO4 hb4 HO3
        have e1 := mkL_chgs HXL.out (regB_of H1.out)
        have e2 := mkL_chgs HYL.out (regB_of H2.out)
        rw [e1] at HR3 ⊢
        rw [e2] at HR4 ⊢
        clear e1 e2
        go_wp2_with fail
        refine (mergeMarks_any k fk Eg.out HF.out (lin (fun x y => rh xs x y n)) (lin (fun x y => rh ys x y m)) (lin (cmbG k xs n ys m)) (fun q => lin_cmb q) A3 A4 c3 c4 _ _ rfl rfl w4 HR3.out HR4.out).mono ?_
        rintro e w5 ⟨v5, rfl, hO5, hb5⟩
        have HB5 := Lib.hid (HB4.out.trans (hb5.mono HB4.out.size))
        obtain ⟨A5, c5, rfl, hc5⟩ := hO5.slice
        have hR5 := hO5.rds.2
        have e5 := mkL_rnL (cmbG k xs n ys m)
        have e6 := mkL_len (rnL (cmbG k xs n ys m)) (rnN (cmbG k xs n ys m))
        have e7 := rnL_len (cmbG k xs n ys m)
        rw [← e5] at hR5 hc5 ⊢
        rw [e6] at hc5 ⊢
        have HR5 := Lib.hid hR5
        have HRg := Lib.hid (rnL_reg (cmbG k xs n ys m))
        have HE7 := Lib.hid e7.1
        have h272 := e7.2
        clear hO5 hR5 hb5 e5 e6 e7 HR3 HR4
        generalize hN : rnN (cmbG k xs n ys m) = N at *
        generalize hL : rnL (cmbG k xs n ys m) = L at *
        have HN := Lib.hid hN
        have HL := Lib.hid hL
        clear hN hL
        go_wp2_with fail
        refine (runsBetween_any A5 c5 N L HE7.out HRg.out (by omega) hc5 w5 HR5.out).mono ?_
        rintro e w6 ⟨v6, rfl, hO6, hb6⟩
        have HE := Lib.hid (RunsIfB.yes (w := w) (G := cmbG k xs n ys m) H3.out HB5.out (by rw [HN.out, HL.out]; exact hO6) hb6)
        clear hO6 hb6
        go_wp2
        go_ret2
        exact HE.out
  · have HRO := Lib.hid (ruleOf_no k hk w)
    have HF : Hid (cmbOk k xs n ys m = false) := Lib.hid (by unfold cmbOk; rw [decide_eq_false hk]; simp)
    clear hk
    go_enter Tryd.func49, Tryd.ntmps49
    go_wp2_with fail
    refine HRO.out.mono ?_
    rintro e w1 ⟨rfl, e2⟩; subst w1
    go_wp2
    go_ret2
    exact RunsIfB.no HF.out (Below.refl _ _)
end Go.Proofs.YtbjgjjhfnaiocaaDoor
