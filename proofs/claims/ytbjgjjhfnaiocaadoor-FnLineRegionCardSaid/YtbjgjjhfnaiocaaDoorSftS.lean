/- Contract of ShiftRegion in the model. -/
import Derived.Test.YtbjgjjhfnaiocaaDoorSftI
import Derived.Test.YtbjgjjhfnaiocaaDoorReg3
namespace Go.Proofs.YtbjgjjhfnaiocaaDoor
open Go.RowKit
set_option linter.unusedSimpArgs false
set_option linter.unusedVariables false
set_option maxRecDepth 100000

/-- The pixels that the first p pixels of a region are moved to. -/
def sfP (xs : List Int) (n : Nat) (x y : Int) (p j : Nat) : Bool := sftG xs n x y (j % 16) (j / 16) && decide ((((j / 16 : Nat) : Int) - y) * 16 + (((j % 16 : Nat) : Int) - x) < p)
theorem sfP_zero {xs : List Int} {n : Nat} (h : reg xs n) (x y : Int) (j : Nat) : sfP xs n x y 0 j = false := by
  unfold sfP
  cases hr : sftG xs n x y (j % 16) (j / 16)
  · rfl
  · have := rh_in h n (Nat.le_refl _) hr
    rw [Bool.true_and]
    exact decide_eq_false (by omega)
theorem sfP_all {xs : List Int} {n : Nat} (h : reg xs n) (x y : Int) (a b : Nat) (ha : a ≤ 15) : sfP xs n x y 256 (b * 16 + a) = sftG xs n x y a b := by
  unfold sfP
  rw [show (b * 16 + a) % 16 = a by omega, show (b * 16 + a) / 16 = b by omega]
  cases hr : sftG xs n x y a b
  · rfl
  · have := rh_in h n (Nat.le_refl _) hr
    rw [Bool.true_and]
    exact decide_eq_true (by omega)
/-- Pixel p is moved. -/
theorem sfP_hit {xs : List Int} {n : Nat} (h : reg xs n) {x y : Int} {m q t j0 : Nat} (hm : m ≤ 15) (hq : q ≤ 15) (hb : rh xs (m : Int) (q : Int) n = true) (hc : 0 ≤ (m : Int) + x ∧ (m : Int) + x ≤ 15) (hr : 0 ≤ (q : Int) + y ∧ (q : Int) + y ≤ 15) (hj : (j0 : Int) = ((q : Int) + y) * 16 + ((m : Int) + x)) (j : Nat) :
    (if j = j0 then true else sfP xs n x y (q * 16 + m) j) = sfP xs n x y (q * 16 + m + 1) j := by
  by_cases e : j = j0
  · rw [if_pos e]
    unfold sfP sftG
    rw [show ((j % 16 : Nat) : Int) - x = (m : Int) by omega, show ((j / 16 : Nat) : Int) - y = (q : Int) by omega, hb, Bool.true_and]
    exact (decide_eq_true (by omega)).symm
  · rw [if_neg e]
    unfold sfP
    cases hs : sftG xs n x y (j % 16) (j / 16)
    · rfl
    · have := rh_in h n (Nat.le_refl _) hs
      rw [Bool.true_and, Bool.true_and]
      exact decide_eq_decide.2 (by omega)
/-- Pixel p is not moved. -/
theorem sfP_miss {xs : List Int} {n : Nat} (h : reg xs n) {x y : Int} {m q : Nat} (hm : m ≤ 15) (hq : q ≤ 15) (hb : rh xs (m : Int) (q : Int) n = false ∨ ¬ (0 ≤ (m : Int) + x ∧ (m : Int) + x ≤ 15) ∨ ¬ (0 ≤ (q : Int) + y ∧ (q : Int) + y ≤ 15)) (j : Nat) (hj : j < 256) :
    sfP xs n x y (q * 16 + m) j = sfP xs n x y (q * 16 + m + 1) j := by
  unfold sfP
  cases hs : sftG xs n x y (j % 16) (j / 16)
  · rfl
  · have hi := rh_in h n (Nat.le_refl _) hs
    rw [Bool.true_and, Bool.true_and]
    refine decide_eq_decide.2 ?_
    by_cases e : (((j / 16 : Nat) : Int) - y) * 16 + (((j % 16 : Nat) : Int) - x) = ((q * 16 + m : Nat) : Int)
    · exfalso
      have e1 : ((j % 16 : Nat) : Int) - x = (m : Int) := by omega
      have e2 : ((j / 16 : Nat) : Int) - y = (q : Int) := by omega
      rcases hb with hb | hb | hb
      · unfold sftG at hs
        rw [e1, e2, hb] at hs
        cases hs
      · exact hb (by omega)
      · exact hb (by omega)
    · omega
set_option maxHeartbeats 16000000 in
theorem s_ShiftRegion (A : Option Addr) (n c : Nat) (xs : List Int) (x y : Int) (w : World) (hx : xs.length = 3 * n) (h : Rds .i64 w w.heap.size A xs) (hl : n ≤ 2000000) :
    Calls Tryd.prog 21 #[.slice A n c, .int .i64 x, .int .i64 y] w (RunsIf (sftOk xs n x y) (sftG xs n x y) w) := by
  have hmk := make_grid
  have HG0 := Lib.hid (GridFn.start w)
  have HB0 : Hid (Below w.heap.size w (w.alloc (.cells gz 4))) := Lib.hid ((Below.refl _ _).alloc (Nat.le_refl _) _)
  have HR : Hid (Rds .i64 (w.alloc (.cells gz 4)) (w.alloc (.cells gz 4)).heap.size A xs) := Lib.hid ((h.alloc (Nat.le_refl _) _).more (by simp))
  have HX := Lib.hid hx
  have Hz : Hid (w.heap.size < (w.alloc (.cells gz 4)).heap.size) := Lib.hid (by simp)
  clear h hx
  cases hr : regB xs n
  · have H : Hid (sftOk xs n x y = false) := Lib.hid (by unfold sftOk; rw [hr, Bool.false_and])
    go_enter Tryd.func21, Tryd.ntmps21
    go_wp2_with fail
    clear hmk
    generalize w.alloc (.cells gz 4) = u at *
    refine (s_validRuns A n c u.heap.size xs u HX.out HR.out (Nat.le_refl _) hl).mono ?_
    rintro e w1 ⟨rfl, hb1⟩
    rw [hr]
    have HB1 := Lib.hid (HB0.out.trans (hb1.mono HB0.out.size))
    clear hb1
    go_wp2
    go_ret
    exact RunsIf.no H.out HB1.out
  · cases hn1 : decide (-16 ≤ x ∧ x ≤ 16)
    · have H : Hid (sftOk xs n x y = false) := Lib.hid (by unfold sftOk; rw [hn1, Bool.false_and, Bool.and_false])
      go_enter Tryd.func21, Tryd.ntmps21
      go_wp2_with fail
      clear hmk
      generalize w.alloc (.cells gz 4) = u at *
      refine (s_validRuns A n c u.heap.size xs u HX.out HR.out (Nat.le_refl _) hl).mono ?_
      rintro e w1 ⟨rfl, hb1⟩
      rw [hr]
      have HB1 := Lib.hid (HB0.out.trans (hb1.mono HB0.out.size))
      clear hb1
      go_wp2_with fail
      refine (sIr_any x (-16) 16 w1).mono ?_
      rintro e w2 ⟨rfl, rfl⟩
      rw [hn1]
      go_wp2
      go_ret
      exact RunsIf.no H.out HB1.out
    · cases hn2 : decide (-16 ≤ y ∧ y ≤ 16)
      · have H : Hid (sftOk xs n x y = false) := Lib.hid (by unfold sftOk; rw [hn2, Bool.and_false, Bool.and_false])
        go_enter Tryd.func21, Tryd.ntmps21
        go_wp2_with fail
        clear hmk
        generalize w.alloc (.cells gz 4) = u at *
        refine (s_validRuns A n c u.heap.size xs u HX.out HR.out (Nat.le_refl _) hl).mono ?_
        rintro e w1 ⟨rfl, hb1⟩
        rw [hr]
        have HB1 := Lib.hid (HB0.out.trans (hb1.mono HB0.out.size))
        clear hb1
        go_wp2_with fail
        refine (sIr_any x (-16) 16 w1).mono ?_
        rintro e w2 ⟨rfl, rfl⟩
        rw [hn1]
        go_wp2_with fail
        refine (sIr_any y (-16) 16 w1).mono ?_
        rintro e w2 ⟨rfl, rfl⟩
        rw [hn2]
        go_wp2
        go_ret
        exact RunsIf.no H.out HB1.out
      · have H : Hid (sftOk xs n x y = true) := Lib.hid (by unfold sftOk; rw [hr, hn1, hn2]; rfl)
        obtain ⟨x0, x1⟩ := of_decide_eq_true hn1
        obtain ⟨y0, y1⟩ := of_decide_eq_true hn2
        have HG := Lib.hid (regB_of hr)
        go_enter Tryd.func21, Tryd.ntmps21
        go_wp2_with fail
        clear hmk
        generalize w.alloc (.cells gz 4) = u at *
        refine (s_validRuns A n c u.heap.size xs u HX.out HR.out (Nat.le_refl _) hl).mono ?_
        rintro e w1 ⟨rfl, hb1⟩
        rw [hr]
        have HB1 := Lib.hid (HB0.out.trans (hb1.mono HB0.out.size))
        have HR1 : Hid (Rds .i64 w1 w1.heap.size A xs) := Lib.hid ((HR.out.below hb1).more hb1.size)
        have HG1 := Lib.hid (HG0.out.below hb1 Hz.out)
        clear hb1
        go_wp2_with fail
        refine (sIr_any x (-16) 16 w1).mono ?_
        rintro e w2 ⟨rfl, rfl⟩
        rw [hn1]
        go_wp2_with fail
        refine (sIr_any y (-16) 16 w1).mono ?_
        rintro e w3 ⟨rfl, rfl⟩
        rw [hn2]
        clear hn1 hn2 hr
        go_wp2_with fail
        refine (s_gridOf A n c xs w1 HX.out HR1.out hl HG.out).mono ?_
        rintro e w4 ⟨rfl, hg, hb4⟩
        obtain ⟨g2, hg2⟩ : ∃ g, g = w1.heap.size := ⟨_, rfl⟩
        obtain ⟨g, hgg⟩ : ∃ g, g = w.heap.size := ⟨_, rfl⟩
        have HB4 := Lib.hid (HB1.out.trans (hb4.mono HB1.out.size))
        have HG4 := Lib.hid (HG1.out.below hb4 HG1.out.lt)
        have h23 : g < g2 := by rw [hg2, hgg]; exact HG1.out.lt
        rw [← hg2] at hg ⊢
        rw [← hgg] at HG4 ⊢
        have Hgg := Lib.hid hgg
        have HC := Lib.hid hg
        clear hg hb4 HB1 HG1 hg2 hgg
        have HI0 : Hid (GridFn w4 g (sfP xs n x y 0) ∧ (∀ a b : Nat, a ≤ 15 → b ≤ 15 → w4.cell? ⟨g2, b * 16 + a, none⟩ = some (.bool (rh xs a b n))) ∧ Below w.heap.size w w4) := Lib.hid ⟨HG4.out.congr (fun j hj => (sfP_zero HG.out x y j).symm), HC.out, HB4.out⟩
        clear HG4 HC HB4
        go_wp2
        go_loopw [9] (fun i wr => ∃ p : Nat, p ≤ 256 ∧ i = .int .i64 (p : Int) ∧ Hid (GridFn wr g (sfP xs n x y p) ∧ (∀ a b : Nat, a ≤ 15 → b ≤ 15 → wr.cell? ⟨g2, b * 16 + a, none⟩ = some (.bool (rh xs a b n))) ∧ Below w.heap.size w wr)) (fun i _ => 256 - (intOf i).toNat)
        case atStart => exact ⟨0, by omega, rfl, HI0⟩
        case round =>
          clear HI0
          obtain ⟨p, hp, rfl, hI⟩ := hrel
          rename World => wr
          by_cases hlt : p < 256
          · obtain ⟨m, hm⟩ : ∃ m, m = p % 16 := ⟨_, rfl⟩
            obtain ⟨q, hq⟩ : ∃ q, q = p / 16 := ⟨_, rfl⟩
            have hm15 : m ≤ 15 := by omega
            have hq15 : q ≤ 15 := by omega
            have hpm : p = q * 16 + m := by omega
            have e1 : (p : Int).tmod 16 = (m : Int) := by rw [hm, Int.tmod_eq_emod_of_nonneg (by omega)]; omega
            have e2 : (p : Int).tdiv 16 = (q : Int) := by rw [hq, Int.tdiv_eq_ediv_of_nonneg (by omega)]; omega
            have e3 : (p : Int) % 16 = (m : Int) := by omega
            have e4 : (p : Int) / 16 = (q : Int) := by omega
            have hcell : wr.cell? ⟨g2, p, none⟩ = some (.bool (rh xs (m : Int) (q : Int) n)) := by rw [hpm]; exact hI.out.2.1 m q hm15 hq15
            have hpI : (p : Int) < 256 := by omega
            have HM : Hid ((rh xs (m : Int) (q : Int) n = false ∨ ¬ (0 ≤ (m : Int) + x ∧ (m : Int) + x ≤ 15) ∨ ¬ (0 ≤ (q : Int) + y ∧ (q : Int) + y ≤ 15)) → GridFn wr g (sfP xs n x y (p + 1)) ∧ (∀ a b : Nat, a ≤ 15 → b ≤ 15 → wr.cell? ⟨g2, b * 16 + a, none⟩ = some (.bool (rh xs a b n))) ∧ Below w.heap.size w wr) := Lib.hid (fun hb => ⟨hI.out.1.congr (fun j hj => by rw [hpm]; exact sfP_miss HG.out hm15 hq15 hb j hj), hI.out.2⟩)
            cases hbb : rh xs (m : Int) (q : Int) n
            · rw [hbb] at hcell
              have HN := Lib.hid (HM.out (.inl hbb))
              clear HM hI hm hq hpm hbb
              go_wp2
              go_roundw
              case rel => exact ⟨p + 1, by omega, by go_num, HN⟩
              case measure => simp [intOf]; omega
            · rw [hbb] at hcell
              cases hc : decide ((0 : Int) ≤ (m : Int) + x ∧ (m : Int) + x ≤ 15)
              · have HN := Lib.hid (HM.out (.inr (.inl (of_decide_eq_false hc))))
                clear HM hI hm hq hpm hbb
                go_wp2_with fail
                refine (sIr_any ((m : Int) + x) 0 15 wr).mono ?_
                rintro e w5 ⟨rfl, rfl⟩
                rw [hc]
                go_wp2
                go_roundw
                case rel => exact ⟨p + 1, by omega, by go_num, HN⟩
                case measure => simp [intOf]; omega
              · cases ho : decide ((0 : Int) ≤ (q : Int) + y ∧ (q : Int) + y ≤ 15)
                · have HN := Lib.hid (HM.out (.inr (.inr (of_decide_eq_false ho))))
                  clear HM hI hm hq hpm hbb
                  go_wp2_with fail
                  refine (sIr_any ((m : Int) + x) 0 15 wr).mono ?_
                  rintro e w5 ⟨rfl, rfl⟩
                  rw [hc]
                  go_wp2_with fail
                  refine (sIr_any ((q : Int) + y) 0 15 wr).mono ?_
                  rintro e w5 ⟨rfl, rfl⟩
                  rw [ho]
                  go_wp2
                  go_roundw
                  case rel => exact ⟨p + 1, by omega, by go_num, HN⟩
                  case measure => simp [intOf]; omega
                · have hc' := of_decide_eq_true hc
                  have ho' := of_decide_eq_true ho
                  obtain ⟨C, hC⟩ : ∃ C : Nat, (m : Int) + x = C := ⟨((m : Int) + x).toNat, by omega⟩
                  obtain ⟨O, hO⟩ : ∃ O : Nat, (q : Int) + y = O := ⟨((q : Int) + y).toNat, by omega⟩
                  have hj0 : O * 16 + C < 256 := by omega
                  have HN : Hid (GridFn (wr.setCell ⟨g, O * 16 + C, none⟩ (.bool true)) g (sfP xs n x y (p + 1)) ∧ (∀ a b : Nat, a ≤ 15 → b ≤ 15 → (wr.setCell ⟨g, O * 16 + C, none⟩ (.bool true)).cell? ⟨g2, b * 16 + a, none⟩ = some (.bool (rh xs a b n))) ∧ Below w.heap.size w (wr.setCell ⟨g, O * 16 + C, none⟩ (.bool true))) := Lib.hid
                    ⟨(hI.out.1.put hj0 true).congr (fun j hj => by
                        rw [hpm]
                        exact sfP_hit (t := 0) HG.out hm15 hq15 hbb hc' ho' (by rw [hC, hO]; omega) j),
                      fun a b ha hb => (World.cell?_setCell_other _ ⟨g, O * 16 + C, none⟩ ⟨g2, b * 16 + a, none⟩ _ (fun e => by injection e with e1; omega)).trans (hI.out.2.1 a b ha hb),
                      hI.out.2.2.setCell (show w.heap.size ≤ g by rw [Hgg.out]; exact Nat.le_refl _) _⟩
                  have c0 := hI.out.1.cell (j := O * 16 + C) hj0
                  have f0 := hI.out.1.frozen (O * 16 + C)
                  have hgl := hI.out.1.lt
                  generalize sfP xs n x y p (O * 16 + C) = bb at c0
                  have HCe := Lib.hid hC
                  have HOe := Lib.hid hO
                  have hC15 : C ≤ 15 := by omega
                  have hO15 : O ≤ 15 := by omega
                  clear HM hI hm hq hpm hbb hC hO hc' ho'
                  go_wp2_with fail
                  refine (sIr_any ((m : Int) + x) 0 15 wr).mono ?_
                  rintro e w5 ⟨rfl, rfl⟩
                  rw [hc]
                  go_wp2_with fail
                  refine (sIr_any ((q : Int) + y) 0 15 wr).mono ?_
                  rintro e w5 ⟨rfl, rfl⟩
                  rw [ho, HCe.out, HOe.out]
                  clear HCe HOe hc ho e1 e2 e3 e4 hcell
                  go_wp2
                  go_roundw
                  case rel => exact ⟨p + 1, by omega, by go_num, HN⟩
                  case measure => simp [intOf]; omega
          · obtain rfl : p = 256 := by omega
            have HK := Lib.hid hI.out.2.2
            have hgl := hI.out.1.lt
            have HC : Hid (∀ a b : Nat, a ≤ 15 → b ≤ 15 → wr.cell? ⟨g, b * 16 + a, none⟩ = some (.bool (sftG xs n x y a b))) := Lib.hid (fun a b ha hb => by
              rw [hI.out.1.cell (j := b * 16 + a) (by omega), sfP_all HG.out x y a b ha])
            have hpI : ¬ ((256 : Nat) : Int) < 256 := by omega
            clear hI
            go_wp2_with fail
            refine (s_runsOf g 256 (sftG xs n x y) wr hgl HC.out).mono ?_
            rintro e w6 hR
            have HE := Lib.hid (RunsIf.yes (w := w) (G := sftG xs n x y) H.out (fun _ _ _ _ => rfl) HK.out hR)
            obtain ⟨v6, rfl, _, _⟩ := hR
            clear HK
            go_wp2
            go_ret
            exact HE.out
end Go.Proofs.YtbjgjjhfnaiocaaDoor
