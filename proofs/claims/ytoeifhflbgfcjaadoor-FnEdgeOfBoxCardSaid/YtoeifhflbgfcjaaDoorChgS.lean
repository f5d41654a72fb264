/- Contracts of GrowRegion, ShrinkRegion, OpenRegion and EdgeOf in the model. -/
import Derived.Test.YtoeifhflbgfcjaaDoorEdgS
import Derived.Test.YtoeifhflbgfcjaaDoorGrwM
import Derived.Test.YtoeifhflbgfcjaaDoorReg3
namespace Go.Proofs.YtoeifhflbgfcjaaDoor
open Go.RowKit
set_option linter.unusedSimpArgs false
set_option linter.unusedVariables false
set_option maxRecDepth 100000

theorem chF_true : chF true = gwF := rfl
theorem chF_false : chF false = skF := rfl
/-- The edge of a region. -/
def edG (xs : List Int) (n : Nat) (x y : Nat) : Bool := edF (rhF xs n) (y * 16 + x)
theorem grid_cells {w : World} {g n : Nat} {xs : List Int} (hc : ∀ x y : Nat, x ≤ 15 → y ≤ 15 → w.cell? ⟨g, y * 16 + x, none⟩ = some (.bool (rh xs x y n))) (j : Nat) (hj : j < 256) : w.cell? ⟨g, j, none⟩ = some (.bool (rhF xs n j)) := by
  have := hc (j % 16) (j / 16) (by omega) (by omega)
  rw [show j / 16 * 16 + j % 16 = j by omega] at this
  exact this
set_option maxHeartbeats 16000000 in
theorem s_changeRegion (more : Bool) (A : Option Addr) (n c : Nat) (xs : List Int) (k : Nat) (w : World) (hx : xs.length = 3 * n) (h : Rds .i64 w w.heap.size A xs) (hl : n ≤ 2000000) (hr : reg xs n) (hk : k ≤ 16) :
    Calls Tryd.prog 56 #[.slice A n c, .int .i64 (k : Int), .bool more] w (RunsI (chG more k xs n) w) := by
  have HG := Lib.hid (s_gridOf A n c xs w hx h hl hr)
  clear h hx hr
  go_enter Tryd.func56, Tryd.ntmps56
  go_wp2_with fail
  refine HG.out.mono ?_
  rintro e w1 ⟨rfl, hc1, hb1⟩
  have HI0 : Hid ((∀ j, j < 256 → w1.cell? ⟨w.heap.size, j, none⟩ = some (.bool (itF (chF more) 0 (rhF xs n) j))) ∧ Below w.heap.size w w1 ∧ w.heap.size < w1.heap.size) := Lib.hid ⟨grid_cells hc1, hb1, by
    rcases Nat.lt_or_ge w.heap.size w1.heap.size with h' | h'
    · exact h'
    · have := grid_cells hc1 0 (by omega)
      unfold World.cell? at this
      rw [Array.getElem?_eq_none h'] at this
      cases this⟩
  clear HG hc1 hb1
  go_wp2
  go_loopw [7, 8] (fun gv i wr => ∃ p g cg, p ≤ k ∧ gv = .slice (some ⟨g, 0, none⟩) 256 cg ∧ i = .int .i64 ((p : Nat) : Int) ∧ Hid ((∀ j, j < 256 → wr.cell? ⟨g, j, none⟩ = some (.bool (itF (chF more) p (rhF xs n) j))) ∧ Below w.heap.size w wr ∧ g < wr.heap.size)) (fun gv i _ => k - (intOf i).toNat)
  case atStart => exact ⟨0, w.heap.size, 256, Nat.zero_le _, rfl, rfl, HI0⟩
  case round =>
    clear HI0
    obtain ⟨p, g, cg, hp, rfl, rfl, hI⟩ := hrel
    rename World => wr
    have hI1 := Lib.hid hI.out.1
    have hI2 := Lib.hid hI.out.2.1
    have hI3 := Lib.hid hI.out.2.2
    clear hI
    by_cases hlt : p < k
    · have hpI : (p : Int) < (k : Int) := by omega
      cases more
      · go_wp2_with fail
        refine (s_shrink g cg _ wr hI3.out hI1.out).mono ?_
        rintro e w2 ⟨g2, c2, rfl, hx2, hb2⟩
        have HN : Hid ((∀ j, j < 256 → w2.cell? ⟨g2, j, none⟩ = some (.bool (itF (chF false) (p + 1) (rhF xs n) j))) ∧ Below w.heap.size w w2 ∧ g2 < w2.heap.size) := Lib.hid ⟨fun j hj => hx2.cell hj, hI2.out.trans (hb2.mono hI2.out.size), hx2.lt⟩
        clear hI1 hI2 hI3 hx2 hb2
        go_wp2
        go_roundw
        case rel => exact ⟨p + 1, g2, c2, by omega, rfl, by go_num, HN⟩
        case measure => simp [intOf]; omega
      · go_wp2_with fail
        refine (s_grow g cg _ wr hI3.out hI1.out).mono ?_
        rintro e w2 ⟨g2, c2, rfl, hx2, hb2⟩
        have HN : Hid ((∀ j, j < 256 → w2.cell? ⟨g2, j, none⟩ = some (.bool (itF (chF true) (p + 1) (rhF xs n) j))) ∧ Below w.heap.size w w2 ∧ g2 < w2.heap.size) := Lib.hid ⟨fun j hj => hx2.cell hj, hI2.out.trans (hb2.mono hI2.out.size), hx2.lt⟩
        clear hI1 hI2 hI3 hx2 hb2
        go_wp2
        go_roundw
        case rel => exact ⟨p + 1, g2, c2, by omega, rfl, by go_num, HN⟩
        case measure => simp [intOf]; omega
    · obtain rfl : p = k := by omega
      have hpI : ¬ (p : Int) < (p : Int) := by omega
      go_wp2_with fail
      refine (s_runsOf g cg (chG more p xs n) wr hI3.out (fun x y hx hy => hI1.out (y * 16 + x) (by omega))).mono ?_
      rintro e w2 ⟨v, rfl, hO, hb⟩
      have HE : Hid (RunsI (chG more p xs n) w (.returned v) w2) := Lib.hid ⟨v, rfl, hO.base_le hI2.out.size, hI2.out.trans (hb.mono hI2.out.size)⟩
      clear hO hb hI1 hI2 hI3
      go_wp2
      go_ret
      exact HE.out
set_option maxHeartbeats 8000000 in
theorem s_GrowRegion (A : Option Addr) (n c : Nat) (xs : List Int) (k : Int) (w : World) (hx : xs.length = 3 * n) (h : Rds .i64 w w.heap.size A xs) (hl : n ≤ 2000000) :
    Calls Tryd.prog 23 #[.slice A n c, .int .i64 k] w (RunsIf (chOk xs n k) (chG true k.toNat xs n) w) := by
  have HV := Lib.hid (s_validRuns A n c w.heap.size xs w hx h (Nat.le_refl _) hl)
  have HR := Lib.hid h
  have HX := Lib.hid hx
  clear h hx
  cases hr : regB xs n
  · have H : Hid (chOk xs n k = false) := Lib.hid (by unfold chOk; rw [hr, Bool.false_and])
    go_enter Tryd.func23, Tryd.ntmps23
    go_wp2_with fail
    refine HV.out.mono ?_
    rintro e w1 ⟨rfl, hb1⟩
    rw [hr]
    go_wp2
    go_ret
    exact RunsIf.no H.out hb1
  · cases hn : decide (0 ≤ k ∧ k ≤ 16)
    · have H : Hid (chOk xs n k = false) := Lib.hid (by unfold chOk; rw [hn, Bool.and_false])
      go_enter Tryd.func23, Tryd.ntmps23
      go_wp2_with fail
      refine HV.out.mono ?_
      rintro e w1 ⟨rfl, hb1⟩
      rw [hr]
      go_wp2_with fail
      refine (sIr_any k 0 16 w1).mono ?_
      rintro e w2 ⟨rfl, rfl⟩
      rw [hn]
      go_wp2
      go_ret
      exact RunsIf.no H.out hb1
    · have H : Hid (chOk xs n k = true) := Lib.hid (by unfold chOk; rw [hr, hn]; rfl)
      have HG := Lib.hid (regB_of hr)
      obtain ⟨K, hK⟩ := Int.eq_ofNat_of_zero_le (of_decide_eq_true hn).1
      have hK16 : K ≤ 16 := by have := (of_decide_eq_true hn).2; omega
      subst hK
      go_enter Tryd.func23, Tryd.ntmps23
      go_wp2_with fail
      refine HV.out.mono ?_
      rintro e w1 ⟨rfl, hb1⟩
      rw [hr]
      have HB1 := Lib.hid hb1
      clear hb1
      go_wp2_with fail
      refine (sIr_any (K : Int) 0 16 w1).mono ?_
      rintro e w2 ⟨rfl, rfl⟩
      rw [hn]
      go_wp2_with fail
      refine (s_changeRegion true A n c xs K w1 HX.out ((HR.out.below HB1.out).more HB1.out.size) hl HG.out hK16).mono ?_
      rintro e w3 hR
      have HE := Lib.hid (RunsIf.yes (w := w) (G := chG true K xs n) H.out (fun a b _ _ => rfl) HB1.out hR)
      obtain ⟨v3, rfl, _, _⟩ := hR
      clear HB1
      go_wp2
      go_ret
      exact HE.out
set_option maxHeartbeats 8000000 in
theorem s_ShrinkRegion (A : Option Addr) (n c : Nat) (xs : List Int) (k : Int) (w : World) (hx : xs.length = 3 * n) (h : Rds .i64 w w.heap.size A xs) (hl : n ≤ 2000000) :
    Calls Tryd.prog 26 #[.slice A n c, .int .i64 k] w (RunsIf (chOk xs n k) (chG false k.toNat xs n) w) := by
  have HV := Lib.hid (s_validRuns A n c w.heap.size xs w hx h (Nat.le_refl _) hl)
  have HR := Lib.hid h
  have HX := Lib.hid hx
  clear h hx
  cases hr : regB xs n
  · have H : Hid (chOk xs n k = false) := Lib.hid (by unfold chOk; rw [hr, Bool.false_and])
    go_enter Tryd.func26, Tryd.ntmps26
    go_wp2_with fail
    refine HV.out.mono ?_
    rintro e w1 ⟨rfl, hb1⟩
    rw [hr]
    go_wp2
    go_ret
    exact RunsIf.no H.out hb1
  · cases hn : decide (0 ≤ k ∧ k ≤ 16)
    · have H : Hid (chOk xs n k = false) := Lib.hid (by unfold chOk; rw [hn, Bool.and_false])
      go_enter Tryd.func26, Tryd.ntmps26
      go_wp2_with fail
      refine HV.out.mono ?_
      rintro e w1 ⟨rfl, hb1⟩
      rw [hr]
      go_wp2_with fail
      refine (sIr_any k 0 16 w1).mono ?_
      rintro e w2 ⟨rfl, rfl⟩
      rw [hn]
      go_wp2
      go_ret
      exact RunsIf.no H.out hb1
    · have H : Hid (chOk xs n k = true) := Lib.hid (by unfold chOk; rw [hr, hn]; rfl)
      have HG := Lib.hid (regB_of hr)
      obtain ⟨K, hK⟩ := Int.eq_ofNat_of_zero_le (of_decide_eq_true hn).1
      have hK16 : K ≤ 16 := by have := (of_decide_eq_true hn).2; omega
      subst hK
      go_enter Tryd.func26, Tryd.ntmps26
      go_wp2_with fail
      refine HV.out.mono ?_
      rintro e w1 ⟨rfl, hb1⟩
      rw [hr]
      have HB1 := Lib.hid hb1
      clear hb1
      go_wp2_with fail
      refine (sIr_any (K : Int) 0 16 w1).mono ?_
      rintro e w2 ⟨rfl, rfl⟩
      rw [hn]
      go_wp2_with fail
      refine (s_changeRegion false A n c xs K w1 HX.out ((HR.out.below HB1.out).more HB1.out.size) hl HG.out hK16).mono ?_
      rintro e w3 hR
      have HE := Lib.hid (RunsIf.yes (w := w) (G := chG false K xs n) H.out (fun a b _ _ => rfl) HB1.out hR)
      obtain ⟨v3, rfl, _, _⟩ := hR
      clear HB1
      go_wp2
      go_ret
      exact HE.out
/-- A region, shrunk (nothing if that cannot be). -/
def cnL (xs : List Int) (n : Nat) (k : Int) : List Int := cond (chOk xs n k) (rnL (chG false k.toNat xs n)) []
def cnN (xs : List Int) (n : Nat) (k : Int) : Nat := cond (chOk xs n k) (rnN (chG false k.toNat xs n)) 0
theorem cn_len (xs : List Int) (n : Nat) (k : Int) : (cnL xs n k).length = 3 * cnN xs n k ∧ cnN xs n k ≤ 300 := by
  have := rnL_len (chG false k.toNat xs n)
  unfold cnL cnN
  cases chOk xs n k
  · exact ⟨rfl, Nat.zero_le _⟩
  · exact ⟨this.1, by show rnN _ ≤ 300; omega⟩
/-- An answer out of a later world. -/
theorem RunsIf.later {ok : Bool} {G : Nat → Nat → Bool} {w u w' : World} {e : Ending} (hb : Below w.heap.size w u) (h : RunsIf ok G u e w') : RunsIf ok G w e w' := by
  obtain ⟨v, h1, h2, h3⟩ := h
  exact ⟨v, h1, h2.base_le hb.size, hb.trans (h3.mono hb.size)⟩
set_option maxHeartbeats 8000000 in
theorem s_OpenRegion (A : Option Addr) (n c : Nat) (xs : List Int) (k : Int) (w : World) (hx : xs.length = 3 * n) (h : Rds .i64 w w.heap.size A xs) (hl : n ≤ 2000000) :
    Calls Tryd.prog 30 #[.slice A n c, .int .i64 k] w (RunsIf (chOk (cnL xs n k) (cnN xs n k) k) (chG true k.toNat (cnL xs n k) (cnN xs n k)) w) := by
  have HC := Lib.hid (s_ShrinkRegion A n c xs k w hx h hl)
  clear h hx
  go_enter Tryd.func30, Tryd.ntmps30
  go_wp2_with fail
  refine HC.out.mono ?_
  rintro e w1 ⟨v1, rfl, hO1, hb1⟩
  obtain ⟨A1, c1, rfl, hc1⟩ := hO1.slice
  have HB1 := Lib.hid hb1
  have HR1 : Hid (Rds .i64 w1 w1.heap.size A1 (cnL xs n k)) := Lib.hid hO1.rds
  clear hO1 hb1 HC
  go_wp2_with fail
  refine (s_GrowRegion A1 (cnN xs n k) c1 (cnL xs n k) k w1 (cn_len xs n k).1 HR1.out (by have := (cn_len xs n k).2; omega)).mono ?_
  rintro e w2 hR
  have HE := Lib.hid (RunsIf.later HB1.out hR)
  obtain ⟨v2, rfl, _, _⟩ := hR
  clear HB1 HR1
  go_wp2
  go_ret
  exact HE.out
set_option maxHeartbeats 8000000 in
theorem s_EdgeOf (A : Option Addr) (n c : Nat) (xs : List Int) (w : World) (hx : xs.length = 3 * n) (h : Rds .i64 w w.heap.size A xs) (hl : n ≤ 2000000) :
    Calls Tryd.prog 17 #[.slice A n c] w (RunsIf (regB xs n) (edG xs n) w) := by
  have HV := Lib.hid (s_validRuns A n c w.heap.size xs w hx h (Nat.le_refl _) hl)
  have HR := Lib.hid h
  have HX := Lib.hid hx
  clear h hx
  cases hr : regB xs n
  · go_enter Tryd.func17, Tryd.ntmps17
    go_wp2_with fail
    refine HV.out.mono ?_
    rintro e w1 ⟨rfl, hb1⟩
    rw [hr]
    go_wp2
    go_ret
    exact RunsIf.no rfl hb1
  · have HG := Lib.hid (regB_of hr)
    go_enter Tryd.func17, Tryd.ntmps17
    go_wp2_with fail
    refine HV.out.mono ?_
    rintro e w1 ⟨rfl, hb1⟩
    rw [hr]
    have HB1 := Lib.hid hb1
    clear hb1
    go_wp2_with fail
    refine (s_gridOf A n c xs w1 HX.out ((HR.out.below HB1.out).more HB1.out.size) hl HG.out).mono ?_
    rintro e w2 ⟨rfl, hc2, hb2⟩
    have hlt : w1.heap.size < w2.heap.size := by
      rcases Nat.lt_or_ge w1.heap.size w2.heap.size with h' | h'
      · exact h'
      · have := grid_cells hc2 0 (by omega)
        unfold World.cell? at this
        rw [Array.getElem?_eq_none h'] at this
        cases this
    have HC := Lib.hid (s_edge w1.heap.size 256 (rhF xs n) w2 hlt (grid_cells hc2))
    have HB2 := Lib.hid (HB1.out.trans (hb2.mono HB1.out.size))
    clear hc2 hb2 HB1 hlt
    go_wp2_with fail
    refine HC.out.mono ?_
    rintro e w3 ⟨g3, c3, rfl, _, hx3, hb3⟩
    have HB3 := Lib.hid (HB2.out.trans (hb3.mono HB2.out.size))
    have HX3 := Lib.hid hx3
    clear hb3 HB2 HC hx3
    go_wp2_with fail
    refine (s_runsOf g3 c3 (edG xs n) w3 HX3.out.lt (fun x y hx hy => HX3.out.cell (j := y * 16 + x) (by omega))).mono ?_
    rintro e w4 hR
    have HE := Lib.hid (RunsIf.yes (ok := true) (w := w) (G := edG xs n) rfl (fun a b _ _ => rfl) HB3.out hR)
    obtain ⟨v4, rfl, _, _⟩ := hR
    clear HB3 HX3
    go_wp2
    go_ret
    exact HE.out
end Go.Proofs.YtoeifhflbgfcjaaDoor
