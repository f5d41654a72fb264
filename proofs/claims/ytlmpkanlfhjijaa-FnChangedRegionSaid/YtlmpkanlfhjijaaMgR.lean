/- HasS, RnS, RnI, GA, Dsc, DrawReg: one text of several. -/
import Derived.Test.YtlmpkanlfhjijaaHas
import Derived.Test.YtlmpkanlfhjijaaRnM
import Derived.Shelf.Abstract
import Derived.Test.YtlmpkanlfhjijaaGenP
import Derived.BigQuiet
import Derived.Test.YtlmpkanlfhjijaaSpoil
namespace Go.Proofs.Ytlmpkanlfhjijaa
open Go.RowKit
set_option linter.unusedSimpArgs false
set_option linter.unusedVariables false
set_option maxRecDepth 20000

/-- Block g holds the bools gs. -/
def GB (w : World) (g : Nat) (gs : List Bool) : Prop := w.heap[g]? = some (.cells (gs.map Value.bool).toArray 4 (0, 0))
theorem GB.cell {w : World} {g : Nat} {gs : List Bool} (h : GB w g gs) {j : Nat} (hj : j < gs.length) : w.cell? ⟨g, j, none⟩ = some (.bool (gs.getD j false)) := by
  rw [cell_of_row w g j _ _ _ h]; simp [hj]
theorem GB.frozen {w : World} {g : Nat} {gs : List Bool} (h : GB w g gs) (j : Nat) : w.frozen? ⟨g, j, none⟩ = false := frozen_of_row w g j _ _ h
theorem GB.put {w : World} {g : Nat} {gs : List Bool} (h : GB w g gs) (j : Nat) (b : Bool) : GB (w.setCell ⟨g, j, none⟩ (.bool b)) g (gs.set j b) := by
  unfold GB
  rw [heap_setCell_same w g j _ _ _ h]
  congr 2
  apply Array.toList_inj.1
  simp [List.map_set]
/-- 256 cells with false. -/
def gz : Array Value := ((List.replicate 256 false).map Value.bool).toArray
theorem info_bool : (Try.prog.info? 4).map (fun i => (i.zero, i.size, i.bytes)) = some (some (.bool false), 1, 1) := by kernel_rfl
theorem make_grid (W : World) : (Instr.makeSlice 114 (.int .i64 256) (.int .i64 256)).run Try.prog W = .ok (.slice (some ⟨W.heap.size, 0, none⟩) 256 256) (W.alloc (.cells gz 4)) := by
  obtain ⟨i, hi, hz, hs, hb⟩ := info_parts info_bool
  have h := run_make (P := Try.prog) W 114 4 i _ Try.underlying114 hi hz .i64 .i64 256 256 (by omega) (Int.le_refl _) (by rw [hb]; omega) (by omega)
  rw [hs] at h
  rw [h]
  have e : madeCells (Value.bool false).cells (Int.toNat 256 * 1) = gz := by
    unfold gz
    apply Array.toList_inj.1
    rw [show (Value.bool false).cells = #[Value.bool false] from rfl, toList_madeCells_one]
    simp
  rw [e]
  rfl
/-- Which cells the first k runs have. -/
def gd (xs : List Int) : Nat → Nat → Bool
  | 0, _ => false
  | k + 1, j => gd xs k j || decide (gY xs k * 16 + gF xs k ≤ j ∧ (j : Int) < gY xs k * 16 + gT xs k)
/-- .. and run k up to column z. -/
def gdx (xs : List Int) (k : Nat) (z : Int) (j : Nat) : Bool := gd xs k j || decide (gY xs k * 16 + gF xs k ≤ j ∧ (j : Int) < gY xs k * 16 + z)
theorem gdx_start (xs : List Int) (k j : Nat) : gdx xs k (gF xs k) j = gd xs k j := by
  unfold gdx; rw [decide_eq_false (by omega), Bool.or_false]
theorem gdx_end (xs : List Int) (k j : Nat) : gdx xs k (gT xs k) j = gd xs (k + 1) j := rfl
theorem gd_has {xs : List Int} {x y : Nat} (hx : x ≤ 15) (hy : y ≤ 15) : ∀ {n : Nat}, reg xs n → gd xs n (y * 16 + x) = rh xs x y n
  | 0, _ => rfl
  | k + 1, h => by
    have ih := gd_has hx hy (n := k) (fun j hj => h j (by omega))
    obtain ⟨⟨a0, a1⟩, ⟨b0, b1⟩, c0, c1⟩ := bnds h (show k < k + 1 by omega)
    unfold gd rh
    rw [ih]
    congr 1
    unfold runB
    rw [← Bool.decide_and]
    congr 1
    apply propext
    push_cast
    constructor
    · rintro ⟨h1, h2⟩
      have : (y : Int) = gY xs k := by omega
      exact ⟨this, by omega, by omega⟩
    · rintro ⟨h1, h2, h3⟩
      omega
def GridIs (xs : List Int) (k : Nat) (z : Int) (w : World) (g : Nat) : Prop := ∃ gs, GB w g gs ∧ gs.length = 256 ∧ ∀ j, j < 256 → gs.getD j false = gdx xs k z j
theorem GridIs.step {xs : List Int} {k : Nat} {z : Int} {w : World} {g j0 : Nat} (h : GridIs xs k z w g) (hz : (j0 : Int) = gY xs k * 16 + z) (hF : gF xs k ≤ z) (hj : j0 < 256) : GridIs xs k (z + 1) (w.setCell ⟨g, j0, none⟩ (.bool true)) g := by
  obtain ⟨gs, hg, hl, hv⟩ := h
  refine ⟨gs.set j0 true, hg.put j0 true, by simpa using hl, fun j hj' => ?_⟩
  have ho := hv j hj'
  by_cases e : j = j0
  · subst e
    have : (gs.set j true).getD j false = true := by simp [List.getD_eq_getElem?_getD, hl, hj']
    rw [this]
    unfold gdx
    rw [decide_eq_true (by omega), Bool.or_true]
  · have : (gs.set j0 true).getD j false = gs.getD j false := by simp [List.getD_eq_getElem?_getD, List.getElem?_set, Ne.symm e]
    rw [this, ho]
    unfold gdx
    congr 1
    congr 1
    apply propext
    have : (j : Int) ≠ j0 := by omega
    omega
end Go.Proofs.Ytlmpkanlfhjijaa
namespace Go.Proofs.Ytlmpkanlfhjijaa
open Go.RowKit
set_option linter.unusedSimpArgs false
set_option linter.unusedVariables false
set_option maxRecDepth 20000

/-- The answer is a new row with the runs of a grid. -/
def RunsI (G : Nat → Nat → Bool) (w : World) (e : Ending) (w' : World) : Prop :=
  ∃ v, e = .returned v ∧ OwnT 82 3 w' w.heap.size v (rnN G) (rnL G) ∧ Below w.heap.size w w'
/-- A cell of a run that is appended. -/
theorem run_cells (w : World) (a b c : Int) (T : TypeId) : ∀ q : Nat, q < [a, b, c].length → (w.alloc (.cells #[.int .i64 a, .int .i64 b, .int .i64 c] T)).cell? ⟨w.heap.size, q, none⟩ = some (.int .i64 ([a, b, c].getD q 0)) := fun q hq => by
  rw [cell_of_row _ _ _ _ _ _ (heap_alloc_new w _)]
  match q, hq with
  | 0, _ => rfl
  | 1, _ => rfl
  | 2, _ => rfl
/-- A row of runs that grows behind block base, the rest of memory kept. -/
def RnSt (u : World) (base : Nat) (w' : World) (l : Value) (xs : List Int) : Prop := ∃ n, xs.length = 3 * n ∧ n ≤ 300 ∧ OwnT 82 3 w' base l n xs ∧ Below base u w'
set_option maxHeartbeats 8000000 in
theorem s_runsOf (g c : Nat) (G : Nat → Nat → Bool) (w : World) (hg : g < w.heap.size) (hc : ∀ x y : Nat, x ≤ 15 → y ≤ 15 → w.cell? ⟨g, y * 16 + x, none⟩ = some (.bool (G x y))) :
    Calls Try.prog 94 #[.slice (some ⟨g, 0, none⟩) 256 c] w (RunsI G w) := by
  have HC := Lib.hid hc
  have H0 : Hid (RnSt w w.heap.size (w.alloc (.cells #[] 82)) (.slice (some ⟨w.heap.size, 0, none⟩) 0 0) (rnk G 0)) := Lib.hid ⟨0, rfl, by omega, OwnT.none _ _ _, (Below.refl _ _).alloc (Nat.le_refl _) _⟩
  clear hc
  go_enter Try.func94, Try.ntmps94
  go_wp2
  generalize w.alloc (.cells #[] 82) = u0 at *
  go_loopw [3, 4] (fun l i wr => ∃ y : Nat, y ≤ 16 ∧ i = .int .i64 y ∧ Hid (RnSt w w.heap.size wr l (rnk G y))) (fun _ i _ => 16 - (intOf i).toNat)
  case atStart => exact ⟨0, by omega, rfl, H0⟩
  case round =>
    clear H0
    obtain ⟨y, hy, rfl, hI⟩ := hrel
    by_cases hylt : y < 16
    · go_wp2
      go_loopw [3, 5, 6, 7] (fun l f i b wr => ∃ (k : Nat) (fr : Int), k ≤ 17 ∧ i = .int .i64 k ∧ f = .int .i64 fr ∧ Hid (fr = (rowS (rowG G y) y k).2) ∧ Hid (RnSt w w.heap.size wr l (rnk G y ++ (rowS (rowG G y) y k).1))) (fun _ _ i _ _ => 17 - (intOf i).toNat)
      case atStart => exact ⟨0, -1, by omega, rfl, rfl, Lib.hid rfl, by simpa [rowS] using hI⟩
      case round =>
        clear hI
        obtain ⟨k, fr, hk, rfl, rfl, hF, hJ⟩ := hrel
        by_cases hklt : k < 17
        · have hk' : k ≤ 16 := by omega
          by_cases h16 : k < 16
          · have hcell : wr.cell? ⟨g, y * 16 + k, none⟩ = some (.bool (G k y)) := by
              obtain ⟨n, hl, hn, hO, hbel⟩ := hJ.out
              exact (hbel.cell (p := ⟨g, y * 16 + k, none⟩) hg).trans (HC.out k y (by omega) (by omega))
            have r1 : ((y : Int) * 16 + (k : Int)).toNat = y * 16 + k := by omega
            have r2 : 0 ≤ (y : Int) * 16 + (k : Int) := by omega
            have r3 : (y : Int) * 16 + (k : Int) < 256 := by omega
            have hkI : (k : Int) < 16 := by omega
            have HB : Hid (rowG G y k = G k y) := Lib.hid (by unfold rowG; rw [decide_eq_true h16, Bool.true_and])
            cases hv : G k y
            all_goals rw [hv] at hcell HB
            all_goals clear hv
            · have hb : rowG G y k = false := HB.out
              by_cases h0 : fr < 0
              · have HN : Hid (fr = (rowS (rowG G y) y (k + 1)).2) := Lib.hid (by rw [rowS_off hb]; exact hF.out.trans (rowS_neg k (by rw [← hF.out]; exact h0)))
                have HS : Hid (RnSt w w.heap.size wr u3 (rnk G y ++ (rowS (rowG G y) y (k + 1)).1)) := Lib.hid (by
                  rw [rowS_off hb]; show RnSt w w.heap.size wr u3 (rnk G y ++ rowF (rowG G y) y k)
                  unfold rowF; rw [if_pos (by rw [← hF.out]; exact h0)]; exact hJ.out)
                clear hJ hF hb HB
                go_wp2
                go_roundw
                case rel => exact ⟨k + 1, fr, by omega, by go_num, rfl, HN, HS⟩
                case measure => simp [intOf]; omega
              · have HN : Hid ((-1 : Int) = (rowS (rowG G y) y (k + 1)).2) := Lib.hid (by rw [rowS_off hb])
                have HE : Hid (rnk G y ++ (rowS (rowG G y) y (k + 1)).1 = (rnk G y ++ (rowS (rowG G y) y k).1) ++ [(y : Int), fr, (k : Int)]) := Lib.hid (by
                  rw [rowS_off hb, hF.out]; show rnk G y ++ rowF (rowG G y) y k = _
                  unfold rowF; rw [if_neg (by rw [← hF.out]; exact h0), List.append_assoc])
                obtain ⟨n, hl, hn, hO, hbel⟩ := hJ.out
                have hn2 : n ≤ 290 := by
                  obtain ⟨n1, e1, e2⟩ := rnk_len G y
                  obtain ⟨n2, e3, e4, _⟩ := rowS_len (G := rowG G y) (y := (y : Int)) k
                  rw [List.length_append, e1, e3] at hl; omega
                have hf1 : fr < 100 := by
                  have := rowS_from (G := rowG G y) (y := (y : Int)) k
                  rw [← hF.out] at this; omega
                obtain ⟨A1, c1, rfl, hc1⟩ := hO.slice
                have HO := Lib.hid (hO.alloc (.cells #[.int .i64 (y : Int), .int .i64 fr, .int .i64 (k : Int)] 82))
                have HLt := Lib.hid hO.lt
                have HA := Lib.hid (hbel.alloc hbel.size (.cells #[.int .i64 (y : Int), .int .i64 fr, .int .i64 (k : Int)] 82))
                have HsB : Hid (w.heap.size ≤ wr.heap.size) := Lib.hid hbel.size
                have HRC := Lib.hid (run_cells wr (y : Int) fr (k : Int) 82)
                have HL := Lib.hid hl
                clear hO hbel hJ hF hb HB hl
                go_wp2_with (at_builtin; refine wpList_appRun rfl (.tmp 40) (.tmp 45) rfl w.heap.size (.slice A1 n c1) n _ rfl HO.out wr.heap.size 1 1 [(y : Int), fr, (k : Int)] rfl (by simp) HRC.out (by omega) (by have := HsB.out; simp; omega) ?_; intro v2 w2 hO2 hG2)
                have HS : Hid (RnSt w w.heap.size w2 v2 (rnk G y ++ (rowS (rowG G y) y (k + 1)).1)) := Lib.hid (by
                  rw [HE.out]
                  exact ⟨n + 1, by rw [List.length_append, HL.out]; simp; omega, by omega, hO2, HA.out.grown hG2 HA.out.size (fun k hk => (HLt.out k hk).1)⟩)
                clear hO2 hG2 HA HO HRC HE HL
                go_wp2
                go_roundw
                case rel => exact ⟨v2, .int .i64 (-1), .int .i64 ((k + 1 : Nat) : Int), ⟨k + 1, by omega, rfl, -1, rfl, HN, HS⟩, rfl, rfl, by go_num⟩
                case measure => simp [intOf]; omega
            · have hb : rowG G y k = true := HB.out
              have HS : Hid (RnSt w w.heap.size wr u3 (rnk G y ++ (rowS (rowG G y) y (k + 1)).1)) := Lib.hid (by rw [rowS_on hb]; exact hJ.out)
              by_cases h0 : fr < 0
              · have HN : Hid ((k : Int) = (rowS (rowG G y) y (k + 1)).2) := Lib.hid (by rw [rowS_on hb]; simp only; rw [if_pos (by rw [← hF.out]; exact h0)])
                clear hJ hF hb HB
                go_wp2
                go_roundw
                case rel => exact ⟨k + 1, (k : Int), by omega, by go_num, rfl, HN, HS⟩
                case measure => simp [intOf]; omega
              · have HN : Hid (fr = (rowS (rowG G y) y (k + 1)).2) := Lib.hid (by rw [rowS_on hb]; simp only; rw [if_neg (by rw [← hF.out]; exact h0)]; exact hF.out)
                clear hJ hF hb HB
                go_wp2
                go_roundw
                case rel => exact ⟨k + 1, fr, by omega, by go_num, rfl, HN, HS⟩
                case measure => simp [intOf]; omega
          · have hkI : ¬ (k : Int) < 16 := by omega
            have HB : Hid (rowG G y k = false) := Lib.hid (by unfold rowG; rw [decide_eq_false h16, Bool.false_and])
            have hb : rowG G y k = false := HB.out
            by_cases h0 : fr < 0
            · have HN : Hid (fr = (rowS (rowG G y) y (k + 1)).2) := Lib.hid (by rw [rowS_off hb]; exact hF.out.trans (rowS_neg k (by rw [← hF.out]; exact h0)))
              have HS : Hid (RnSt w w.heap.size wr u3 (rnk G y ++ (rowS (rowG G y) y (k + 1)).1)) := Lib.hid (by
                rw [rowS_off hb]; show RnSt w w.heap.size wr u3 (rnk G y ++ rowF (rowG G y) y k)
                unfold rowF; rw [if_pos (by rw [← hF.out]; exact h0)]; exact hJ.out)
              clear hJ hF hb HB
              go_wp2
              go_roundw
              case rel => exact ⟨k + 1, fr, by omega, by go_num, rfl, HN, HS⟩
              case measure => simp [intOf]; omega
            · have HN : Hid ((-1 : Int) = (rowS (rowG G y) y (k + 1)).2) := Lib.hid (by rw [rowS_off hb])
              have HE : Hid (rnk G y ++ (rowS (rowG G y) y (k + 1)).1 = (rnk G y ++ (rowS (rowG G y) y k).1) ++ [(y : Int), fr, (k : Int)]) := Lib.hid (by
                rw [rowS_off hb, hF.out]; show rnk G y ++ rowF (rowG G y) y k = _
                unfold rowF; rw [if_neg (by rw [← hF.out]; exact h0), List.append_assoc])
              obtain ⟨n, hl, hn, hO, hbel⟩ := hJ.out
              have hn2 : n ≤ 290 := by
                obtain ⟨n1, e1, e2⟩ := rnk_len G y
                obtain ⟨n2, e3, e4, _⟩ := rowS_len (G := rowG G y) (y := (y : Int)) k
                rw [List.length_append, e1, e3] at hl; omega
              have hf1 : fr < 100 := by
                have := rowS_from (G := rowG G y) (y := (y : Int)) k
                rw [← hF.out] at this; omega
              obtain ⟨A1, c1, rfl, hc1⟩ := hO.slice
              have HO := Lib.hid (hO.alloc (.cells #[.int .i64 (y : Int), .int .i64 fr, .int .i64 (k : Int)] 82))
              have HLt := Lib.hid hO.lt
              have HA := Lib.hid (hbel.alloc hbel.size (.cells #[.int .i64 (y : Int), .int .i64 fr, .int .i64 (k : Int)] 82))
              have HsB : Hid (w.heap.size ≤ wr.heap.size) := Lib.hid hbel.size
              have HRC := Lib.hid (run_cells wr (y : Int) fr (k : Int) 82)
              have HL := Lib.hid hl
              clear hO hbel hJ hF hb HB hl
              go_wp2_with (at_builtin; refine wpList_appRun rfl (.tmp 40) (.tmp 45) rfl w.heap.size (.slice A1 n c1) n _ rfl HO.out wr.heap.size 1 1 [(y : Int), fr, (k : Int)] rfl (by simp) HRC.out (by omega) (by have := HsB.out; simp; omega) ?_; intro v2 w2 hO2 hG2)
              have HS : Hid (RnSt w w.heap.size w2 v2 (rnk G y ++ (rowS (rowG G y) y (k + 1)).1)) := Lib.hid (by
                rw [HE.out]
                exact ⟨n + 1, by rw [List.length_append, HL.out]; simp; omega, by omega, hO2, HA.out.grown hG2 HA.out.size (fun k hk => (HLt.out k hk).1)⟩)
              clear hO2 hG2 HA HO HRC HE HL
              go_wp2
              go_roundw
              case rel => exact ⟨v2, .int .i64 (-1), .int .i64 ((k + 1 : Nat) : Int), ⟨k + 1, by omega, rfl, -1, rfl, HN, HS⟩, rfl, rfl, by go_num⟩
              case measure => simp [intOf]; omega
        · have HN : Hid (RnSt w w.heap.size wr u3 (rnk G (y + 1))) := Lib.hid (by have := hJ.out; rwa [show k = 17 by omega] at this)
          clear hJ hF
          go_wp2
          go_roundw
          case rel => exact ⟨y + 1, by omega, by go_num, HN⟩
          case measure => simp [intOf]; omega
    · obtain ⟨n, hl, hn, hO, hbel⟩ := hI.out
      obtain ⟨A1, c1, rfl, hc1⟩ := hO.slice
      have HE : Hid (RunsI G w (.returned (.slice A1 n c1)) wr) := Lib.hid (by
        have e : rnk G y = rnL G := by rw [show y = 16 by omega]; rfl
        rw [e] at hl hO
        have e2 : n = rnN G := by have := (rnL_len G).1; omega
        refine ⟨_, rfl, ?_, hbel⟩
        rw [← e2]; exact hO)
      clear hI hO hbel hl
      go_wp2
      go_ret
      exact HE.out
end Go.Proofs.Ytlmpkanlfhjijaa
namespace Go.Proofs.Ytlmpkanlfhjijaa
open Go.RowKit
set_option linter.unusedSimpArgs false
set_option linter.unusedVariables false
set_option maxRecDepth 20000

theorem RnSt.call {u w w' : World} {base : Nat} {l : Value} {xs : List Int} (h : RnSt u base w l xs) (hb : Below w.heap.size w w') (hB : base ≤ w.heap.size) : RnSt u base w' l xs := by
  obtain ⟨n, h1, h2, h3, h4⟩ := h
  exact ⟨n, h1, h2, h3.below hb (Nat.le_refl _), h4.trans (hb.mono hB)⟩
theorem set_last {L : List Int} {m : Nat} (hl : L.length = 3 * m) (a b c d : Int) : (L ++ [a, b, c]).set (m * 3 + 2) d = L ++ [a, b, d] := by
  rw [List.set_append_right _ _ (by omega), show m * 3 + 2 - L.length = 2 by omega]
  rfl
set_option maxHeartbeats 8000000 in
theorem i_regionWhere (W H : Nat) (hW : W ≤ 16) (hH : H ≤ 16) (f : Nat) (cs : Array Value) (G : Nat → Nat → Bool) (w : World)
    (eg : ∀ args w, (callFunc f args).run Try.prog w = .ok (.enter f args) w)
    (hc : ∀ (x y : Nat) (w' : World), x < W → y < H → Below w.heap.size w w' → Calls Try.prog f (#[.int .i64 (x : Int), .int .i64 (y : Int)] ++ cs) w' fun e w'' => e = .returned (.bool (G x y)) ∧ Below w'.heap.size w' w'')
    (hGx : ∀ x y, W ≤ x → G x y = false) (hGy : ∀ x y, H ≤ y → G x y = false) :
    Calls Try.prog 56 #[.int .i64 (W : Int), .int .i64 (H : Int), .func (.func f) #[] cs] w (RunsI G w) := by
  have HC := Lib.hid hc
  have HGx := Lib.hid hGx
  have HGy := Lib.hid hGy
  have HI0 : Hid (RnSt w w.heap.size w (.slice none 0 0) (rnk G 0)) := Lib.hid ⟨0, rfl, by omega, OwnT.nil _ _ _ _, Below.refl _ _⟩
  clear hc hGx hGy
  go_enter Try.func56, Try.ntmps56
  go_wp2
  go_loopw [7, 12] (fun v i wr => ∃ y : Nat, y ≤ H ∧ i = .int .i64 y ∧ Hid (RnSt w w.heap.size wr v (rnk G y))) (fun _ i _ => H - (intOf i).toNat)
  case atStart => exact ⟨0, Nat.zero_le _, rfl, HI0⟩
  case round =>
    clear HI0
    obtain ⟨y, hy, rfl, hI⟩ := hrel
    by_cases hylt : y < H
    · go_wp2
      go_loopw [7, 16] (fun v i wr => ∃ k : Nat, k ≤ W ∧ i = .int .i64 k ∧ Hid (RnSt w w.heap.size wr v (rnk G y ++ rowF (rowG G y) y k))) (fun _ i _ => W - (intOf i).toNat)
      case atStart => exact ⟨0, Nat.zero_le _, rfl, by rw [rowF_zero, List.append_nil]; exact hI⟩
      case round =>
        clear hI
        obtain ⟨k, hk, rfl, hJ⟩ := hrel
        by_cases hklt : k < W
        · have hsz : w.heap.size ≤ wr.heap.size := by obtain ⟨n, _, _, _, hb⟩ := hJ.out; exact hb.size
          have hbl : Below w.heap.size w wr := by obtain ⟨n, _, _, _, hb⟩ := hJ.out; exact hb
          go_wp2_with fail
          refine (HC.out k y wr hklt hylt hbl).mono ?_
          rintro e w2 ⟨rfl, hB2⟩
          have HK := Lib.hid (hJ.out.call hB2 hsz)
          have HsB : Hid (w.heap.size ≤ w2.heap.size) := Lib.hid (by have := hB2.size; omega)
          have HR : Hid (rowG G y k = G k y) := Lib.hid (by unfold rowG; rw [decide_eq_true (by omega), Bool.true_and])
          clear hJ hB2 hbl hsz
          cases hv : G k y
          · have HN : Hid (RnSt w w.heap.size w2 u7 (rnk G y ++ rowF (rowG G y) y (k + 1))) := Lib.hid (by rw [rowF_off (by rw [HR.out, hv])]; exact HK.out)
            clear HK hv
            go_wp2
            go_roundw
            case rel => exact ⟨k + 1, by omega, by go_num, HN⟩
            case measure => simp [intOf]; omega
          · have hb : rowG G y k = true := by rw [HR.out, hv]
            clear hv HR
            by_cases h0 : (rowS (rowG G y) y k).2 < 0
            · -- a new run
              have HE : Hid (rnk G y ++ rowF (rowG G y) y (k + 1) = (rnk G y ++ rowF (rowG G y) y k) ++ [(y : Int), (k : Int), (k : Int) + 1]) := Lib.hid (by
                rw [rowF_on_new hb h0, List.append_assoc]; simp)
              have HLast := Lib.hid (open_no h0)
              obtain ⟨n, hl, hn, hO, hbel⟩ := HK.out
              have hn2 : n ≤ 290 := by
                obtain ⟨n1, e1, e2⟩ := rnk_len G y
                obtain ⟨n2, e3, e4⟩ := rowF_len (G := rowG G y) (y := (y : Int)) k
                rw [List.length_append, e1, e3] at hl; omega
              obtain ⟨A1, c1, rfl, hc1⟩ := hO.slice
              have HO := Lib.hid (hO.alloc (.cells #[.int .i64 (y : Int), .int .i64 (k : Int), .int .i64 ((k : Int) + 1)] 82))
              have HLt := Lib.hid hO.lt
              have HA := Lib.hid (hbel.alloc hbel.size (.cells #[.int .i64 (y : Int), .int .i64 (k : Int), .int .i64 ((k : Int) + 1)] 82))
              have HRC := Lib.hid (run_cells w2 (y : Int) (k : Int) ((k : Int) + 1) 82)
              have HL := Lib.hid hl
              have hcase : n = 0 ∨ ∃ (m : Nat) (a c : Int), n = m + 1 ∧ 0 < n ∧ A1 ≠ none ∧ (∀ ad, A1 = some ad → w2.cell? ⟨ad.block, ad.off + m * 3, none⟩ = some (.int .i64 a) ∧ w2.cell? ⟨ad.block, ad.off + m * 3 + 2, none⟩ = some (.int .i64 c) ∧ ad.spot = none) ∧ (a < (y : Int) ∨ (a = (y : Int) ∧ c < (k : Int))) := by
                rcases Nat.eq_zero_or_pos n with h | h
                · exact .inl h
                · obtain ⟨m, rfl⟩ : ∃ m, n = m + 1 := ⟨n - 1, by omega⟩
                  have hg := HLast.out.get hl h
                  rw [Nat.add_sub_cancel] at hg
                  obtain ⟨gg, cap, ev, hbg, hgl⟩ := hO.form h
                  simp only [Value.slice.injEq] at ev
                  obtain ⟨rfl, _, rfl⟩ := ev
                  refine .inr ⟨m, gY (rnk G y ++ rowF (rowG G y) y k) m, gT (rnk G y ++ rowF (rowG G y) y k) m, rfl, h, by simp, fun ad had => ?_, hg⟩
                  obtain rfl := Option.some.inj had
                  refine ⟨?_, ?_, rfl⟩
                  · rw [Nat.zero_add]; exact hO.cell (by omega)
                  · rw [Nat.zero_add]; exact hO.cell (by omega)
              clear hO hbel HK h0 hb hl HLast
              rcases hcase with rfl | ⟨m, a, c, rfl, _, hne, hcl, hg⟩
              · go_wp2_with (at_builtin; refine wpList_appRun rfl (.tmp 55) (.tmp 61) rfl w.heap.size (.slice A1 0 c1) 0 _ rfl HO.out w2.heap.size 1 1 [(y : Int), (k : Int), (k : Int) + 1] rfl (by simp) HRC.out (by omega) (by have := HsB.out; simp; omega) ?_; intro v3 w3 hO3 hG3)
                have HN : Hid (RnSt w w.heap.size w3 v3 (rnk G y ++ rowF (rowG G y) y (k + 1))) := Lib.hid (by
                  rw [HE.out]
                  exact ⟨1, by rw [List.length_append, HL.out]; simp, by omega, hO3, HA.out.grown hG3 HA.out.size (fun k hk => (HLt.out k hk).1)⟩)
                clear hO3 hG3 HA HO HRC HE HL
                go_wp2
                go_roundw
                case rel => exact ⟨k + 1, by omega, by go_num, HN⟩
                case measure => simp [intOf]; omega
              · obtain ⟨ad, rfl⟩ := Option.ne_none_iff_exists'.1 hne
                obtain ⟨c0, c2, hel⟩ := hcl ad rfl
                obtain ⟨ab, ao, ae⟩ := ad
                simp only at c0 c2 hel
                subst hel
                clear hcl hne
                by_cases ha : a = (y : Int)
                · have hcne : ¬ c = (k : Int) := by omega
                  have hcneB : (c == (k : Int)) = false := beq_eq_false_iff_ne.2 hcne
                  subst ha
                  go_wp2_with (at_builtin; refine wpList_appRun rfl (.tmp 55) (.tmp 61) rfl w.heap.size (.slice (some ⟨ab, ao, none⟩) (m + 1) c1) (m + 1) _ rfl HO.out w2.heap.size 1 1 [(y : Int), (k : Int), (k : Int) + 1] rfl (by simp) HRC.out (by omega) (by have := HsB.out; simp; omega) ?_; intro v3 w3 hO3 hG3)
                  have HN : Hid (RnSt w w.heap.size w3 v3 (rnk G y ++ rowF (rowG G y) y (k + 1))) := Lib.hid (by
                    rw [HE.out]
                    exact ⟨m + 1 + 1, by rw [List.length_append, HL.out]; simp; omega, by omega, hO3, HA.out.grown hG3 HA.out.size (fun k hk => (HLt.out k hk).1)⟩)
                  clear hO3 hG3 HA HO HRC HE HL c0 c2
                  go_wp2
                  go_roundw
                  case rel => exact ⟨k + 1, by omega, by go_num, HN⟩
                  case measure => simp [intOf]; omega
                · have haB : (a == (y : Int)) = false := beq_eq_false_iff_ne.2 ha
                  go_wp2_with (at_builtin; refine wpList_appRun rfl (.tmp 55) (.tmp 61) rfl w.heap.size (.slice (some ⟨ab, ao, none⟩) (m + 1) c1) (m + 1) _ rfl HO.out w2.heap.size 1 1 [(y : Int), (k : Int), (k : Int) + 1] rfl (by simp) HRC.out (by omega) (by have := HsB.out; simp; omega) ?_; intro v3 w3 hO3 hG3)
                  have HN : Hid (RnSt w w.heap.size w3 v3 (rnk G y ++ rowF (rowG G y) y (k + 1))) := Lib.hid (by
                    rw [HE.out]
                    exact ⟨m + 1 + 1, by rw [List.length_append, HL.out]; simp; omega, by omega, hO3, HA.out.grown hG3 HA.out.size (fun k hk => (HLt.out k hk).1)⟩)
                  clear hO3 hG3 HA HO HRC HE HL c0 c2
                  go_wp2
                  go_roundw
                  case rel => exact ⟨k + 1, by omega, by go_num, HN⟩
                  case measure => simp [intOf]; omega
            · -- the last run grows
              obtain ⟨e1, e2⟩ := rowF_on_old hb h0
              obtain ⟨n, hl, hn, hO, hbel⟩ := HK.out
              rw [e1, ← List.append_assoc] at hl hO
              obtain ⟨m, rfl⟩ : ∃ m, n = m + 1 := ⟨n - 1, by simp at hl; omega⟩
              have hlm : (rnk G y ++ (rowS (rowG G y) y k).1).length = 3 * m := by rw [List.length_append] at hl; simp at hl ⊢; omega
              obtain ⟨gg, cap, rfl, hbg, hgl⟩ := hO.form (by omega)
              obtain ⟨q1, q2, q3⟩ := gY_new hlm (y : Int) (rowS (rowG G y) y k).2 (k : Int)
              have c0 := hO.cell (j := m * 3) (by omega)
              have c2 := hO.cell (j := m * 3 + 2) (by omega)
              have f2 := hO.frozen (m * 3 + 2)
              rw [show List.getD _ (m * 3) 0 = (y : Int) from q1] at c0
              rw [show List.getD _ (m * 3 + 2) 0 = (k : Int) from q3] at c2
              have hp := hO.put (m * 3 + 2) ((k : Int) + 1)
              rw [set_last hlm] at hp
              have HN : Hid (RnSt w w.heap.size (w2.setCell ⟨gg, m * 3 + 2, none⟩ (.int .i64 ((k : Int) + 1))) (.slice (some ⟨gg, 0, none⟩) (m + 1) cap) (rnk G y ++ rowF (rowG G y) y (k + 1))) := Lib.hid (by
                rw [e2, ← List.append_assoc, show ((k + 1 : Nat) : Int) = (k : Int) + 1 by omega]
                exact ⟨m + 1, by rw [List.length_append] at hl ⊢; simp at hl ⊢; omega, hn, hp.1, hbel.setCell (by exact hbg) _⟩)
              have hcap : m + 1 ≤ cap := by
                obtain ⟨A9, c9, e9, h9⟩ := hO.slice
                simp only [Value.slice.injEq] at e9
                omega
              clear hO hbel HK h0 hb hl hlm e1 e2 q1 q2 q3 hp
              go_wp2
              go_roundw
              case rel => exact ⟨k + 1, by omega, by go_num, HN⟩
              case measure => simp [intOf]; omega
        · have HN : Hid (RnSt w w.heap.size wr u7 (rnk G (y + 1))) := Lib.hid (by
            rw [rnk_row hW (fun x hx => HGx.out x y hx)]
            have := hJ.out
            rwa [show k = W by omega] at this)
          clear hJ
          go_wp2
          go_roundw
          case rel => exact ⟨y + 1, by omega, by go_num, HN⟩
          case measure => simp [intOf]; omega
    · obtain ⟨n, hl, hn, hO, hbel⟩ := hI.out
      obtain ⟨A1, c1, rfl, hc1⟩ := hO.slice
      have HE : Hid (RunsI G w (.returned (.slice A1 n c1)) wr) := Lib.hid (by
        have e : rnk G y = rnL G := by rw [show y = H by omega]; exact (rnL_of hH HGy.out).symm
        rw [e] at hl hO
        have e2 : n = rnN G := by have := (rnL_len G).1; omega
        refine ⟨_, rfl, ?_, hbel⟩
        rw [← e2]; exact hO)
      clear hI hO hbel hl
      go_wp2
      go_ret
      exact HE.out
end Go.Proofs.Ytlmpkanlfhjijaa
namespace Go.Proofs.Ytlmpkanlfhjijaa
open Go.RowKit
set_option linter.unusedSimpArgs false
set_option linter.unusedVariables false

theorem bel_grown0 {w w' : World} (hG : w.grownBy w' none) : Below w.heap.size w w' := ⟨hG.os, hG.tape, hG.output, hG.size, fun i hi => hG.block i hi (by simp)⟩
/-- The row v (of n elements) lies behind block base and may grow; the state's rows and boxes lie ahead of it. -/
def GR (W0 w : World) (base : Nat) (E : TypeId) (C : Nat) (v : Value) (n : Nat) (cs : List Value) (L : List Rg) (Bs : List Bxg) : Prop :=
  GS W0 w L Bs ∧ w.ownsRow base E C v n cs ∧ (∀ b ∈ Bs, b.g < base) ∧ (∀ t ∈ L, t.hi ≤ base) ∧ base ≤ w.heap.size ∧ W0.heap.size ≤ base
/-- The same of a row of numbers. -/
def GA (W0 w : World) (base : Nat) (v : Value) (xs : List Int) (L : List Rg) (Bs : List Bxg) : Prop := GR W0 w base 3 1 v xs.length (xs.map (.int .i64)) L Bs
section
variable {W0 w w' : World} {base : Nat} {v v' : Value} {xs ys : List Int} {E : TypeId} {C n n' : Nat} {cs cs' : List Value} {L : List Rg} {Bs : List Bxg}
theorem GR.start {w1 : World} (h : GS W0 w L Bs) (hG : w.grownBy w1 none) (hO : w1.ownsRow w.heap.size E C v n cs) : GR W0 w1 w.heap.size E C v n cs L Bs :=
  ⟨h.call (bel_grown0 hG), hO, fun b hb => (h.2.2.2.1 b hb).1.lt, fun t ht => (h.2.1 t ht).2.2, hG.size, h.1.size⟩
theorem GR.nil (h : GS W0 w L Bs) (E : TypeId) (C : Nat) : GR W0 w w.heap.size E C (.slice none 0 0) 0 [] L Bs :=
  ⟨h, World.ownsRow_nil _ _ _ _, fun b hb => (h.2.2.2.1 b hb).1.lt, fun t ht => (h.2.1 t ht).2.2, Nat.le_refl _, h.1.size⟩
theorem GR.call (h : GR W0 w base E C v n cs L Bs) (hb : Below w.heap.size w w') : GR W0 w' base E C v n cs L Bs :=
  ⟨h.1.call hb, ownsRow_keep h.2.1 fun g hg => hb.block g (World.ownsRow.lt h.2.1 g hg).2, h.2.2.1, h.2.2.2.1, Nat.le_trans h.2.2.2.2.1 hb.size, h.2.2.2.2.2⟩
theorem GR.alloc (h : GR W0 w base E C v n cs L Bs) (o : Obj) : GR W0 (w.alloc o) base E C v n cs L Bs := h.call ((Below.refl _ _).alloc (Nat.le_refl _) _)
theorem GR.drew (h : GR W0 w base E C v n cs L Bs) : GR W0 w.drew base E C v n cs L Bs := ⟨h.1.drew, h.2⟩
theorem GR.drewN (h : GR W0 w base E C v n cs L Bs) (k : Nat) : GR W0 (w.drewN k) base E C v n cs L Bs := ⟨h.1.drewN k, h.2⟩
theorem GR.app (h : GR W0 w base E C v n cs L Bs) (hO : w'.ownsRow base E C v' n' cs') (hG : w.grownBy w' v.ownBlock) : GR W0 w' base E C v' n' cs' L Bs := by
  have hlt := World.ownsRow.lt h.2.1
  have hW : ∀ k, v.ownBlock = some k → base ≤ k := fun k hk => (hlt k hk).1
  have hbelow : ∀ i, i < base → w'.heap[i]? = w.heap[i]? := fun i hi => hG.block i (Nat.lt_of_lt_of_le hi h.2.2.2.2.1) (fun e => by have := hW i e.symm; omega)
  refine ⟨⟨h.1.1.grown hG h.1.1.size (fun k hk => Nat.le_trans h.2.2.2.2.2 (hW k hk)), fun t ht => ?_, h.1.2.2.1, fun b hb => ?_, h.1.2.2.2.2⟩, hO, h.2.2.1, h.2.2.2.1, Nat.le_trans h.2.2.2.2.1 hG.size, h.2.2.2.2.2⟩
  · have ht' := h.1.2.1 t ht
    have := h.2.2.2.1 t ht
    exact ⟨ht'.1.keep fun g h1 h2 => hbelow g (by omega), ht'.2.1, Nat.le_trans ht'.2.2 hG.size⟩
  · have hb' := h.1.2.2.2.1 b hb
    exact ⟨(hbelow b.g (h.2.2.1 b hb)).trans hb'.1, hb'.2⟩
/-- The row has grown enough: it is one of the state's. -/
theorem GR.done (h : GR W0 w base E C v n cs L Bs) : GS W0 w (⟨base, w.heap.size, E, C, v, n, cs⟩ :: L) Bs := by
  refine ⟨h.1.1, fun t ht => ?_, .cons (fun t ht => .inl (h.2.2.2.1 t ht)) h.1.2.2.1, fun b hb => ⟨(h.1.2.2.2.1 b hb).1, (h.1.2.2.2.1 b hb).2.1, fun t ht => ?_⟩, h.1.2.2.2.2⟩
  · rcases List.mem_cons.1 ht with rfl | ht
    · exact ⟨⟨h.2.1, fun g hg => (World.ownsRow.lt h.2.1 g hg).2⟩, h.2.2.2.2.2, Nat.le_refl _⟩
    · exact h.1.2.1 t ht
  · rcases List.mem_cons.1 ht with rfl | ht
    · exact .inr (h.2.2.1 b hb)
    · exact (h.1.2.2.2.1 b hb).2.2 t ht
theorem GR.slice (h : GR W0 w base E C v n cs L Bs) : ∃ A c, v = .slice A n c ∧ n ≤ c := by
  rcases h.2.1.2 with ⟨rfl, rfl⟩ | ⟨g, cap, cur, rfl, _, _, hnc, _⟩
  · exact ⟨none, 0, rfl, Nat.le_refl _⟩
  · exact ⟨_, cap, rfl, hnc⟩
theorem GA.start {w1 : World} (h : GS W0 w L Bs) (hG : w.grownBy w1 none) (hO : Own w1 w.heap.size v xs) : GA W0 w1 w.heap.size v xs L Bs := GR.start h hG hO
theorem GA.nil (h : GS W0 w L Bs) : GA W0 w w.heap.size (.slice none 0 0) [] L Bs := GR.nil h _ _
theorem GA.call (h : GA W0 w base v xs L Bs) (hb : Below w.heap.size w w') : GA W0 w' base v xs L Bs := GR.call h hb
theorem GA.alloc (h : GA W0 w base v xs L Bs) (o : Obj) : GA W0 (w.alloc o) base v xs L Bs := GR.alloc h o
theorem GA.drew (h : GA W0 w base v xs L Bs) : GA W0 w.drew base v xs L Bs := GR.drew h
theorem GA.drewN (h : GA W0 w base v xs L Bs) (k : Nat) : GA W0 (w.drewN k) base v xs L Bs := GR.drewN h k
theorem GA.app (h : GA W0 w base v xs L Bs) (hO : Own w' base v' ys) (hG : w.grownBy w' v.ownBlock) : GA W0 w' base v' ys L Bs := GR.app h hO hG
theorem GA.done (h : GA W0 w base v xs L Bs) : GS W0 w (ri base w.heap.size v xs :: L) Bs := GR.done h
theorem GA.own (h : GA W0 w base v xs L Bs) : Own w base v xs := h.2.1
theorem GA.gs (h : GA W0 w base v xs L Bs) : GS W0 w L Bs := h.1
theorem GA.bs (h : GA W0 w base v xs L Bs) : base ≤ w.heap.size := h.2.2.2.2.1
end
end Go.Proofs.Ytlmpkanlfhjijaa
namespace Go.Proofs.Ytlmpkanlfhjijaa
open Go.RowKit
set_option linter.unusedSimpArgs false
set_option linter.unusedVariables false
set_option maxRecDepth 20000

theorem bo1 {w : World} {g : Nat} {T : TypeId} {a : Value} (h : Bx w g T #[a]) : w.cell? ⟨g, 0, none⟩ = some a := cell_of_row w g 0 _ _ _ h
theorem mul_bd16 {c : Int} {k : Nat} (h : -(k : Int) ≤ c ∧ c ≤ k) (hk : k ≤ 1000) : 0 ≤ c * c ∧ c * c ≤ 1000000 := by
  have h4 := Int.natAbs_mul_self (a := c)
  have h5 : c.natAbs ≤ 1000 := by omega
  have h6 := Nat.mul_le_mul h5 h5
  omega
def dscG (x y r : Int) (c o : Nat) : Bool := decide (((c : Int) - x) * ((c : Int) - x) + ((o : Int) - y) * ((o : Int) - y) ≤ r * r)
def dscG' (x y r : Int) (c o : Nat) : Bool := decide (c < 16) && (decide (o < 16) && dscG x y r c o)
def ongB (x y : Int) : Bool := decide (0 ≤ x ∧ x ≤ 15) && decide (0 ≤ y ∧ y ≤ 15)
def dscOk (x y r : Int) : Bool := ongB x y && decide (0 ≤ r ∧ r ≤ 16)
/-- The answer is a new row with the runs of a grid, or none. -/
def RunsIf (ok : Bool) (G : Nat → Nat → Bool) (w : World) (e : Ending) (w' : World) : Prop :=
  ∃ v, e = .returned v ∧ OwnT 82 3 w' w.heap.size v (cond ok (rnN G) 0) (cond ok (rnL G) []) ∧ Below w.heap.size w w'
theorem RunsIf.no {ok : Bool} {G : Nat → Nat → Bool} {w w' : World} (h : ok = false) (hb : Below w.heap.size w w') : RunsIf ok G w (.returned (.slice none 0 0)) w' := by
  subst h; exact ⟨_, rfl, OwnT.nil _ _ _ _, hb⟩
theorem RunsIf.yes {ok : Bool} {G G' : Nat → Nat → Bool} {w u w' : World} {e : Ending} (h : ok = true) (hG : ∀ x y, x < 16 → y < 16 → G' x y = G x y) (hb : Below w.heap.size w u) (hr : RunsI G' u e w') : RunsIf ok G w e w' := by
  subst h
  obtain ⟨v, h1, h2, h3⟩ := hr
  have e1 : rnL G' = rnL G := rnL_congr hG
  have e2 : rnN G' = rnN G := by unfold rnN; rw [e1]
  refine ⟨v, h1, ?_, hb.trans (h3.mono hb.size)⟩
  show OwnT _ _ _ _ v (rnN G) (rnL G)
  rw [← e1, ← e2]; exact h2.base_le hb.size
/-- Block g holds a grid of 256 bools. -/
def GridFn (w : World) (g : Nat) (F : Nat → Bool) : Prop := ∃ gs, GB w g gs ∧ gs.length = 256 ∧ ∀ j, j < 256 → gs.getD j false = F j
theorem GridFn.start (w : World) : GridFn (w.alloc (.cells gz 4)) w.heap.size (fun _ => false) :=
  ⟨List.replicate 256 false, heap_alloc_new w _, by simp, fun j hj => by
    rw [List.getD_eq_getElem?_getD, List.getElem?_replicate]; split <;> rfl⟩
theorem GridFn.congr {w : World} {g : Nat} {F F' : Nat → Bool} (h : GridFn w g F) (he : ∀ j, j < 256 → F j = F' j) : GridFn w g F' := by
  obtain ⟨gs, h1, h2, h3⟩ := h
  exact ⟨gs, h1, h2, fun j hj => (h3 j hj).trans (he j hj)⟩
theorem GridFn.put {w : World} {g : Nat} {F : Nat → Bool} (h : GridFn w g F) {j0 : Nat} (hj : j0 < 256) (b : Bool) : GridFn (w.setCell ⟨g, j0, none⟩ (.bool b)) g (fun j => if j = j0 then b else F j) := by
  obtain ⟨gs, h1, h2, h3⟩ := h
  refine ⟨gs.set j0 b, h1.put j0 b, by simpa using h2, fun j hj' => ?_⟩
  by_cases e : j = j0
  · subst e; simp [List.getD_eq_getElem?_getD, h2, hj']
  · have : (gs.set j0 b).getD j false = gs.getD j false := by simp [List.getD_eq_getElem?_getD, List.getElem?_set, Ne.symm e]
    rw [this, h3 j hj']; exact (if_neg e).symm
theorem GridFn.cell {w : World} {g : Nat} {F : Nat → Bool} (h : GridFn w g F) {j : Nat} (hj : j < 256) : w.cell? ⟨g, j, none⟩ = some (.bool (F j)) := by
  obtain ⟨gs, h1, h2, h3⟩ := h
  rw [h1.cell (by omega), h3 j hj]
theorem GridFn.frozen {w : World} {g : Nat} {F : Nat → Bool} (h : GridFn w g F) (j : Nat) : w.frozen? ⟨g, j, none⟩ = false := by
  obtain ⟨gs, h1, h2, h3⟩ := h
  exact h1.frozen j
theorem GridFn.lt {w : World} {g : Nat} {F : Nat → Bool} (h : GridFn w g F) : g < w.heap.size := by
  obtain ⟨gs, h1, h2, h3⟩ := h
  rcases Nat.lt_or_ge g w.heap.size with h' | h'
  · exact h'
  · unfold GB at h1; rw [Array.getElem?_eq_none h'] at h1; cases h1
theorem GridFn.keep {w w' : World} {g : Nat} {F : Nat → Bool} (h : GridFn w g F) (he : w'.heap[g]? = w.heap[g]?) : GridFn w' g F := by
  obtain ⟨gs, h1, h2, h3⟩ := h
  exact ⟨gs, he.trans h1, h2, h3⟩
theorem GridFn.below {B : Nat} {w w' : World} {g : Nat} {F : Nat → Bool} (h : GridFn w g F) (hb : Below B w w') (hg : g < B) : GridFn w' g F := h.keep (hb.block g hg)
set_option maxHeartbeats 4000000 in
theorem sOng_any (x y : Int) (w : World) :
    Calls Try.prog 106 #[.int .i64 x, .int .i64 y] w fun e w' => e = .returned (.bool (ongB x y)) ∧ Below w.heap.size w w' := by
  cases h1 : decide (0 ≤ x ∧ x ≤ 15)
  · have H : Hid (ongB x y = false) := Lib.hid (by simp only [ongB, h1, Bool.false_and])
    go_enter Try.func106, Try.ntmps106
    go_wp2_with fail
    refine (sIr_any x 0 15 _).mono ?_
    rintro e w' ⟨rfl, rfl⟩
    rw [h1]
    go_wp2
    go_ret
    exact ⟨ret_bool H.out.symm, by (repeat' (first | (exact Below.refl _ _) | (refine Below.setCell ?_ (by first | omega | (simp; done) | (simp; omega)) _) | (refine below_dn ?_ _) | (refine Below.drew ?_) | (refine Below.alloc ?_ (by first | omega | (simp; done) | (simp; omega)) _) | (exact Below.refl _ _)))⟩
  · have H : Hid (ongB x y = decide (0 ≤ y ∧ y ≤ 15)) := Lib.hid (by simp only [ongB, h1, Bool.true_and])
    go_enter Try.func106, Try.ntmps106
    go_wp2_with fail
    refine (sIr_any x 0 15 _).mono ?_
    rintro e w' ⟨rfl, rfl⟩
    rw [h1]
    go_wp2_with fail
    refine (sIr_any y 0 15 _).mono ?_
    rintro e w' ⟨rfl, rfl⟩
    rw [← H.out]
    go_wp2
    go_ret
    exact ⟨rfl, by (repeat' (first | (exact Below.refl _ _) | (refine Below.setCell ?_ (by first | omega | (simp; done) | (simp; omega)) _) | (refine below_dn ?_ _) | (refine Below.drew ?_) | (refine Below.alloc ?_ (by first | omega | (simp; done) | (simp; omega)) _) | (exact Below.refl _ _)))⟩
set_option maxHeartbeats 8000000 in
theorem s_DiscRegion (x y r : Int) (w : World) : Calls Try.prog 104 #[.int .i64 x, .int .i64 y, .int .i64 r] w (RunsIf (dscOk x y r) (dscG x y r) w) := by
  have hmk := make_grid
  cases h1 : ongB x y
  · have H : Hid (dscOk x y r = false) := Lib.hid (by unfold dscOk; rw [h1, Bool.false_and])
    go_enter Try.func104, Try.ntmps104
    go_wp2_with fail
    refine (sOng_any x y _).mono ?_
    rintro e w1 ⟨rfl, hb1⟩
    rw [h1]
    go_wp2
    go_ret
    exact RunsIf.no H.out hb1
  · cases h2 : decide (0 ≤ r ∧ r ≤ 16)
    · have H : Hid (dscOk x y r = false) := Lib.hid (by unfold dscOk; rw [h2, Bool.and_false])
      go_enter Try.func104, Try.ntmps104
      go_wp2_with fail
      refine (sOng_any x y _).mono ?_
      rintro e w1 ⟨rfl, hb1⟩
      rw [h1]
      go_wp2_with fail
      refine (sIr_any r 0 16 _).mono ?_
      rintro e w' ⟨rfl, rfl⟩
      rw [h2]
      go_wp2
      go_ret
      exact RunsIf.no H.out hb1
    · have H : Hid (dscOk x y r = true) := Lib.hid (by unfold dscOk; rw [h1, h2]; rfl)
      have hr := of_decide_eq_true h2
      have hxy : (0 ≤ x ∧ x ≤ 15) ∧ (0 ≤ y ∧ y ≤ 15) := by
        unfold ongB at h1
        simp only [Bool.and_eq_true, decide_eq_true_eq] at h1
        exact h1
      obtain ⟨⟨x0, x1⟩, y0, y1⟩ := hxy
      obtain ⟨r0, r1⟩ := hr
      obtain ⟨rr0, rr1⟩ := mul_bd16 (c := r) (k := 16) (by omega) (by omega)
      have HD : Hid (∀ c o : Nat, dscG x y r c o = decide (((c : Int) - x) * ((c : Int) - x) + ((o : Int) - y) * ((o : Int) - y) ≤ r * r)) := Lib.hid (fun c o => rfl)
      go_enter Try.func104, Try.ntmps104
      go_wp2_with fail
      refine (sOng_any x y _).mono ?_
      rintro e w1 ⟨rfl, hb1⟩
      rw [h1]
      go_wp2_with fail
      refine (sIr_any r 0 16 _).mono ?_
      rintro e w' ⟨rfl, rfl⟩
      rw [h2]
      have HB1 := Lib.hid hb1
      have HG0 := Lib.hid (GridFn.start w1)
      have HBu : Hid (Below w.heap.size w (w1.alloc (.cells gz 4))) := Lib.hid (hb1.alloc hb1.size _)
      clear h1 h2 hb1
      go_wp2
      clear hmk
      have Hgw : Hid (w.heap.size ≤ w1.heap.size) := Lib.hid HB1.out.size
      generalize w1.alloc (.cells gz 4) = u at *
      generalize w1.heap.size = g at *
      go_loopw [8] (fun i wr => ∃ p : Nat, p ≤ 256 ∧ i = .int .i64 p ∧ Hid (GridFn wr g (fun j => decide (j < p) && dscG x y r (j % 16) (j / 16)) ∧ Below w.heap.size w wr)) (fun i _ => 256 - (intOf i).toNat)
      case atStart => exact ⟨0, by omega, rfl, Lib.hid ⟨HG0.out.congr (fun j hj => by simp), HBu.out⟩⟩
      case round =>
        clear HG0 HBu
        obtain ⟨p, hp, rfl, hI⟩ := hrel
        by_cases hlt : p < 256
        · obtain ⟨m, hm⟩ : ∃ m, m = p % 16 := ⟨_, rfl⟩
          obtain ⟨q, hq⟩ : ∃ q, q = p / 16 := ⟨_, rfl⟩
          have hm16 : m < 16 := by rw [hm]; exact Nat.mod_lt _ (by omega)
          have hq16 : q < 16 := by rw [hq]; omega
          have e1 : (p : Int).tmod 16 = (m : Int) := by rw [hm, Int.tmod_eq_emod_of_nonneg (by omega)]; omega
          have e2 : (p : Int).tdiv 16 = (q : Int) := by rw [hq, Int.tdiv_eq_ediv_of_nonneg (by omega)]; omega
          have e3 : (p : Int) % 16 = (m : Int) := by omega
          have e4 : (p : Int) / 16 = (q : Int) := by omega
          obtain ⟨c, hc⟩ : ∃ c : Int, c = (m : Int) - x := ⟨_, rfl⟩
          obtain ⟨o, ho⟩ : ∃ o : Int, o = (q : Int) - y := ⟨_, rfl⟩
          obtain ⟨cc0, cc1⟩ := mul_bd16 (c := c) (k := 16) (by omega) (by omega)
          obtain ⟨oo0, oo1⟩ := mul_bd16 (c := o) (k := 16) (by omega) (by omega)
          have HN : Hid (GridFn (wr.setCell ⟨g, p, none⟩ (.bool (decide (c * c + o * o ≤ r * r)))) g (fun j => decide (j < p + 1) && dscG x y r (j % 16) (j / 16)) ∧ Below w.heap.size w (wr.setCell ⟨g, p, none⟩ (.bool (decide (c * c + o * o ≤ r * r))))) := Lib.hid ⟨(hI.out.1.put hlt (decide (c * c + o * o ≤ r * r))).congr (fun j hj => by
            by_cases e : j = p
            · subst e
              rw [if_pos rfl, decide_eq_true (show j < j + 1 by omega), Bool.true_and, HD.out, ← hm, ← hq, ← hc, ← ho]
            · rw [if_neg e]
              congr 1
              exact decide_eq_decide.2 (by omega)), hI.out.2.setCell (by exact Hgw.out) _⟩
          have c0 := hI.out.1.cell (j := p) hlt
          have f0 := hI.out.1.frozen p
          generalize (decide (p < p) && dscG x y r (p % 16) (p / 16)) = bb at c0
          have hgl := hI.out.1.lt
          clear hI hm hq
          have hle : ((m : Int) - x) = c := hc.symm
          have hle2 : ((q : Int) - y) = o := ho.symm
          clear hc ho
          go_wp2
          go_roundw
          case rel => exact ⟨p + 1, by omega, by go_num, HN⟩
          case measure => simp [intOf]; omega
        · have HK := Lib.hid hI.out.2
          have hgl := hI.out.1.lt
          have HC : Hid (∀ a b : Nat, a ≤ 15 → b ≤ 15 → wr.cell? ⟨g, b * 16 + a, none⟩ = some (.bool (dscG x y r a b))) := Lib.hid (fun a b ha hb => by
            rw [hI.out.1.cell (j := b * 16 + a) (by omega)]
            rw [show (b * 16 + a) % 16 = a by omega, show (b * 16 + a) / 16 = b by omega, decide_eq_true (show b * 16 + a < p by omega), Bool.true_and])
          clear hI
          go_wp2_with fail
          refine (s_runsOf g 256 (dscG x y r) wr hgl HC.out).mono ?_
          rintro e w3 hR
          have HE := Lib.hid (RunsIf.yes (w := w) H.out (fun _ _ _ _ => rfl) HK.out hR)
          obtain ⟨v3, rfl, _, _⟩ := hR
          clear HK
          go_wp2
          go_ret
          exact HE.out
end Go.Proofs.Ytlmpkanlfhjijaa
namespace Go.Proofs.Ytlmpkanlfhjijaa
open Go.RowKit
set_option linter.unusedSimpArgs false
set_option linter.unusedVariables false
set_option maxRecDepth 20000

theorem one_litR (cs : Array Value) (xs : List Int) (n c p : Nat) (g N : Nat) (w : World) (hp : p = w.heap.size) (h : Rdr w g N) (hN : N ≤ 1000000000) (hx : 0 < xs.length) (hl : xs.length ≤ 1000) (hn : n = xs.length) (hcs : cs.toList = xs.map (.int .i64)) :
    Calls Try.prog 34 #[.pointer (some ⟨g, 0, none⟩), .slice (some ⟨p, 0, none⟩) n c] (w.alloc (.cells cs 3)) fun e w' => ∃ k : Int, e = .returned (.int .i64 k) ∧ k ∈ xs ∧ Rdr w' g (N + 1) ∧ w.grownBy w' (some g) := by
  subst hp
  exact one_lit cs xs n c g N w h hN hx hl hn hcs
/-- While a region is drawn: the reader, and the grid in block b. -/
def RR (w wr : World) (g N b : Nat) : Prop := Rdr wr g N ∧ w.grownBy wr (some g) ∧ ∃ F, GridFn wr b F
theorem grown_set_new {w wr : World} {g b j : Nat} {u : Value} (h : w.grownBy wr (some g)) (hb : w.heap.size ≤ b) : w.grownBy (wr.setCell ⟨b, j, none⟩ u) (some g) :=
  ⟨h.os, h.tape, h.output, by have := h.size; simp [World.setCell]; omega, fun i hi hne => (heap_setCell_other wr ⟨b, j, none⟩ i u (fun e => by have : i = b := e; omega)).trans (h.block i hi hne)⟩
theorem grown_below {w wr w' : World} {g : Nat} (h : w.grownBy wr (some g)) (hb : Below wr.heap.size wr w') : w.grownBy w' (some g) :=
  ⟨hb.os.trans h.os, hb.tape.trans h.tape, hb.output.trans h.output, Nat.le_trans h.size hb.size, fun i hi hne => (hb.block i (by have := h.size; omega)).trans (h.block i hi hne)⟩
theorem RR.pick {w wr w' : World} {g N b : Nat} (h : RR w wr g N b) (hbg : b ≠ g) (hr : Rdr w' g (N + 1)) (hg : wr.grownBy w' (some g)) : RR w w' g (N + 1) b := by
  obtain ⟨h1, h2, F, h3⟩ := h
  exact ⟨hr, gtrans h2 hg, F, h3.keep (hg.block b h3.lt (by simpa using hbg))⟩
theorem RR.set {w wr : World} {g N b j : Nat} (h : RR w wr g N b) (hgb : g < b) (hb : w.heap.size ≤ b) (hj : j < 256) (v : Bool) : RR w (wr.setCell ⟨b, j, none⟩ (.bool v)) g N b := by
  obtain ⟨h1, h2, F, h3⟩ := h
  exact ⟨h1.grown (row := some b) ⟨rfl, rfl, rfl, by simp [World.setCell], fun k _ hk => heap_setCell_other wr ⟨b, j, none⟩ k _ (fun e => hk (by simp [e]))⟩ (fun k hk => by cases hk; exact hgb), grown_set_new h2 hb, _, h3.put hj v⟩
theorem RR.more {w wr : World} {g N N' b : Nat} (h : RR w wr g N b) (hN : N ≤ N') : RR w wr g N' b := ⟨h.1.more hN, h.2⟩
theorem RR.cell {w wr : World} {g N b j : Nat} (h : RR w wr g N b) (hj : j < 256) : ∃ v, wr.cell? ⟨b, j, none⟩ = some (.bool v) ∧ wr.frozen? ⟨b, j, none⟩ = false ∧ b < wr.heap.size := by
  obtain ⟨h1, h2, F, h3⟩ := h
  exact ⟨_, h3.cell hj, h3.frozen j, h3.lt⟩
/-- Drawn: a list of runs in memory of the call's own. -/
def DrawnR (g N : Nat) (w : World) (e : Ending) (w' : World) : Prop :=
  ∃ v n xs, e = .returned v ∧ n ≤ 300 ∧ OwnT 82 3 w' w.heap.size v n xs ∧ Rdr w' g N ∧ w.grownBy w' (some g)
theorem DrawnR.of_runs {G : Nat → Nat → Bool} {w u w' : World} {g N b : Nat} {e : Ending} (h : RR w u g N b) (hgl : g < u.heap.size) (hr : RunsI G u e w') : DrawnR g N w e w' := by
  obtain ⟨v, rfl, hO, hB⟩ := hr
  have hl := rnL_len G
  exact ⟨v, _, _, rfl, by omega, hO.base_le h.2.1.size, h.1.below hB hgl, grown_below h.2.1 hB⟩
theorem DrawnR.of_if {ok : Bool} {G : Nat → Nat → Bool} {w u w' : World} {g N b : Nat} {e : Ending} (h : RR w u g N b) (hgl : g < u.heap.size) (hr : RunsIf ok G u e w') : DrawnR g N w e w' := by
  obtain ⟨v, rfl, hO, hB⟩ := hr
  have hl := rnL_len G
  exact ⟨v, _, _, rfl, by cases ok <;> simp <;> omega, hO.base_le h.2.1.size, h.1.below hB hgl, grown_below h.2.1 hB⟩
theorem DrawnR.more {g N N' : Nat} {w w' : World} {e : Ending} (h : DrawnR g N w e w') (hN : N ≤ N') : DrawnR g N' w e w' := by
  obtain ⟨v, n, xs, h1, h2, h3, h4, h5⟩ := h
  exact ⟨v, n, xs, h1, h2, h3, h4.more hN, h5⟩
set_option maxHeartbeats 16000000 in
theorem randomRegion_any (g N : Nat) (w : World) (h : Rdr w g N) (hN : N ≤ 100000) :
    Calls Try.prog 96 #[.pointer (some ⟨g, 0, none⟩)] w (DrawnR g (N + 200) w) := by
  have hmk := make_grid
  have hgl := h.lt
  have HI0 : Hid (RR w (w.alloc (.cells gz 4)) g N w.heap.size) := Lib.hid ⟨h.alloc _, World.grownBy_alloc w _ _, _, GridFn.start w⟩
  obtain ⟨b, hb⟩ : ∃ b, b = w.heap.size := ⟨_, rfl⟩
  have hgb : g < b := by omega
  have hbg : b ≠ g := by omega
  have Hb := Lib.hid (show w.heap.size ≤ b by omega)
  rw [← hb] at HI0
  have HbE := Lib.hid hb
  clear h hb
  go_enter Try.func96, Try.ntmps96
  go_wp2_with fail
  (try rw [← HbE.out])
  clear hmk
  generalize w.alloc (.cells gz 4) = u at *
  refine (pick_any 4 g N u HI0.out.1 (by omega) (by omega)).mono ?_
  intro e w2 hp
  obtain ⟨k, rfl, hk, hr2, hg2, hs2⟩ := picked_nat hp (by omega)
  have HI := Lib.hid (HI0.out.pick hbg hr2 hg2)
  clear hp hr2 hg2 hs2 HI0
  by_cases h0 : k = 0
  · have h0' : ((k : Int) == 0) = true := by rw [h0]; rfl
    clear h0
    go_wp2_with fail
    refine (pick_any 8 g (N + 1) w2 HI.out.1 (by omega) (by omega)).mono ?_
    intro e w3 hp
    obtain ⟨x, rfl, hx, hr3, hg3, hs3⟩ := picked_nat hp (by omega)
    have HI3 := Lib.hid (HI.out.pick hbg hr3 hg3)
    clear hp hr3 hg3 hs3 HI
    go_wp2_with fail
    refine (pick_any 8 g (N + 1 + 1) w3 HI3.out.1 (by omega) (by omega)).mono ?_
    intro e w4 hp
    obtain ⟨y, rfl, hy, hr4, hg4, hs4⟩ := picked_nat hp (by omega)
    have HI4 := Lib.hid (HI3.out.pick hbg hr4 hg4)
    clear hp hr4 hg4 hs4 HI3
    go_wp2_with fail
    refine (pick_any 5 g (N + 1 + 1 + 1) w4 HI4.out.1 (by omega) (by omega)).mono ?_
    intro e w5 hp
    obtain ⟨r, rfl, hr, hr5, hg5, hs5⟩ := picked_nat hp (by omega)
    have HI5 := Lib.hid (HI4.out.pick hbg hr5 hg5)
    clear hp hr5 hg5 hs5 HI4
    go_wp2_with fail
    refine (s_DiscRegion (x : Int) (y : Int) (r : Int) w5).mono ?_
    intro e w6 hR
    have HE := Lib.hid ((DrawnR.of_if HI5.out HI5.out.1.lt hR).more (show N + 1 + 1 + 1 + 1 ≤ N + 200 by omega))
    obtain ⟨v6, rfl, _, _⟩ := hR
    clear HI5
    go_wp2
    go_ret
    exact HE.out
  · have h0' : ((k : Int) == 0) = false := beq_eq_false_iff_ne.2 (by omega)
    by_cases h1 : k = 1
    · have h1' : ((k : Int) == 1) = true := by rw [h1]; rfl
      clear h0 h1
      go_wp2_with fail
      refine (pick_any 12 g (N + 1) w2 HI.out.1 (by omega) (by omega)).mono ?_
      intro e w3 hp
      obtain ⟨m, rfl, hm, hr3, hg3, hs3⟩ := picked_nat hp (by omega)
      have HI3 := Lib.hid ((HI.out.pick hbg hr3 hg3).more (show N + 1 + 1 ≤ N + 100 - 2 * m by omega))
      clear hp hr3 hg3 hs3 HI
      go_wp2
      go_loopw [4] (fun i wr => ∃ q : Nat, q ≤ 12 ∧ i = .int .i64 q ∧ Hid (RR w wr g (N + 100 - 2 * q) b)) (fun i _ => (intOf i).toNat)
      case atStart => exact ⟨m, by omega, rfl, HI3⟩
      case round =>
        clear HI3
        obtain ⟨q, hq, rfl, hI⟩ := hrel
        by_cases hlt : 0 < q
        · have hltI : (0 : Int) < (q : Int) := by omega
          go_wp2_with fail
          refine (pick_any 6 g (N + 100 - 2 * q) wr hI.out.1 (by omega) (by omega)).mono ?_
          intro e w4 hp
          obtain ⟨y, rfl, hy, hr4, hg4, hs4⟩ := picked_nat hp (by omega)
          have HI4 := Lib.hid (hI.out.pick hbg hr4 hg4)
          clear hp hr4 hg4 hs4 hI
          go_wp2_with fail
          refine (pick_any 6 g (N + 100 - 2 * q + 1) w4 HI4.out.1 (by omega) (by omega)).mono ?_
          intro e w5 hp
          obtain ⟨x, rfl, hx, hr5, hg5, hs5⟩ := picked_nat hp (by omega)
          have HI5 := Lib.hid (HI4.out.pick hbg hr5 hg5)
          clear hp hr5 hg5 hs5 HI4
          obtain ⟨cv, c0, f0, hbl⟩ := HI5.out.cell (j := y * 16 + x) (by omega)
          have HN := Lib.hid ((HI5.out.set hgb Hb.out (j := y * 16 + x) (by omega) true).more (show N + 100 - 2 * q + 1 + 1 ≤ N + 100 - 2 * (q - 1) by omega))
          have r1 : ((y : Int) * 16 + (x : Int)).toNat = y * 16 + x := by omega
          have r2 : 0 ≤ (y : Int) * 16 + (x : Int) := by omega
          have r3 : (y : Int) * 16 + (x : Int) < 256 := by omega
          have r4 : (q : Int) - 1 = ((q - 1 : Nat) : Int) := by omega
          clear HI5
          go_wp2
          go_roundw
          case rel => exact ⟨q - 1, by omega, by first | rfl | rw [r4], HN⟩
          case measure => simp [intOf]; omega
        · have hltI : ¬ (0 : Int) < (q : Int) := by omega
          have HIe := Lib.hid (hI.out.more (show N + 100 - 2 * q ≤ N + 100 by omega))
          clear hI
          go_wp2_with fail
          refine (pick_any 10 g (N + 100) wr HIe.out.1 (by omega) (by omega)).mono ?_
          intro e w7 hp
          obtain ⟨k7, rfl, hk7, hr7, hg7, hs7⟩ := picked_nat hp (by omega)
          have HI7 := Lib.hid (HIe.out.pick hbg hr7 hg7)
          clear hp hr7 hg7 hs7 HIe
          by_cases h7 : k7 = 0
          · have h7' : ((k7 : Int) == 0) = true := by rw [h7]; rfl
            clear h7
            go_wp2_with fail
            refine (one_litR _ [15, 240, 255, 0] 4 4 _ g (N + 100 + 1) w7 rfl HI7.out.1 (by omega) (by simp) (by simp) rfl rfl).mono ?_
            rintro e w8 ⟨a8, rfl, ha8, hr8, hg8⟩
            have hA : 0 ≤ a8 ∧ a8 ≤ 255 := by simp at ha8; omega
            obtain ⟨A8, rfl⟩ := Int.eq_ofNat_of_zero_le hA.1
            have hA2 : A8 < 256 := by omega
            have hA3 : (A8 : Int) < 256 := by omega
            have HI8 := Lib.hid (HI7.out.pick hbg hr8 hg8)
            obtain ⟨cv8, c8, f8, hbl8⟩ := HI8.out.cell (j := A8) hA2
            have HN8 := Lib.hid (HI8.out.set hgb Hb.out (j := A8) hA2 true)
            clear ha8 hr8 hg8 HI7 HI8 hA
            go_wp2_with fail
            obtain ⟨F8, hF8⟩ := HN8.out.2.2
            refine (s_runsOf b 256 (fun x y => F8 (y * 16 + x)) _ hF8.lt (fun x y hx hy => hF8.cell (by omega))).mono ?_
            intro e w9 hR
            have HE := Lib.hid ((DrawnR.of_runs HN8.out HN8.out.1.lt hR).more (show N + 100 + 1 + 1 ≤ N + 200 by omega))
            obtain ⟨v9, rfl, _, _⟩ := hR
            clear HN8 hF8 c8 f8
            go_wp2
            go_ret
            exact HE.out
          · have h7' : ((k7 : Int) == 0) = false := beq_eq_false_iff_ne.2 (by omega)
            clear h7
            go_wp2_with fail
            obtain ⟨F8, hF8⟩ := HI7.out.2.2
            refine (s_runsOf b 256 (fun x y => F8 (y * 16 + x)) _ hF8.lt (fun x y hx hy => hF8.cell (by omega))).mono ?_
            intro e w9 hR
            have HE := Lib.hid ((DrawnR.of_runs HI7.out HI7.out.1.lt hR).more (show N + 100 + 1 ≤ N + 200 by omega))
            obtain ⟨v9, rfl, _, _⟩ := hR
            clear HI7 hF8
            go_wp2
            go_ret
            exact HE.out
    · have h1' : ((k : Int) == 1) = false := beq_eq_false_iff_ne.2 (by omega)
      clear h0 h1
      go_wp2_with fail
      refine (pick_any 5 g (N + 1) w2 HI.out.1 (by omega) (by omega)).mono ?_
      intro e w3 hp
      obtain ⟨m, rfl, hm, hr3, hg3, hs3⟩ := picked_nat hp (by omega)
      have HI3 := Lib.hid ((HI.out.pick hbg hr3 hg3).more (show N + 1 + 1 ≤ N + 100 - 2 * m by omega))
      clear hp hr3 hg3 hs3 HI
      go_wp2
      go_loopw [5] (fun i wr => ∃ q : Nat, q ≤ 12 ∧ i = .int .i64 q ∧ Hid (RR w wr g (N + 100 - 2 * q) b)) (fun i _ => (intOf i).toNat)
      case atStart => exact ⟨m, by omega, rfl, HI3⟩
      case round =>
        clear HI3
        obtain ⟨q, hq, rfl, hI⟩ := hrel
        by_cases hlt : 0 < q
        · have hltI : (0 : Int) < (q : Int) := by omega
          go_wp2_with fail
          refine (pick_any 8 g (N + 100 - 2 * q) wr hI.out.1 (by omega) (by omega)).mono ?_
          intro e w4 hp
          obtain ⟨x, rfl, hx, hr4, hg4, hs4⟩ := picked_nat hp (by omega)
          have HI4 := Lib.hid (hI.out.pick hbg hr4 hg4)
          clear hp hr4 hg4 hs4 hI
          go_wp2_with fail
          refine (pick_any 8 g (N + 100 - 2 * q + 1) w4 HI4.out.1 (by omega) (by omega)).mono ?_
          intro e w5 hp
          obtain ⟨y, rfl, hy, hr5, hg5, hs5⟩ := picked_nat hp (by omega)
          have HI5 := Lib.hid ((HI4.out.pick hbg hr5 hg5).more (show N + 100 - 2 * q + 1 + 1 ≤ N + 100 - 2 * (q - 1) by omega))
          clear hp hr5 hg5 hs5 HI4
          go_wp2
          go_loopw [8] (fun i wr => ∃ z : Nat, z ≤ 12 ∧ i = .int .i64 z ∧ Hid (RR w wr g (N + 100 - 2 * (q - 1)) b)) (fun i _ => 12 - (intOf i).toNat)
          case atStart => exact ⟨0, by omega, rfl, HI5⟩
          case round =>
            clear HI5
            obtain ⟨z, hz, rfl, hJ⟩ := hrel
            by_cases hzlt : z < 12
            · have hzI : (z : Int) < 12 := by omega
              obtain ⟨d, hd⟩ : ∃ d, d = z / 4 := ⟨_, rfl⟩
              obtain ⟨m4, hm4⟩ : ∃ m4, m4 = z % 4 := ⟨_, rfl⟩
              have e1 : (z : Int).tdiv 4 = (d : Int) := by rw [hd, Int.tdiv_eq_ediv_of_nonneg (by omega)]; omega
              have e2 : (z : Int).tmod 4 = (m4 : Int) := by rw [hm4, Int.tmod_eq_emod_of_nonneg (by omega)]; omega
              have e3 : (z : Int) / 4 = (d : Int) := by omega
              have e4 : (z : Int) % 4 = (m4 : Int) := by omega
              have hd3 : d < 3 := by omega
              have hm3 : m4 < 4 := by omega
              obtain ⟨cv, c0, f0, hbl⟩ := hJ.out.cell (j := (y + d) * 16 + x + m4) (by omega)
              have HN := Lib.hid (hJ.out.set hgb Hb.out (j := (y + d) * 16 + x + m4) (by omega) true)
              have r1 : (((y : Int) + (d : Int)) * 16 + (x : Int) + (m4 : Int)).toNat = (y + d) * 16 + x + m4 := by omega
              have r2 : 0 ≤ ((y : Int) + (d : Int)) * 16 + (x : Int) + (m4 : Int) := by omega
              have r3 : ((y : Int) + (d : Int)) * 16 + (x : Int) + (m4 : Int) < 256 := by omega
              clear hJ hd hm4
              go_wp2
              go_roundw
              case rel => exact ⟨z + 1, by omega, by go_num, HN⟩
              case measure => simp [intOf]; omega
            · have hzI : ¬ (z : Int) < 12 := by omega
              have r4 : (q : Int) - 1 = ((q - 1 : Nat) : Int) := by omega
              go_wp2
              go_roundw
              case rel => exact ⟨q - 1, by omega, by first | rfl | rw [r4], hJ⟩
              case measure => simp [intOf]; omega
        · have hltI : ¬ (0 : Int) < (q : Int) := by omega
          have HIe := Lib.hid (hI.out.more (show N + 100 - 2 * q ≤ N + 100 by omega))
          clear hI
          go_wp2_with fail
          refine (pick_any 10 g (N + 100) wr HIe.out.1 (by omega) (by omega)).mono ?_
          intro e w7 hp
          obtain ⟨k7, rfl, hk7, hr7, hg7, hs7⟩ := picked_nat hp (by omega)
          have HI7 := Lib.hid (HIe.out.pick hbg hr7 hg7)
          clear hp hr7 hg7 hs7 HIe
          by_cases h7 : k7 = 0
          · have h7' : ((k7 : Int) == 0) = true := by rw [h7]; rfl
            clear h7
            go_wp2_with fail
            refine (one_litR _ [15, 240, 255, 0] 4 4 _ g (N + 100 + 1) w7 rfl HI7.out.1 (by omega) (by simp) (by simp) rfl rfl).mono ?_
            rintro e w8 ⟨a8, rfl, ha8, hr8, hg8⟩
            have hA : 0 ≤ a8 ∧ a8 ≤ 255 := by simp at ha8; omega
            obtain ⟨A8, rfl⟩ := Int.eq_ofNat_of_zero_le hA.1
            have hA2 : A8 < 256 := by omega
            have hA3 : (A8 : Int) < 256 := by omega
            have HI8 := Lib.hid (HI7.out.pick hbg hr8 hg8)
            obtain ⟨cv8, c8, f8, hbl8⟩ := HI8.out.cell (j := A8) hA2
            have HN8 := Lib.hid (HI8.out.set hgb Hb.out (j := A8) hA2 true)
            clear ha8 hr8 hg8 HI7 HI8 hA
            go_wp2_with fail
            obtain ⟨F8, hF8⟩ := HN8.out.2.2
            refine (s_runsOf b 256 (fun x y => F8 (y * 16 + x)) _ hF8.lt (fun x y hx hy => hF8.cell (by omega))).mono ?_
            intro e w9 hR
            have HE := Lib.hid ((DrawnR.of_runs HN8.out HN8.out.1.lt hR).more (show N + 100 + 1 + 1 ≤ N + 200 by omega))
            obtain ⟨v9, rfl, _, _⟩ := hR
            clear HN8 hF8 c8 f8
            go_wp2
            go_ret
            exact HE.out
          · have h7' : ((k7 : Int) == 0) = false := beq_eq_false_iff_ne.2 (by omega)
            clear h7
            go_wp2_with fail
            obtain ⟨F8, hF8⟩ := HI7.out.2.2
            refine (s_runsOf b 256 (fun x y => F8 (y * 16 + x)) _ hF8.lt (fun x y hx hy => hF8.cell (by omega))).mono ?_
            intro e w9 hR
            have HE := Lib.hid ((DrawnR.of_runs HI7.out HI7.out.1.lt hR).more (show N + 100 + 1 ≤ N + 200 by omega))
            obtain ⟨v9, rfl, _, _⟩ := hR
            clear HI7 hF8
            go_wp2
            go_ret
            exact HE.out
set_option maxHeartbeats 16000000 in
theorem anyRegion_any (g N : Nat) (w : World) (h : Rdr w g N) (hN : N ≤ 100000) :
    Calls Try.prog 63 #[.pointer (some ⟨g, 0, none⟩)] w (DrawnR g (N + 300) w) := by
  have hgl := h.lt
  have Hh := Lib.hid h
  clear h
  go_enter Try.func63, Try.ntmps63
  go_wp2_with fail
  refine (randomRegion_any g N w Hh.out hN).mono ?_
  rintro e w1 ⟨v, n, xs, rfl, hn, hO, hr1, hg1⟩
  have hown : v.ownBlock ≠ some g := fun e => by have := (hO.lt g e).1; omega
  have HO := Lib.hid hO
  have HG := Lib.hid hg1
  have hz1 := hg1.size
  by_cases hn0 : n = 0
  · subst hn0
    obtain ⟨A, c, rfl, hc⟩ := hO.slice
    have HE : Hid (DrawnR g (N + 300) w (.returned (.slice A 0 c)) w1) := Lib.hid ⟨_, 0, xs, rfl, by omega, HO.out, hr1.more (by omega), hg1⟩
    clear hO hr1 hg1
    go_wp2
    go_ret
    exact HE.out
  · obtain ⟨gg, c, rfl, hbg, hgl1⟩ := hO.form (by omega)
    have hc : n ≤ c := by
      obtain ⟨A9, c9, e9, h9⟩ := hO.slice
      simp only [Value.slice.injEq] at e9
      omega
    have hgg : gg ≠ g := by omega
    have hnpos : (0 : Int) < (n : Int) := by omega
    clear hO hn0
    go_wp2_with fail
    refine (pick_any 20 g (N + 200) w1 hr1 (by omega) (by omega)).mono ?_
    intro e w2 hp
    obtain ⟨k, rfl, hk, hr2, hg2, hs2⟩ := picked_nat hp (by omega)
    have HO2 := Lib.hid (HO.out.kept hg2 (.inr hown))
    have HG2 := Lib.hid (gtrans HG.out hg2)
    clear hp hs2 hr1 hg1 hg2 HO HG
    by_cases h0 : k = 0
    · have h0' : ((k : Int) == 0) = true := by rw [h0]; rfl
      clear h0
      go_wp2_with fail
      refine (pick_any (n : Int) g (N + 200 + 1) w2 hr2 (by omega) (by omega)).mono ?_
      intro e w3 hp
      obtain ⟨j, rfl, hj, hr3, hg3, hs3⟩ := picked_nat hp (by omega)
      have HO3 := Lib.hid (HO2.out.kept hg3 (.inr hown))
      have HG3 := Lib.hid (gtrans HG2.out hg3)
      clear hp hs3 hr2 hg3 HO2 HG2
      go_wp2_with fail
      refine (one_litR _ [-1, 0, 15, 16] 4 4 _ g (N + 200 + 1 + 1) w3 rfl hr3 (by omega) (by simp) (by simp) rfl rfl).mono ?_
      rintro e w4 ⟨a1, rfl, _, hr4, hg4⟩
      have HO4 := Lib.hid (HO3.out.kept hg4 (.inr hown))
      have HG4 := Lib.hid (gtrans HG3.out hg4)
      clear hr3 hg4 HO3 HG3
      go_wp2_with fail
      refine (one_litR _ [-1, 0, 15, 16] 4 4 _ g (N + 200 + 1 + 1 + 1) w4 rfl hr4 (by omega) (by simp) (by simp) rfl rfl).mono ?_
      rintro e w5 ⟨a2, rfl, _, hr5, hg5⟩
      have HO5 := Lib.hid (HO4.out.kept hg5 (.inr hown))
      have HG5 := Lib.hid (gtrans HG4.out hg5)
      clear hr4 hg5 HO4 HG4
      go_wp2_with fail
      refine (one_litR _ [0, 1, 16, 17] 4 4 _ g (N + 200 + 1 + 1 + 1 + 1) w5 rfl hr5 (by omega) (by simp) (by simp) rfl rfl).mono ?_
      rintro e w6 ⟨a3, rfl, _, hr6, hg6⟩
      have HO6 := Lib.hid (HO5.out.kept hg6 (.inr hown))
      have HG6 := Lib.hid (gtrans HG5.out hg6)
      clear hr5 hg6 HO5 HG5
      have hlen := HO6.out.len
      have jlt : j < n := by omega
      have c0 := HO6.out.cell (j := j * 3) (by omega)
      have c1 := HO6.out.cell (j := j * 3 + 1) (by omega)
      have c2 := HO6.out.cell (j := j * 3 + 2) (by omega)
      have f0 := HO6.out.frozen (j * 3)
      have f1 := HO6.out.frozen (j * 3 + 1)
      have f2 := HO6.out.frozen (j * 3 + 2)
      have hgl6 : gg < w6.heap.size := (HO6.out.lt gg rfl).2
      have p0 := HO6.out.put (j * 3) a1
      have p1 := p0.1.put (j * 3 + 1) a2
      have p2 := p1.1.put (j * 3 + 2) a3
      have HE : Hid (DrawnR g (N + 300) w (.returned (.slice (some ⟨gg, 0, none⟩) n c)) (((w6.setCell ⟨gg, j * 3, none⟩ (.int .i64 a1)).setCell ⟨gg, j * 3 + 1, none⟩ (.int .i64 a2)).setCell ⟨gg, j * 3 + 2, none⟩ (.int .i64 a3))) := Lib.hid
        ⟨_, n, _, rfl, by omega, p2.1, (((hr6.grown p0.2 (fun k hk => by cases hk; omega)).grown p1.2 (fun k hk => by cases hk; omega)).grown p2.2 (fun k hk => by cases hk; omega)).more (by omega), grown_set_new (grown_set_new (grown_set_new HG6.out hbg) hbg) hbg⟩
      clear p0 p1 p2 HO6 HG6 hr6 hlen
      generalize List.getD xs (j * 3) 0 = y0 at *
      generalize List.getD xs (j * 3 + 1) 0 = y1 at *
      generalize List.getD xs (j * 3 + 2) 0 = y2 at *
      go_wp2
      go_ret
      exact HE.out
    · have h0' : ((k : Int) == 0) = false := beq_eq_false_iff_ne.2 (by omega)
      have HE : Hid (DrawnR g (N + 300) w (.returned (.slice (some ⟨gg, 0, none⟩) n c)) w2) := Lib.hid ⟨_, n, xs, rfl, hn, HO2.out, hr2.more (by omega), HG2.out⟩
      clear hr2 HO2 HG2 h0
      go_wp2
      go_ret
      exact HE.out
end Go.Proofs.Ytlmpkanlfhjijaa
