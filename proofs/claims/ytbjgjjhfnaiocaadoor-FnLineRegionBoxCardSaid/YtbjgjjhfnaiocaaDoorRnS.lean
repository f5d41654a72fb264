/- Contract of the model's runs of a grid. -/
import Derived.Test.YtbjgjjhfnaiocaaDoorHasS
import Derived.Test.YtbjgjjhfnaiocaaDoorRnM
namespace Go.Proofs.YtbjgjjhfnaiocaaDoor
open Go.RowKit
set_option linter.unusedSimpArgs false
set_option linter.unusedVariables false
set_option maxRecDepth 20000

/-- The answer is a new row with the runs of a grid. -/
def RunsI (G : Nat → Nat → Bool) (w : World) (e : Ending) (w' : World) : Prop :=
  ∃ v, e = .returned v ∧ OwnT 35 3 w' w.heap.size v (rnN G) (rnL G) ∧ Below w.heap.size w w'
/-- A cell of a run that is appended. -/
theorem run_cells (w : World) (a b c : Int) (T : TypeId) : ∀ q : Nat, q < [a, b, c].length → (w.alloc (.cells #[.int .i64 a, .int .i64 b, .int .i64 c] T)).cell? ⟨w.heap.size, q, none⟩ = some (.int .i64 ([a, b, c].getD q 0)) := fun q hq => by
  rw [cell_of_row _ _ _ _ _ _ (heap_alloc_new w _)]
  match q, hq with
  | 0, _ => rfl
  | 1, _ => rfl
  | 2, _ => rfl
/-- A row of runs that grows behind block base, the rest of memory kept. -/
def RnSt (u : World) (base : Nat) (w' : World) (l : Value) (xs : List Int) : Prop := ∃ n, xs.length = 3 * n ∧ n ≤ 300 ∧ OwnT 35 3 w' base l n xs ∧ Below base u w'
set_option maxHeartbeats 8000000 in
theorem s_runsOf (g c : Nat) (G : Nat → Nat → Bool) (w : World) (hg : g < w.heap.size) (hc : ∀ x y : Nat, x ≤ 15 → y ≤ 15 → w.cell? ⟨g, y * 16 + x, none⟩ = some (.bool (G x y))) :
    Calls Tryd.prog 26 #[.slice (some ⟨g, 0, none⟩) 256 c] w (RunsI G w) := by
  have HC := Lib.hid hc
  have H0 : Hid (RnSt w w.heap.size (w.alloc (.cells #[] 35)) (.slice (some ⟨w.heap.size, 0, none⟩) 0 0) (rnk G 0)) := Lib.hid ⟨0, rfl, by omega, OwnT.none _ _ _, (Below.refl _ _).alloc (Nat.le_refl _) _⟩
  clear hc
  go_enter Tryd.func26, Tryd.ntmps26
  go_wp2
  generalize w.alloc (.cells #[] 35) = u0 at *
  go_loopw [3, 4] (fun l i wr => ∃ y : Nat, y ≤ 16 ∧ i = .int .i64 y ∧ Hid (RnSt w w.heap.size wr l (rnk G y))) (fun _ i _ => 16 - (intOf i).toNat)
  case atStart => exact ⟨0, by omega, rfl, H0⟩
  case round =>
    clear H0
    obtain ⟨y, hy, rfl, hI⟩ := hrel
    by_cases hylt : y < 16
    · go_wp2
      go_loopw [3, 5, 6, 7] (fun l f i b wr => ∃ (k : Nat) (fr : Int), k ≤ 17 ∧ i = .int .i64 k ∧ f = .int .i64 fr ∧ Hid (fr = (rowS (rowG G y) y k).2) ∧ Hid (RnSt w w.heap.size wr l (rnk G y ++ (rowS (rowG G y) y k).1))) (fun _ _ i _ _ => 17 - (intOf i).toNat)
      case atStart => exact ⟨0, -1, by omega, rfl, rfl, Lib.hid rfl, by simpa [rowS] using hI⟩
      case round =>
        clear hI
        obtain ⟨k, fr, hk, rfl, rfl, hF, hJ⟩ := hrel
        by_cases hklt : k < 17
        · have hk' : k ≤ 16 := by omega
          by_cases h16 : k < 16
          · have hcell : wr.cell? ⟨g, y * 16 + k, none⟩ = some (.bool (G k y)) := by
              obtain ⟨n, hl, hn, hO, hbel⟩ := hJ.out
              exact (hbel.cell (p := ⟨g, y * 16 + k, none⟩) hg).trans (HC.out k y (by omega) (by omega))
            have r1 : ((y : Int) * 16 + (k : Int)).toNat = y * 16 + k := by omega
            have r2 : 0 ≤ (y : Int) * 16 + (k : Int) := by omega
            have r3 : (y : Int) * 16 + (k : Int) < 256 := by omega
            have hkI : (k : Int) < 16 := by omega
            have HB : Hid (rowG G y k = G k y) := Lib.hid (by unfold rowG; rw [decide_eq_true h16, Bool.true_and])
            cases hv : G k y
            all_goals rw [hv] at hcell HB
            all_goals clear hv
            · have hb : rowG G y k = false := HB.out
              by_cases h0 : fr < 0
              · have HN : Hid (fr = (rowS (rowG G y) y (k + 1)).2) := Lib.hid (by rw [rowS_off hb]; exact hF.out.trans (rowS_neg k (by rw [← hF.out]; exact h0)))
                have HS : Hid (RnSt w w.heap.size wr u3 (rnk G y ++ (rowS (rowG G y) y (k + 1)).1)) := Lib.hid (by
                  rw [rowS_off hb]; show RnSt w w.heap.size wr u3 (rnk G y ++ rowF (rowG G y) y k)
                  unfold rowF; rw [if_pos (by rw [← hF.out]; exact h0)]; exact hJ.out)
                clear hJ hF hb HB
                go_wp2
                go_roundw
                case rel => exact ⟨k + 1, fr, by omega, by go_num, rfl, HN, HS⟩
                case measure => simp [intOf]; omega
              · have HN : Hid ((-1 : Int) = (rowS (rowG G y) y (k + 1)).2) := Lib.hid (by rw [rowS_off hb])
                have HE : Hid (rnk G y ++ (rowS (rowG G y) y (k + 1)).1 = (rnk G y ++ (rowS (rowG G y) y k).1) ++ [(y : Int), fr, (k : Int)]) := Lib.hid (by
                  rw [rowS_off hb, hF.out]; show rnk G y ++ rowF (rowG G y) y k = _
                  unfold rowF; rw [if_neg (by rw [← hF.out]; exact h0), List.append_assoc])
                obtain ⟨n, hl, hn, hO, hbel⟩ := hJ.out
                have hn2 : n ≤ 290 := by
                  obtain ⟨n1, e1, e2⟩ := rnk_len G y
                  obtain ⟨n2, e3, e4, _⟩ := rowS_len (G := rowG G y) (y := (y : Int)) k
                  rw [List.length_append, e1, e3] at hl; omega
                have hf1 : fr < 100 := by
                  have := rowS_from (G := rowG G y) (y := (y : Int)) k
                  rw [← hF.out] at this; omega
                obtain ⟨A1, c1, rfl, hc1⟩ := hO.slice
                have HO := Lib.hid (hO.alloc (.cells #[.int .i64 (y : Int), .int .i64 fr, .int .i64 (k : Int)] 35))
                have HLt := Lib.hid hO.lt
                have HA := Lib.hid (hbel.alloc hbel.size (.cells #[.int .i64 (y : Int), .int .i64 fr, .int .i64 (k : Int)] 35))
                have HsB : Hid (w.heap.size ≤ wr.heap.size) := Lib.hid hbel.size
                have HRC := Lib.hid (run_cells wr (y : Int) fr (k : Int) 35)
                have HL := Lib.hid hl
                clear hO hbel hJ hF hb HB hl
                go_wp2_with (at_builtin; refine wpList_appRun rfl (.tmp 40) (.tmp 45) rfl w.heap.size (.slice A1 n c1) n _ rfl HO.out wr.heap.size 1 1 [(y : Int), fr, (k : Int)] rfl (by simp) HRC.out (by omega) (by have := HsB.out; simp; omega) ?_; intro v2 w2 hO2 hG2)
                have HS : Hid (RnSt w w.heap.size w2 v2 (rnk G y ++ (rowS (rowG G y) y (k + 1)).1)) := Lib.hid (by
                  rw [HE.out]
                  exact ⟨n + 1, by rw [List.length_append, HL.out]; simp; omega, by omega, hO2, HA.out.grown hG2 HA.out.size (fun k hk => (HLt.out k hk).1)⟩)
                clear hO2 hG2 HA HO HRC HE HL
                go_wp2
                go_roundw
                case rel => exact ⟨v2, .int .i64 (-1), .int .i64 ((k + 1 : Nat) : Int), ⟨k + 1, by omega, rfl, -1, rfl, HN, HS⟩, rfl, rfl, by go_num⟩
                case measure => simp [intOf]; omega
            · have hb : rowG G y k = true := HB.out
              have HS : Hid (RnSt w w.heap.size wr u3 (rnk G y ++ (rowS (rowG G y) y (k + 1)).1)) := Lib.hid (by rw [rowS_on hb]; exact hJ.out)
              by_cases h0 : fr < 0
              · have HN : Hid ((k : Int) = (rowS (rowG G y) y (k + 1)).2) := Lib.hid (by rw [rowS_on hb]; simp only; rw [if_pos (by rw [← hF.out]; exact h0)])
                clear hJ hF hb HB
                go_wp2
                go_roundw
                case rel => exact ⟨k + 1, (k : Int), by omega, by go_num, rfl, HN, HS⟩
                case measure => simp [intOf]; omega
              · have HN : Hid (fr = (rowS (rowG G y) y (k + 1)).2) := Lib.hid (by rw [rowS_on hb]; simp only; rw [if_neg (by rw [← hF.out]; exact h0)]; exact hF.out)
                clear hJ hF hb HB
                go_wp2
                go_roundw
                case rel => exact ⟨k + 1, fr, by omega, by go_num, rfl, HN, HS⟩
                case measure => simp [intOf]; omega
          · have hkI : ¬ (k : Int) < 16 := by omega
            have HB : Hid (rowG G y k = false) := Lib.hid (by unfold rowG; rw [decide_eq_false h16, Bool.false_and])
            have hb : rowG G y k = false := HB.out
            by_cases h0 : fr < 0
            · have HN : Hid (fr = (rowS (rowG G y) y (k + 1)).2) := Lib.hid (by rw [rowS_off hb]; exact hF.out.trans (rowS_neg k (by rw [← hF.out]; exact h0)))
              have HS : Hid (RnSt w w.heap.size wr u3 (rnk G y ++ (rowS (rowG G y) y (k + 1)).1)) := Lib.hid (by
                rw [rowS_off hb]; show RnSt w w.heap.size wr u3 (rnk G y ++ rowF (rowG G y) y k)
                unfold rowF; rw [if_pos (by rw [← hF.out]; exact h0)]; exact hJ.out)
              clear hJ hF hb HB
              go_wp2
              go_roundw
              case rel => exact ⟨k + 1, fr, by omega, by go_num, rfl, HN, HS⟩
              case measure => simp [intOf]; omega
            · have HN : Hid ((-1 : Int) = (rowS (rowG G y) y (k + 1)).2) := Lib.hid (by rw [rowS_off hb])
              have HE : Hid (rnk G y ++ (rowS (rowG G y) y (k + 1)).1 = (rnk G y ++ (rowS (rowG G y) y k).1) ++ [(y : Int), fr, (k : Int)]) := Lib.hid (by
                rw [rowS_off hb, hF.out]; show rnk G y ++ rowF (rowG G y) y k = _
                unfold rowF; rw [if_neg (by rw [← hF.out]; exact h0), List.append_assoc])
              obtain ⟨n, hl, hn, hO, hbel⟩ := hJ.out
              have hn2 : n ≤ 290 := by
                obtain ⟨n1, e1, e2⟩ := rnk_len G y
                obtain ⟨n2, e3, e4, _⟩ := rowS_len (G := rowG G y) (y := (y : Int)) k
                rw [List.length_append, e1, e3] at hl; omega
              have hf1 : fr < 100 := by
                have := rowS_from (G := rowG G y) (y := (y : Int)) k
                rw [← hF.out] at this; omega
              obtain ⟨A1, c1, rfl, hc1⟩ := hO.slice
              have HO := Lib.hid (hO.alloc (.cells #[.int .i64 (y : Int), .int .i64 fr, .int .i64 (k : Int)] 35))
              have HLt := Lib.hid hO.lt
              have HA := Lib.hid (hbel.alloc hbel.size (.cells #[.int .i64 (y : Int), .int .i64 fr, .int .i64 (k : Int)] 35))
              have HsB : Hid (w.heap.size ≤ wr.heap.size) := Lib.hid hbel.size
              have HRC := Lib.hid (run_cells wr (y : Int) fr (k : Int) 35)
              have HL := Lib.hid hl
              clear hO hbel hJ hF hb HB hl
              go_wp2_with (at_builtin; refine wpList_appRun rfl (.tmp 40) (.tmp 45) rfl w.heap.size (.slice A1 n c1) n _ rfl HO.out wr.heap.size 1 1 [(y : Int), fr, (k : Int)] rfl (by simp) HRC.out (by omega) (by have := HsB.out; simp; omega) ?_; intro v2 w2 hO2 hG2)
              have HS : Hid (RnSt w w.heap.size w2 v2 (rnk G y ++ (rowS (rowG G y) y (k + 1)).1)) := Lib.hid (by
                rw [HE.out]
                exact ⟨n + 1, by rw [List.length_append, HL.out]; simp; omega, by omega, hO2, HA.out.grown hG2 HA.out.size (fun k hk => (HLt.out k hk).1)⟩)
              clear hO2 hG2 HA HO HRC HE HL
              go_wp2
              go_roundw
              case rel => exact ⟨v2, .int .i64 (-1), .int .i64 ((k + 1 : Nat) : Int), ⟨k + 1, by omega, rfl, -1, rfl, HN, HS⟩, rfl, rfl, by go_num⟩
              case measure => simp [intOf]; omega
        · have HN : Hid (RnSt w w.heap.size wr u3 (rnk G (y + 1))) := Lib.hid (by have := hJ.out; rwa [show k = 17 by omega] at this)
          clear hJ hF
          go_wp2
          go_roundw
          case rel => exact ⟨y + 1, by omega, by go_num, HN⟩
          case measure => simp [intOf]; omega
    · obtain ⟨n, hl, hn, hO, hbel⟩ := hI.out
      obtain ⟨A1, c1, rfl, hc1⟩ := hO.slice
      have HE : Hid (RunsI G w (.returned (.slice A1 n c1)) wr) := Lib.hid (by
        have e : rnk G y = rnL G := by rw [show y = 16 by omega]; rfl
        rw [e] at hl hO
        have e2 : n = rnN G := by have := (rnL_len G).1; omega
        refine ⟨_, rfl, ?_, hbel⟩
        rw [← e2]; exact hO)
      clear hI hO hbel hl
      go_wp2
      go_ret
      exact HE.out
end Go.Proofs.YtbjgjjhfnaiocaaDoor
