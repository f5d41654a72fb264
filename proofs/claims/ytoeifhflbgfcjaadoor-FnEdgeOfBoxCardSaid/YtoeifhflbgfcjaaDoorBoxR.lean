/- Contracts of BoxRegion, in the model and in the program. -/
import Derived.Test.YtoeifhflbgfcjaaDoorOwnT
import Derived.Test.YtoeifhflbgfcjaaDoorFitB
namespace Go.Proofs.YtoeifhflbgfcjaaDoor
open Go.RowKit
set_option linter.unusedSimpArgs false
set_option linter.unusedVariables false
set_option maxRecDepth 20000

/-- The first k rows of a box. -/
def brow (x y bw : Int) : Nat → List Int
  | 0 => []
  | k + 1 => brow x y bw k ++ [y + k, x, x + bw]
theorem brow_len (x y bw : Int) : ∀ k, (brow x y bw k).length = k * 3
  | 0 => rfl
  | k + 1 => by unfold brow; rw [List.length_append, brow_len x y bw k]; simp; omega
def brN (x y bw bh : Int) : Nat := if ftB x y bw bh 16 16 = true then bh.toNat else 0
def brL (x y bw bh : Int) : List Int := brow x y bw (brN x y bw bh)
def BoxRuns (x y bw bh : Int) (w : World) (e : Ending) (w' : World) : Prop :=
  ∃ v, e = .returned (.tuple #[v, .bool (ftB x y bw bh 16 16)]) ∧ OwnT 51 3 w' w.heap.size v (brN x y bw bh) (brL x y bw bh) ∧ Below w.heap.size w w'
theorem ftB_bd {x y bw bh : Int} (h : ftB x y bw bh 16 16 = true) : (0 ≤ x ∧ x ≤ 15) ∧ (1 ≤ bw ∧ x + bw ≤ 16) ∧ (0 ≤ y ∧ y ≤ 15) ∧ (1 ≤ bh ∧ y + bh ≤ 16) := by
  simp only [ftB, Bool.and_eq_true, decide_eq_true_eq] at h
  obtain ⟨⟨a, b⟩, ⟨c, d⟩, ⟨e, f⟩, g, k⟩ := h
  exact ⟨⟨a, by omega⟩, ⟨c, by omega⟩, ⟨e, by omega⟩, g, by omega⟩
theorem boxRuns_no {x y bw bh : Int} {w w' : World} (h : ftB x y bw bh 16 16 = false) (hb : Below w.heap.size w w') : BoxRuns x y bw bh w (.returned (.tuple #[.slice none 0 0, .bool false])) w' :=
  ⟨_, by rw [h], by unfold brL brN; rw [h]; exact OwnT.nil _ _ _ _, hb⟩
theorem brN_le (x y bw bh : Int) : brN x y bw bh ≤ 16 := by
  unfold brN
  split
  · next h => have := ftB_bd h; omega
  · omega
theorem brN_yes {x y bw bh : Int} (h : ftB x y bw bh 16 16 = true) : brN x y bw bh = bh.toNat := if_pos h
set_option maxHeartbeats 8000000 in
theorem i_BoxRegion (x y bw bh : Int) (w : World) : Calls Tryd.prog 27 #[.agg #[.int .i64 x, .int .i64 y, .int .i64 bw, .int .i64 bh]] w (BoxRuns x y bw bh w) := by
  have HbA : Hid (Below w.heap.size w (w.alloc (.cells #[.int .i64 x, .int .i64 y, .int .i64 bw, .int .i64 bh] 37))) := Lib.hid ((Below.refl _ _).alloc (Nat.le_refl _) _)
  have HgA : Hid ((w.alloc (.cells #[.int .i64 x, .int .i64 y, .int .i64 bw, .int .i64 bh] 37)).heap[w.heap.size]? = some (.cells #[.int .i64 x, .int .i64 y, .int .i64 bw, .int .i64 bh] 37 (0, 0))) := Lib.hid (heap_alloc_new w _)
  have HsA : Hid (w.heap.size < (w.alloc (.cells #[.int .i64 x, .int .i64 y, .int .i64 bw, .int .i64 bh] 37)).heap.size) := Lib.hid (by simp)
  cases hf : ftB x y bw bh 16 16
  · have HN := Lib.hid hf
    clear hf
    go_enter Tryd.func27, Tryd.ntmps27
    go_wp2_with fail
    generalize w.alloc (.cells #[.int .i64 x, .int .i64 y, .int .i64 bw, .int .i64 bh] 37) = u at *
    refine (ft_any x y bw bh 16 16 (by omega) (by omega) u).mono ?_
    rintro e w1 ⟨rfl, hb1⟩
    rw [HN.out]
    have HB := Lib.hid (HbA.out.trans (hb1.mono HbA.out.size))
    go_wp2
    go_ret2
    exact boxRuns_no HN.out HB.out
  · have hok := Lib.hid hf
    obtain ⟨⟨x0, x1⟩, ⟨b0, b1⟩, ⟨y0, y1⟩, h0, h1⟩ := ftB_bd hf
    clear hf
    go_enter Tryd.func27, Tryd.ntmps27
    go_wp2_with fail
    generalize w.alloc (.cells #[.int .i64 x, .int .i64 y, .int .i64 bw, .int .i64 bh] 37) = u at *
    refine (ft_any x y bw bh 16 16 (by omega) (by omega) u).mono ?_
    rintro e w1 ⟨rfl, hb1⟩
    rw [hok.out]
    have hg1 := (hb1.block w.heap.size HsA.out).trans HgA.out
    have q0 : w1.cell? ⟨w.heap.size, 0, none⟩ = some (.int .i64 x) := by rw [cell_of_row _ _ _ _ _ _ hg1]; rfl
    have q1 : w1.cell? ⟨w.heap.size, 1, none⟩ = some (.int .i64 y) := by rw [cell_of_row _ _ _ _ _ _ hg1]; rfl
    have q2 : w1.cell? ⟨w.heap.size, 2, none⟩ = some (.int .i64 bw) := by rw [cell_of_row _ _ _ _ _ _ hg1]; rfl
    have q3 : w1.cell? ⟨w.heap.size, 3, none⟩ = some (.int .i64 bh) := by rw [cell_of_row _ _ _ _ _ _ hg1]; rfl
    have HB1 := Lib.hid hb1
    clear hg1 hb1
    go_wp2
    clear q0 q1 q2 q3
    go_loopw [11, 4] (fun i l wr => ∃ j : Nat, (j : Int) ≤ bh ∧ i = .int .i64 j ∧ Hid (OwnT 51 3 wr u.heap.size l j (brow x y bw j)) ∧ Below u.heap.size u wr) (fun i _ _ => (bh - intOf i).toNat)
    case atStart => exact ⟨0, by omega, rfl, Lib.hid (OwnT.nil _ _ _ _), HB1.out⟩
    case round =>
      obtain ⟨j, hj, rfl, hO, hbel⟩ := hrel
      obtain ⟨A1, c1, rfl, hc1⟩ := hO.out.slice
      have hgr := (hbel.block w.heap.size HsA.out).trans HgA.out
      have q0 : wr.cell? ⟨w.heap.size, 0, none⟩ = some (.int .i64 x) := by rw [cell_of_row _ _ _ _ _ _ hgr]; rfl
      have q1 : wr.cell? ⟨w.heap.size, 1, none⟩ = some (.int .i64 y) := by rw [cell_of_row _ _ _ _ _ _ hgr]; rfl
      have q2 : wr.cell? ⟨w.heap.size, 2, none⟩ = some (.int .i64 bw) := by rw [cell_of_row _ _ _ _ _ _ hgr]; rfl
      have q3 : wr.cell? ⟨w.heap.size, 3, none⟩ = some (.int .i64 bh) := by rw [cell_of_row _ _ _ _ _ _ hgr]; rfl
      clear hgr
      by_cases hlt : (j : Int) < bh
      · have hlt2 : (j : Int) < bh := by omega
        have HC : Hid (∀ q : Nat, q < [y + (j : Int), x, x + bw].length → (wr.alloc (.cells #[.int .i64 (y + j), .int .i64 x, .int .i64 (x + bw)] 51)).cell? ⟨wr.heap.size, q, none⟩ = some (.int .i64 ([y + (j : Int), x, x + bw].getD q 0))) := Lib.hid (fun q hq => by
          rw [cell_of_row _ _ _ _ _ _ (heap_alloc_new wr _)]
          match q, hq with
          | 0, _ => rfl
          | 1, _ => rfl
          | 2, _ => rfl)
        have HO := Lib.hid (hO.out.alloc (.cells #[.int .i64 (y + j), .int .i64 x, .int .i64 (x + bw)] 51))
        have HLt := Lib.hid hO.out.lt
        have HA := Lib.hid (hbel.alloc hbel.size (.cells #[.int .i64 (y + j), .int .i64 x, .int .i64 (x + bw)] 51))
        have HsB : Hid (u.heap.size ≤ wr.heap.size) := Lib.hid hbel.size
        clear hO hbel
        go_wp2_with (at_builtin; refine wpList_appRun rfl (.tmp 14) (.tmp 27) rfl u.heap.size (.slice A1 j c1) j (brow x y bw j) rfl HO.out wr.heap.size 1 1 [y + (j : Int), x, x + bw] rfl (by simp) HC.out (by omega) (by have := HsB.out; simp; omega) ?_; intro v2 w2 hO2 hG2)
        have hb2 : Below u.heap.size u w2 := HA.out.grown hG2 HA.out.size (fun k hk => (HLt.out k hk).1)
        have HO2 : Hid (OwnT 51 3 w2 u.heap.size v2 (j + 1) (brow x y bw (j + 1))) := Lib.hid hO2
        clear hO2 hG2 q0 q1 q2 q3
        go_wp2
        go_roundw
        case rel => exact ⟨j + 1, by omega, by go_num, HO2, hb2⟩
        case measure => simp [intOf]; omega
      · have hlt2 : ¬ ((j : Int) < bh) := by omega
        have HE : Hid (j = brN x y bw bh) := Lib.hid (by rw [brN_yes hok.out]; omega)
        have HB := Lib.hid (HbA.out.trans (hbel.mono HbA.out.size))
        clear hbel
        go_wp2
        go_ret2
        refine ⟨.slice A1 j c1, by rw [hok.out]; rfl, ?_, HB.out⟩
        have h := hO.out
        unfold brL
        rw [← HE.out]
        exact h.base_le (by have := HsA.out; omega)
set_option maxHeartbeats 8000000 in
theorem s_BoxRegion (x y bw bh : Int) (w : World) : Calls Tryd.prog 32 #[.agg #[.int .i64 x, .int .i64 y, .int .i64 bw, .int .i64 bh]] w (BoxRuns x y bw bh w) := by
  have HbA0 : Hid (Below w.heap.size w (w.alloc (.cells #[.int .i64 x, .int .i64 y, .int .i64 bw, .int .i64 bh] 37))) := Lib.hid ((Below.refl _ _).alloc (Nat.le_refl _) _)
  have HgA0 : Hid ((w.alloc (.cells #[.int .i64 x, .int .i64 y, .int .i64 bw, .int .i64 bh] 37)).heap[w.heap.size]? = some (.cells #[.int .i64 x, .int .i64 y, .int .i64 bw, .int .i64 bh] 37 (0, 0))) := Lib.hid (heap_alloc_new w _)
  have HsA0 : Hid (w.heap.size < (w.alloc (.cells #[.int .i64 x, .int .i64 y, .int .i64 bw, .int .i64 bh] 37)).heap.size) := Lib.hid (by simp)
  have HOA : Hid (OwnT 51 3 ((w.alloc (.cells #[.int .i64 x, .int .i64 y, .int .i64 bw, .int .i64 bh] 37)).alloc (.cells #[] 51)) (w.heap.size + 1) (.slice (some ⟨w.heap.size + 1, 0, none⟩) 0 0) 0 []) := Lib.hid (by simpa using OwnT.none 51 3 (w.alloc (.cells #[.int .i64 x, .int .i64 y, .int .i64 bw, .int .i64 bh] 37)))
  have HbA : Hid (Below w.heap.size w ((w.alloc (.cells #[.int .i64 x, .int .i64 y, .int .i64 bw, .int .i64 bh] 37)).alloc (.cells #[] 51))) := Lib.hid (HbA0.out.alloc HbA0.out.size _)
  have HgA : Hid (((w.alloc (.cells #[.int .i64 x, .int .i64 y, .int .i64 bw, .int .i64 bh] 37)).alloc (.cells #[] 51)).heap[w.heap.size]? = some (.cells #[.int .i64 x, .int .i64 y, .int .i64 bw, .int .i64 bh] 37 (0, 0))) := Lib.hid ((((Below.refl (w.alloc (.cells #[.int .i64 x, .int .i64 y, .int .i64 bw, .int .i64 bh] 37)).heap.size (w.alloc (.cells #[.int .i64 x, .int .i64 y, .int .i64 bw, .int .i64 bh] 37))).alloc (Nat.le_refl _) _).block w.heap.size HsA0.out).trans HgA0.out)
  have HsA : Hid (w.heap.size + 1 < ((w.alloc (.cells #[.int .i64 x, .int .i64 y, .int .i64 bw, .int .i64 bh] 37)).alloc (.cells #[] 51)).heap.size) := Lib.hid (by simp)
  have HzA : Hid (((w.alloc (.cells #[.int .i64 x, .int .i64 y, .int .i64 bw, .int .i64 bh] 37)).alloc (.cells #[] 51)).heap.size = w.heap.size + 2) := Lib.hid (by simp)
  clear HbA0 HgA0 HsA0
  cases hf : ftB x y bw bh 16 16
  · have HN := Lib.hid hf
    clear hf
    go_enter Tryd.func32, Tryd.ntmps32
    go_wp2_with fail
    generalize (w.alloc (.cells #[.int .i64 x, .int .i64 y, .int .i64 bw, .int .i64 bh] 37)).alloc (.cells #[] 51) = u at *
    refine (vb_any x y bw bh 16 16 _ _ (by omega) (by omega) u).mono ?_
    rintro e w1 ⟨rfl, hb1⟩
    rw [HN.out]
    have HB := Lib.hid (HbA.out.trans (hb1.mono HbA.out.size))
    go_wp2
    go_ret2
    exact boxRuns_no HN.out HB.out
  · have hok := Lib.hid hf
    obtain ⟨⟨x0, x1⟩, ⟨b0, b1⟩, ⟨y0, y1⟩, h0, h1⟩ := ftB_bd hf
    clear hf
    go_enter Tryd.func32, Tryd.ntmps32
    go_wp2_with fail
    generalize (w.alloc (.cells #[.int .i64 x, .int .i64 y, .int .i64 bw, .int .i64 bh] 37)).alloc (.cells #[] 51) = u at *
    refine (vb_any x y bw bh 16 16 _ _ (by omega) (by omega) u).mono ?_
    rintro e w1 ⟨rfl, hb1⟩
    rw [hok.out]
    have hg1 := (hb1.block w.heap.size (by have := HsA.out; omega)).trans HgA.out
    have q0 : w1.cell? ⟨w.heap.size, 0, none⟩ = some (.int .i64 x) := by rw [cell_of_row _ _ _ _ _ _ hg1]; rfl
    have q1 : w1.cell? ⟨w.heap.size, 1, none⟩ = some (.int .i64 y) := by rw [cell_of_row _ _ _ _ _ _ hg1]; rfl
    have q2 : w1.cell? ⟨w.heap.size, 2, none⟩ = some (.int .i64 bw) := by rw [cell_of_row _ _ _ _ _ _ hg1]; rfl
    have q3 : w1.cell? ⟨w.heap.size, 3, none⟩ = some (.int .i64 bh) := by rw [cell_of_row _ _ _ _ _ _ hg1]; rfl
    have HB1 := Lib.hid hb1
    have HO1 := Lib.hid (HOA.out.below hb1 (Nat.le_refl _))
    clear hg1 hb1
    go_wp2
    clear q0 q1 q2 q3
    go_loopw [5, 4] (fun i l wr => ∃ j : Nat, (j : Int) ≤ bh ∧ i = .int .i64 (y + j) ∧ Hid (OwnT 51 3 wr (w.heap.size + 1) l j (brow x y bw j)) ∧ Hid (Below (w.heap.size + 1) u wr)) (fun i _ _ => (y + bh - intOf i).toNat)
    case atStart => exact ⟨0, by omega, by simp, HO1, Lib.hid (HB1.out.mono (by have := HsA.out; omega))⟩
    case round =>
      obtain ⟨j, hj, rfl, hO, hbel⟩ := hrel
      obtain ⟨A1, c1, rfl, hc1⟩ := hO.out.slice
      have hgr := (hbel.out.block w.heap.size (by omega)).trans HgA.out
      have q0 : wr.cell? ⟨w.heap.size, 0, none⟩ = some (.int .i64 x) := by rw [cell_of_row _ _ _ _ _ _ hgr]; rfl
      have q1 : wr.cell? ⟨w.heap.size, 1, none⟩ = some (.int .i64 y) := by rw [cell_of_row _ _ _ _ _ _ hgr]; rfl
      have q2 : wr.cell? ⟨w.heap.size, 2, none⟩ = some (.int .i64 bw) := by rw [cell_of_row _ _ _ _ _ _ hgr]; rfl
      have q3 : wr.cell? ⟨w.heap.size, 3, none⟩ = some (.int .i64 bh) := by rw [cell_of_row _ _ _ _ _ _ hgr]; rfl
      clear hgr
      by_cases hlt : (j : Int) < bh
      · have hlt2 : y + (j : Int) < y + bh := by omega
        have HC : Hid (∀ q : Nat, q < [y + (j : Int), x, x + bw].length → (wr.alloc (.cells #[.int .i64 (y + j), .int .i64 x, .int .i64 (x + bw)] 51)).cell? ⟨wr.heap.size, q, none⟩ = some (.int .i64 ([y + (j : Int), x, x + bw].getD q 0))) := Lib.hid (fun q hq => by
          rw [cell_of_row _ _ _ _ _ _ (heap_alloc_new wr _)]
          match q, hq with
          | 0, _ => rfl
          | 1, _ => rfl
          | 2, _ => rfl)
        have HO := Lib.hid (hO.out.alloc (.cells #[.int .i64 (y + j), .int .i64 x, .int .i64 (x + bw)] 51))
        have HLt := Lib.hid hO.out.lt
        have HA := Lib.hid (hbel.out.alloc (by have := hbel.out.size; have := HsA.out; omega) (.cells #[.int .i64 (y + j), .int .i64 x, .int .i64 (x + bw)] 51))
        have HsB : Hid (u.heap.size ≤ wr.heap.size) := Lib.hid hbel.out.size
        clear hO hbel
        go_wp2_with (at_builtin; refine wpList_appRun rfl (.tmp 22) (.tmp 32) rfl (w.heap.size + 1) (.slice A1 j c1) j (brow x y bw j) rfl HO.out wr.heap.size 1 1 [y + (j : Int), x, x + bw] rfl (by simp) HC.out (by omega) (by have := HsB.out; have := HsA.out; simp; omega) ?_; intro v2 w2 hO2 hG2)
        have hb2 : Hid (Below (w.heap.size + 1) u w2) := Lib.hid (HA.out.grown hG2 (by have := HA.out.size; have := HsA.out; omega) (fun k hk => (HLt.out k hk).1))
        have HO2 : Hid (OwnT 51 3 w2 (w.heap.size + 1) v2 (j + 1) (brow x y bw (j + 1))) := Lib.hid hO2
        clear hO2 hG2 q0 q1 q2 q3
        go_wp2
        go_roundw
        case rel => exact ⟨j + 1, by omega, by go_num, HO2, hb2⟩
        case measure => simp [intOf]; omega
      · have hlt2 : ¬ (y + (j : Int) < y + bh) := by omega
        have HE : Hid (j = brN x y bw bh) := Lib.hid (by rw [brN_yes hok.out]; omega)
        have HB := Lib.hid (HbA.out.trans (hbel.out.mono (by omega)))
        clear hbel
        go_wp2
        go_ret2
        refine ⟨.slice A1 j c1, by rw [hok.out]; rfl, ?_, HB.out⟩
        have h := hO.out
        unfold brL
        rw [← HE.out]
        exact h.base_le (by omega)
end Go.Proofs.YtoeifhflbgfcjaaDoor
