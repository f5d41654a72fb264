/- The edge of a box. -/
import Derived.Test.YtoeifhflbgfcjaaDoorChgS
import Derived.Test.YtoeifhflbgfcjaaDoorCmbM
import Derived.Test.YtoeifhflbgfcjaaDoorBoxL
namespace Go.Proofs.YtoeifhflbgfcjaaDoor
open Go.RowKit Go.Shelf
set_option linter.unusedSimpArgs false
set_option linter.unusedVariables false

theorem rh_brow_eq (x y bw px py : Int) (K : Nat) : ∀ k : Nat, k ≤ K → rh (brow x y bw K) px py k = (decide (y ≤ py ∧ py < y + k) && decide (x ≤ px ∧ px < x + bw))
  | 0, _ => by rw [decide_eq_false (show ¬ (y ≤ py ∧ py < y + ((0 : Nat) : Int)) by omega)]; rfl
  | k + 1, h => by
    unfold rh
    rw [rh_brow_eq x y bw px py K k (by omega), Bool.eq_iff_iff]
    simp only [runB, brow_Y (show k < K by omega), brow_F (show k < K by omega), brow_T (show k < K by omega), Bool.or_eq_true, Bool.and_eq_true, decide_eq_true_eq]
    omega
theorem box_has {x y bw bh : Int} (h : ftB x y bw bh 16 16 = true) (px py : Int) : rh (brL x y bw bh) px py (brN x y bw bh) = (decide (y ≤ py ∧ py < y + bh) && decide (x ≤ px ∧ px < x + bw)) := by
  obtain ⟨⟨x0, x1⟩, ⟨b0, b1⟩, ⟨y0, y1⟩, h0, h1⟩ := ftB_bd h
  have hN : ((brN x y bw bh : Nat) : Int) = bh := by unfold brN; rw [h, if_pos rfl]; omega
  unfold brL
  rw [rh_brow_eq _ _ _ _ _ _ _ (Nat.le_refl _), hN]
theorem box_cnt {x y bw bh : Int} (h : ftB x y bw bh 16 16 = true) : cntB (fun i => decide (y ≤ ((i / 16 : Nat) : Int) ∧ ((i / 16 : Nat) : Int) < y + bh) && decide (x ≤ ((i % 16 : Nat) : Int) ∧ ((i % 16 : Nat) : Int) < x + bw)) 256 = bw * bh := by
  rw [← (box_law h).2.2.2.2.2.2.1, areaV_cnt (regB_of (box_law h).1)]
  exact cntB_congr 256 (fun i _ => (box_has h _ _).symm)
theorem cnt_false {P : Nat → Bool} : ∀ k, (∀ i, i < k → P i = false) → cntB P k = 0
  | 0, _ => rfl
  | k + 1, h => by unfold cntB; rw [cnt_false k (fun i hi => h i (by omega)), h k (by omega)]; rfl
theorem ebx_law {x y bw bh : Int} (h : ftB x y bw bh 16 16 = true) :
    areaV (rnL (edG (brL x y bw bh) (brN x y bw bh))) (rnN (edG (brL x y bw bh) (brN x y bw bh))) = bw * bh - max 0 (bw - 2) * max 0 (bh - 2) := by
  obtain ⟨⟨x0, x1⟩, ⟨b0, b1⟩, ⟨y0, y1⟩, h0, h1⟩ := ftB_bd h
  have hX : ∀ j, j < 256 → rhF (brL x y bw bh) (brN x y bw bh) j = (decide (y ≤ ((j / 16 : Nat) : Int) ∧ ((j / 16 : Nat) : Int) < y + bh) && decide (x ≤ ((j % 16 : Nat) : Int) ∧ ((j % 16 : Nat) : Int) < x + bw)) := fun j _ => box_has h _ _
  rw [areaV_cnt (rnL_reg _)]
  have e1 : cntB (fun i => rh (rnL (edG (brL x y bw bh) (brN x y bw bh))) ((i % 16 : Nat) : Int) ((i / 16 : Nat) : Int) (rnN (edG (brL x y bw bh) (brN x y bw bh)))) 256 = cntB (fun i => krule 2 (rhF (brL x y bw bh) (brN x y bw bh) i) (inF (rhF (brL x y bw bh) (brN x y bw bh)) i)) 256 :=
    cntB_congr 256 (fun i hi => by
      rw [rnL_has _ (Nat.mod_lt _ (by omega)) (by omega)]
      unfold edG
      rw [show i / 16 * 16 + i % 16 = i by omega]
      rfl)
  have e2 := (cnt_rules (rhF (brL x y bw bh) (brN x y bw bh)) (inF (rhF (brL x y bw bh) (brN x y bw bh))) 256).2
  have e3 : cntB (rhF (brL x y bw bh) (brN x y bw bh)) 256 = bw * bh := by rw [← box_cnt h]; exact cntB_congr 256 hX
  have e4 : ∀ i, i < 256 → krule 1 (rhF (brL x y bw bh) (brN x y bw bh) i) (inF (rhF (brL x y bw bh) (brN x y bw bh)) i) = (decide (y + 1 ≤ ((i / 16 : Nat) : Int) ∧ ((i / 16 : Nat) : Int) < y + 1 + (bh - 2)) && decide (x + 1 ≤ ((i % 16 : Nat) : Int) ∧ ((i % 16 : Nat) : Int) < x + 1 + (bw - 2))) := fun i hi => by
    show (rhF (brL x y bw bh) (brN x y bw bh) i && inF (rhF (brL x y bw bh) (brN x y bw bh)) i) = _
    rw [Bool.eq_iff_iff, Bool.and_eq_true, inF_iff]
    simp only [Bool.and_eq_true, decide_eq_true_eq]
    constructor
    · rintro ⟨a, ⟨c1, c2, c3, c4⟩, v1, v2, v3, v4⟩
      rw [hX _ (by omega)] at v1 v2 v3 v4
      simp only [Bool.and_eq_true, decide_eq_true_eq] at v1 v2 v3 v4
      rw [show (i - 1) % 16 = i % 16 - 1 by omega, show (i - 1) / 16 = i / 16 by omega] at v1
      rw [show (i + 1) % 16 = i % 16 + 1 by omega, show (i + 1) / 16 = i / 16 by omega] at v2
      rw [show (i - 16) % 16 = i % 16 by omega, show (i - 16) / 16 = i / 16 - 1 by omega] at v3
      rw [show (i + 16) % 16 = i % 16 by omega, show (i + 16) / 16 = i / 16 + 1 by omega] at v4
      omega
    · rintro ⟨⟨a1, a2⟩, a3, a4⟩
      have c1 : 0 < i % 16 := by omega
      have c2 : i % 16 < 15 := by omega
      have c3 : 0 < i / 16 := by omega
      have c4 : i / 16 < 15 := by omega
      refine ⟨?_, ⟨c1, c2, c3, c4⟩, ?_, ?_, ?_, ?_⟩
      · rw [hX _ hi, Bool.and_eq_true, decide_eq_true_eq, decide_eq_true_eq]; omega
      · rw [hX _ (by omega), show (i - 1) % 16 = i % 16 - 1 by omega, show (i - 1) / 16 = i / 16 by omega, Bool.and_eq_true, decide_eq_true_eq, decide_eq_true_eq]; omega
      · rw [hX _ (by omega), show (i + 1) % 16 = i % 16 + 1 by omega, show (i + 1) / 16 = i / 16 by omega, Bool.and_eq_true, decide_eq_true_eq, decide_eq_true_eq]; omega
      · rw [hX _ (by omega), show (i - 16) % 16 = i % 16 by omega, show (i - 16) / 16 = i / 16 - 1 by omega, Bool.and_eq_true, decide_eq_true_eq, decide_eq_true_eq]; omega
      · rw [hX _ (by omega), show (i + 16) % 16 = i % 16 by omega, show (i + 16) / 16 = i / 16 + 1 by omega, Bool.and_eq_true, decide_eq_true_eq, decide_eq_true_eq]; omega
  rw [cntB_congr 256 e4] at e2
  rw [e1]
  by_cases hbig : 3 ≤ bw ∧ 3 ≤ bh
  · have hin : ftB (x + 1) (y + 1) (bw - 2) (bh - 2) 16 16 = true := by
      simp only [ftB, Bool.and_eq_true, decide_eq_true_eq]
      omega
    rw [box_cnt hin] at e2
    rw [show max (0 : Int) (bw - 2) = bw - 2 by omega, show max (0 : Int) (bh - 2) = bh - 2 by omega]
    omega
  · have ez : cntB (fun i => decide (y + 1 ≤ ((i / 16 : Nat) : Int) ∧ ((i / 16 : Nat) : Int) < y + 1 + (bh - 2)) && decide (x + 1 ≤ ((i % 16 : Nat) : Int) ∧ ((i % 16 : Nat) : Int) < x + 1 + (bw - 2))) 256 = 0 := cnt_false 256 (fun i hi => by
      rw [Bool.and_eq_false_iff, decide_eq_false_iff_not, decide_eq_false_iff_not]
      omega)
    rw [ez] at e2
    have hz : max (0 : Int) (bw - 2) * max (0 : Int) (bh - 2) = 0 := by
      rcases (show bw < 3 ∨ 3 ≤ bw by omega) with hb | hb
      · rw [show max (0 : Int) (bw - 2) = 0 by omega, Int.zero_mul]
      · rw [show max (0 : Int) (bh - 2) = 0 by omega, Int.mul_zero]
    rw [hz]
    omega
end Go.Proofs.YtoeifhflbgfcjaaDoor
