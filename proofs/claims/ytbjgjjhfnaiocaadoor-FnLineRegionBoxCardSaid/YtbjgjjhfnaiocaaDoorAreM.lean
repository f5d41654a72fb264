/- Mathematics of areas and bounds of regions. -/
import Derived.Test.YtbjgjjhfnaiocaaDoorRnM
import Derived.Test.YtbjgjjhfnaiocaaDoorArea
import Derived.Test.YtbjgjjhfnaiocaaDoorBndM
namespace Go.Proofs.YtbjgjjhfnaiocaaDoor
set_option linter.unusedSimpArgs false
set_option linter.unusedVariables false
set_option maxRecDepth 20000

theorem lohi_in {xs : List Int} : ∀ k j, j < k → lo xs k ≤ gF xs j ∧ gT xs j ≤ hi xs k
  | 0, j, h => by omega
  | k + 1, j, h => by
    show min (lo xs k) (gF xs k) ≤ _ ∧ _ ≤ max (hi xs k) (gT xs k)
    by_cases e : j = k
    · subst e; omega
    · have := lohi_in (xs := xs) k j (by omega); omega
theorem area_pos {xs : List Int} {n : Nat} (h : reg xs n) : ∀ k, k ≤ n → (k : Int) ≤ area xs k
  | 0, _ => by simp [area]
  | k + 1, hk => by
    have ih := area_pos h k (by omega)
    obtain ⟨_, _, c0, c1⟩ := bnds h (show k < n by omega)
    show _ ≤ area xs k + (gT xs k - gF xs k)
    omega
/-- The runs lie in their box, row by row. -/
theorem area_row {xs : List Int} {n : Nat} (h : reg xs n) {L R : Int} (hL : ∀ j, j < n → L ≤ gF xs j) (hR : ∀ j, j < n → gT xs j ≤ R) (hLR : 0 ≤ R - L) :
    ∀ k, k + 1 ≤ n → area xs (k + 1) ≤ (gY xs k - gY xs 0) * (R - L) + (gT xs k - L)
  | 0, hk => by
    show area xs 0 + (gT xs 0 - gF xs 0) ≤ _
    have := hL 0 (by omega)
    rw [Int.sub_self, Int.zero_mul]
    simp [area]; omega
  | k + 1, hk => by
    have ih := area_row h hL hR hLR k (by omega)
    have hf := of_decide_eq_true ((regAt_parts (h (k + 1) (by omega))).2 (by omega))
    rw [Nat.add_sub_cancel] at hf
    obtain ⟨_, _, c0, c1⟩ := bnds h (show k + 1 < n by omega)
    have h1 := hL (k + 1) (by omega)
    have h2 := hR k (by omega)
    show area xs (k + 1) + (gT xs (k + 1) - gF xs (k + 1)) ≤ _
    rcases hf with hf | ⟨hf, hf2⟩
    · have e : (gY xs k - gY xs 0) * (R - L) + (R - L) ≤ (gY xs (k + 1) - gY xs 0) * (R - L) := by
        have := Int.mul_le_mul_of_nonneg_right (show gY xs k - gY xs 0 + 1 ≤ gY xs (k + 1) - gY xs 0 by omega) hLR
        rw [Int.add_mul, Int.one_mul] at this
        exact this
      omega
    · rw [← hf]; omega
theorem area_box {xs : List Int} {n : Nat} (h : reg xs n) (hn : 0 < n) : area xs n ≤ (hi xs n - lo xs n) * (gY xs (n - 1) - gY xs 0 + 1) := by
  obtain ⟨m, rfl⟩ : ∃ m, n = m + 1 := ⟨n - 1, by omega⟩
  have hlh := fun j hj => lohi_in (xs := xs) (m + 1) j hj
  have h0 := hlh m (by omega)
  obtain ⟨_, _, c0, c1⟩ := bnds h (show m < m + 1 by omega)
  have := area_row h (L := lo xs (m + 1)) (R := hi xs (m + 1)) (fun j hj => (hlh j hj).1) (fun j hj => (hlh j hj).2) (by omega) m (by omega)
  rw [Nat.add_sub_cancel, Int.mul_comm, Int.add_mul, Int.one_mul]
  omega
theorem gY_mono {xs : List Int} {n : Nat} (h : reg xs n) : ∀ k, k < n → gY xs 0 ≤ gY xs k
  | 0, _ => Int.le_refl _
  | k + 1, hk => by
    have ih := gY_mono h k (by omega)
    have hf := of_decide_eq_true ((regAt_parts (h (k + 1) hk)).2 (by omega))
    rw [Nat.add_sub_cancel] at hf
    omega
/-- How many of the first k numbers have a property. -/
def cntB (P : Nat → Bool) : Nat → Int
  | 0 => 0
  | k + 1 => cntB P k + (if P k = true then 1 else 0)
theorem cntB_bd (P : Nat → Bool) : ∀ k : Nat, 0 ≤ cntB P k ∧ cntB P k ≤ k
  | 0 => by simp [cntB]
  | k + 1 => by
    have := cntB_bd P k
    unfold cntB
    split <;> omega
theorem cntB_congr {P Q : Nat → Bool} : ∀ k, (∀ i, i < k → P i = Q i) → cntB P k = cntB Q k
  | 0, _ => rfl
  | k + 1, h => by unfold cntB; rw [cntB_congr k (fun i hi => h i (by omega)), h k (by omega)]
theorem cntB_or {P Q : Nat → Bool} : ∀ k, (∀ i, i < k → P i = true → Q i = true → False) → cntB (fun i => P i || Q i) k = cntB P k + cntB Q k
  | 0, _ => rfl
  | k + 1, h => by
    have ih := cntB_or k (fun i hi => h i (by omega))
    have hk := h k (by omega)
    unfold cntB
    rw [ih]
    cases hp : P k <;> cases hq : Q k
    · simp
    · simp; omega
    · simp; omega
    · exact absurd (hk hp hq) (fun x => x)
theorem cntB_int {a b : Int} (ha : 0 ≤ a) (hab : a ≤ b) : ∀ k : Nat, cntB (fun i => decide (a ≤ (i : Int) ∧ (i : Int) < b)) k = min b k - min a k
  | 0 => by simp [cntB]; omega
  | k + 1 => by
    unfold cntB
    rw [cntB_int ha hab k]
    by_cases h : a ≤ (k : Int) ∧ (k : Int) < b
    · rw [decide_eq_true h, if_pos rfl]; omega
    · rw [decide_eq_false h, if_neg (by simp)]; omega
theorem run_place {xs : List Int} {n k : Nat} (h : reg xs n) (hk : k < n) {i : Nat} (hi : i < 256) :
    runB (gY xs k) (gF xs k) (gT xs k) ((i % 16 : Nat) : Int) ((i / 16 : Nat) : Int) = decide (gY xs k * 16 + gF xs k ≤ (i : Int) ∧ (i : Int) < gY xs k * 16 + gT xs k) := by
  obtain ⟨⟨a0, a1⟩, ⟨b0, b1⟩, c0, c1⟩ := bnds h hk
  unfold runB
  rw [← Bool.decide_and]
  refine decide_eq_decide.2 ?_
  omega
/-- The area of a region is the number of its pixels. -/
theorem area_cnt {xs : List Int} {n : Nat} (h : reg xs n) : ∀ m, m ≤ n → cntB (fun i => rh xs ((i % 16 : Nat) : Int) ((i / 16 : Nat) : Int) m) 256 = area xs m
  | 0, _ => by
    show cntB (fun i => false) 256 = 0
    have : ∀ k, cntB (fun _ => false) k = 0 := by
      intro k
      induction k with
      | zero => rfl
      | succ k ih => unfold cntB; rw [ih]; simp
    exact this 256
  | m + 1, hm => by
    have ih := area_cnt h m (by omega)
    obtain ⟨⟨a0, a1⟩, ⟨b0, b1⟩, c0, c1⟩ := bnds h (show m < n by omega)
    have e : cntB (fun i => rh xs ((i % 16 : Nat) : Int) ((i / 16 : Nat) : Int) (m + 1)) 256 = cntB (fun i => rh xs ((i % 16 : Nat) : Int) ((i / 16 : Nat) : Int) m || decide (gY xs m * 16 + gF xs m ≤ (i : Int) ∧ (i : Int) < gY xs m * 16 + gT xs m)) 256 :=
      cntB_congr 256 (fun i hi => by
        show (rh xs _ _ m || runB (gY xs m) (gF xs m) (gT xs m) _ _) = _
        rw [run_place h (by omega) hi])
    rw [e, cntB_or 256 (fun i hi h1 h2 => by
      have h3 := bef2 h m (by omega) h1
      have h4 := of_decide_eq_true h2
      omega), ih, cntB_int (by omega) (by omega)]
    show _ = area xs m + (gT xs m - gF xs m)
    omega
/-- Whether a region of a grid has a pixel. -/
theorem rhas_rnL (G : Nat → Nat → Bool) (a b : Int) : rhas (rnL G) (rnN G) a b = (decide (0 ≤ a ∧ a ≤ 15) && (decide (0 ≤ b ∧ b ≤ 15) && G a.toNat b.toNat)) := by
  unfold rhas
  rw [regB_yes (rnL_reg G), Bool.true_and]
  by_cases h : (0 ≤ a ∧ a ≤ 15) ∧ (0 ≤ b ∧ b ≤ 15)
  · obtain ⟨h1, h2⟩ := h
    rw [decide_eq_true h1, decide_eq_true h2, Bool.true_and, Bool.true_and]
    have := rnL_has G (x := a.toNat) (y := b.toNat) (by omega) (by omega)
    rw [show ((a.toNat : Nat) : Int) = a by omega, show ((b.toNat : Nat) : Int) = b by omega] at this
    exact this
  · have hout : rh (rnL G) a b (rnN G) = false := by
      have : ∀ k, k ≤ rnN G → rh (rnL G) a b k = false := by
        intro k
        induction k with
        | zero => intro _; rfl
        | succ k ih =>
          intro hk
          obtain ⟨⟨a0, a1⟩, ⟨b0, b1⟩, c0, c1⟩ := bnds (rnL_reg G) (show k < rnN G by omega)
          refine rh_miss (ih (by omega)) ?_
          unfold runB
          rw [← Bool.decide_and]
          exact decide_eq_false (by omega)
      exact this _ (Nat.le_refl _)
    rw [hout]
    by_cases h1 : 0 ≤ a ∧ a ≤ 15
    · have h2 : ¬ (0 ≤ b ∧ b ≤ 15) := fun h2 => h ⟨h1, h2⟩
      rw [decide_eq_false h2]; simp
    · rw [decide_eq_false h1]; simp
end Go.Proofs.YtbjgjjhfnaiocaaDoor
