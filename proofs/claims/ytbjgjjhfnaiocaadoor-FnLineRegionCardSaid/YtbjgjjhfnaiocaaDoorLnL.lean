/- Lines: their pixels, their number, their bounds. -/
import Derived.Test.YtbjgjjhfnaiocaaDoorLnM
import Derived.Test.YtbjgjjhfnaiocaaDoorRnM
import Derived.Test.YtbjgjjhfnaiocaaDoorAreM
import Derived.Test.YtbjgjjhfnaiocaaDoorCmbM
import Derived.Test.YtbjgjjhfnaiocaaDoorBndM
namespace Go.Proofs.YtbjgjjhfnaiocaaDoor
open Go.RowKit Go.Shelf
set_option linter.unusedSimpArgs false
set_option linter.unusedVariables false

/-- The steps of a line, its places, its pixels. -/
def lnS (x0 y0 x1 y1 : Int) : Nat := max (x1 - x0).natAbs (y1 - y0).natAbs
def lnP (x0 y0 x1 y1 : Int) (i : Nat) : Nat := (lnX y0 y1 (lnS x0 y0 x1 y1) i * 16 + lnX x0 x1 (lnS x0 y0 x1 y1) i).toNat
def lnF (x0 y0 x1 y1 : Int) : Nat → Bool := ptB (lnP x0 y0 x1 y1) (lnS x0 y0 x1 y1 + 1)
def lnG (x0 y0 x1 y1 : Int) (x y : Nat) : Bool := lnF x0 y0 x1 y1 (y * 16 + x)
def grB (a b : Int) : Prop := (0 ≤ a ∧ a ≤ 15) ∧ 0 ≤ b ∧ b ≤ 15
theorem ptB_cnt {p : Nat → Nat} : ∀ k, (∀ i, i < k → p i < 256) → (∀ i j, i < k → j < k → p i = p j → i = j) → cntB (ptB p k) 256 = k
  | 0, _, _ => by
    have : ∀ m, cntB (ptB p 0) m = 0 := fun m => by
      induction m with
      | zero => rfl
      | succ m ih => unfold cntB; rw [ih]; rfl
    exact this 256
  | k + 1, hp, hi => by
    have h1 := ptB_cnt k (fun i h => hp i (by omega)) (fun i j a b => hi i j (by omega) (by omega))
    have h2 : cntB (fun j => decide (j = p k)) 256 = 1 := by
      have := hp k (by omega)
      rw [cntB_congr 256 (Q := fun j => decide (((p k : Nat) : Int) ≤ (j : Int) ∧ (j : Int) < (p k : Int) + 1)) (fun j hj => decide_eq_decide.2 (by omega)), cntB_int (by omega) (by omega)]
      omega
    have h3 := cntB_or (P := ptB p k) (Q := fun j => decide (j = p k)) 256 (fun j hj a b => by
      obtain ⟨i, hik, e⟩ := (ptB_iff p j k).1 a
      have e2 := of_decide_eq_true b
      have := hi i k (by omega) (by omega) (by omega)
      omega)
    show cntB (fun j => ptB p k j || decide (j = p k)) 256 = ((k + 1 : Nat) : Int)
    rw [h3, h1, h2]; omega
section
variable {x0 y0 x1 y1 : Int}
theorem lnS_x : (x1 - x0).natAbs ≤ lnS x0 y0 x1 y1 := Nat.le_max_left _ _
theorem lnS_y : (y1 - y0).natAbs ≤ lnS x0 y0 x1 y1 := Nat.le_max_right _ _
theorem ln_in (h0 : grB x0 y0) (h1 : grB x1 y1) {i : Nat} (hi : i ≤ lnS x0 y0 x1 y1) :
    (min x0 x1 ≤ lnX x0 x1 (lnS x0 y0 x1 y1) i ∧ lnX x0 x1 (lnS x0 y0 x1 y1) i ≤ max x0 x1) ∧ min y0 y1 ≤ lnX y0 y1 (lnS x0 y0 x1 y1) i ∧ lnX y0 y1 (lnS x0 y0 x1 y1) i ≤ max y0 y1 :=
  ⟨lnX_in h0.1 h1.1 lnS_x hi, lnX_in h0.2 h1.2 lnS_y hi⟩
theorem lnP_at (h0 : grB x0 y0) (h1 : grB x1 y1) {i : Nat} (hi : i ≤ lnS x0 y0 x1 y1) :
    lnP x0 y0 x1 y1 i < 256 ∧ ((lnP x0 y0 x1 y1 i / 16 : Nat) : Int) = lnX y0 y1 (lnS x0 y0 x1 y1) i ∧ ((lnP x0 y0 x1 y1 i % 16 : Nat) : Int) = lnX x0 x1 (lnS x0 y0 x1 y1) i := by
  obtain ⟨⟨a, b⟩, c, d⟩ := ln_in h0 h1 hi
  obtain ⟨⟨p, q⟩, r, s⟩ := h0
  obtain ⟨⟨p', q'⟩, r', s'⟩ := h1
  unfold lnP
  generalize lnX x0 x1 (lnS x0 y0 x1 y1) i = X at *
  generalize lnX y0 y1 (lnS x0 y0 x1 y1) i = Y at *
  omega
theorem lnP_inj (h0 : grB x0 y0) (h1 : grB x1 y1) {i j : Nat} (hi : i ≤ lnS x0 y0 x1 y1) (hj : j ≤ lnS x0 y0 x1 y1) (he : lnP x0 y0 x1 y1 i = lnP x0 y0 x1 y1 j) : i = j := by
  obtain ⟨_, a, b⟩ := lnP_at h0 h1 hi
  obtain ⟨_, c, d⟩ := lnP_at h0 h1 hj
  rw [he] at a b
  have ex := b.symm.trans d
  have ey := a.symm.trans c
  rcases Nat.eq_zero_or_pos (lnS x0 y0 x1 y1) with e | e
  · omega
  · have hS : lnS x0 y0 x1 y1 = (x1 - x0).natAbs ∨ lnS x0 y0 x1 y1 = (y1 - y0).natAbs := by unfold lnS; omega
    rcases hS with hS | hS
    · rcases (show x1 - x0 = (lnS x0 y0 x1 y1 : Int) ∨ x0 - x1 = (lnS x0 y0 x1 y1 : Int) by omega) with h | h
      · rw [lnX_major_up e h, lnX_major_up e h] at ex; omega
      · rw [lnX_major_dn e h, lnX_major_dn e h] at ex; omega
    · rcases (show y1 - y0 = (lnS x0 y0 x1 y1 : Int) ∨ y0 - y1 = (lnS x0 y0 x1 y1 : Int) by omega) with h | h
      · rw [lnX_major_up e h, lnX_major_up e h] at ey; omega
      · rw [lnX_major_dn e h, lnX_major_dn e h] at ey; omega
theorem lnG_iff (h0 : grB x0 y0) (h1 : grB x1 y1) {x y : Nat} (hx : x < 16) (hy : y < 16) :
    lnG x0 y0 x1 y1 x y = true ↔ ∃ i, i ≤ lnS x0 y0 x1 y1 ∧ lnX x0 x1 (lnS x0 y0 x1 y1) i = x ∧ lnX y0 y1 (lnS x0 y0 x1 y1) i = y := by
  unfold lnG lnF
  rw [ptB_iff]
  constructor
  · rintro ⟨i, hi, e⟩
    obtain ⟨_, a, b⟩ := lnP_at h0 h1 (show i ≤ lnS x0 y0 x1 y1 by omega)
    exact ⟨i, by omega, by omega, by omega⟩
  · rintro ⟨i, hi, a, b⟩
    obtain ⟨_, c, d⟩ := lnP_at h0 h1 hi
    exact ⟨i, by omega, by omega⟩
theorem ln_area (h0 : grB x0 y0) (h1 : grB x1 y1) : areaV (rnL (lnG x0 y0 x1 y1)) (rnN (lnG x0 y0 x1 y1)) = (lnS x0 y0 x1 y1 : Int) + 1 := by
  rw [areaV_cnt (rnL_reg _)]
  rw [cntB_congr 256 (Q := lnF x0 y0 x1 y1) (fun i hi => by
    rw [rnL_has _ (Nat.mod_lt _ (by omega)) (by omega)]
    unfold lnG
    rw [show i / 16 * 16 + i % 16 = i by omega])]
  unfold lnF
  rw [ptB_cnt _ (fun i hi => (lnP_at h0 h1 (by omega)).1) (fun i j hi hj e => lnP_inj h0 h1 (by omega) (by omega) e)]
  omega
theorem ln_has (h0 : grB x0 y0) (h1 : grB x1 y1) : rhas (rnL (lnG x0 y0 x1 y1)) (rnN (lnG x0 y0 x1 y1)) x0 y0 = true ∧ rhas (rnL (lnG x0 y0 x1 y1)) (rnN (lnG x0 y0 x1 y1)) x1 y1 = true := by
  obtain ⟨⟨p, q⟩, r, s⟩ := h0
  obtain ⟨⟨p', q'⟩, r', s'⟩ := h1
  rw [rhas_rnL, rhas_rnL]
  constructor
  · rw [decide_eq_true ⟨p, q⟩, decide_eq_true ⟨r, s⟩, Bool.true_and, Bool.true_and]
    exact (lnG_iff ⟨⟨p, q⟩, r, s⟩ ⟨⟨p', q'⟩, r', s'⟩ (by omega) (by omega)).2 ⟨0, by omega, by rw [lnX_start]; omega, by rw [lnX_start]; omega⟩
  · rw [decide_eq_true ⟨p', q'⟩, decide_eq_true ⟨r', s'⟩, Bool.true_and, Bool.true_and]
    exact (lnG_iff ⟨⟨p, q⟩, r, s⟩ ⟨⟨p', q'⟩, r', s'⟩ (by omega) (by omega)).2 ⟨_, Nat.le_refl _, by rw [lnX_end' _ _ lnS_x]; omega, by rw [lnX_end' _ _ lnS_y]; omega⟩
theorem ln_pos (h0 : grB x0 y0) (h1 : grB x1 y1) : 0 < rnN (lnG x0 y0 x1 y1) := by
  rcases Nat.eq_zero_or_pos (rnN (lnG x0 y0 x1 y1)) with e | e
  · have := (ln_has h0 h1).1
    unfold rhas at this
    rw [Bool.and_eq_true, e] at this
    cases this.2
  · exact e
end
theorem rh_some {xs : List Int} {x y : Int} : ∀ n, rh xs x y n = true → ∃ j, j < n ∧ y = gY xs j ∧ gF xs j ≤ x ∧ x < gT xs j
  | 0, h => by simp [rh] at h
  | n + 1, h => by
    unfold rh at h
    rcases Bool.or_eq_true_iff.1 h with h | h
    · obtain ⟨j, hj, r⟩ := rh_some n h
      exact ⟨j, by omega, r⟩
    · simp only [runB, Bool.and_eq_true, decide_eq_true_eq] at h
      exact ⟨n, by omega, h.1, h.2.1, by omega⟩
theorem gY_up {xs : List Int} {n : Nat} (h : reg xs n) (i : Nat) : ∀ d, i + d < n → gY xs i ≤ gY xs (i + d)
  | 0, _ => Int.le_refl _
  | d + 1, hk => by
    have ih := gY_up h i d (by omega)
    have hf := of_decide_eq_true ((regAt_parts (h (i + d + 1) (by omega))).2 (by omega))
    rw [Nat.add_sub_cancel] at hf
    show gY xs i ≤ gY xs (i + d + 1)
    omega
theorem gY_last {xs : List Int} {n : Nat} (h : reg xs n) (i : Nat) (hi : i < n) : gY xs i ≤ gY xs (n - 1) := by
  have := gY_up h i (n - 1 - i) (by omega)
  rwa [show i + (n - 1 - i) = n - 1 by omega] at this
/-- The bounds of a list of runs, by its pixels. -/
theorem lo_min {xs : List Int} {n : Nat} (h : reg xs n) (hn : 0 < n) {a : Int} (h1 : ∀ x y, rh xs x y n = true → a ≤ x) {y' : Int} (h2 : rh xs a y' n = true) : lo xs n = a := by
  have hat : ∀ k, k ≤ n → ∃ j, j < n ∧ lo xs k = gF xs j := fun k => by
    induction k with
    | zero => exact fun _ => ⟨0, hn, rfl⟩
    | succ k ih =>
      intro hk
      obtain ⟨j, hj, e⟩ := ih (by omega)
      unfold lo
      by_cases hle : lo xs k ≤ gF xs k
      · exact ⟨j, hj, by omega⟩
      · exact ⟨k, by omega, by omega⟩
  obtain ⟨j, hj, e⟩ := hat n (Nat.le_refl _)
  have hb := (regAt_parts (h j hj)).1
  have hv := vrunB_bd hb
  have p1 := h1 (gF xs j) (gY xs j) (rh_hit hj (by unfold runB; rw [Bool.and_eq_true, decide_eq_true_eq, decide_eq_true_eq]; omega))
  obtain ⟨i, hi, q⟩ := rh_some n h2
  have p2 := (lohi_in (xs := xs) n i hi).1
  omega
theorem hi_max {xs : List Int} {n : Nat} (h : reg xs n) (hn : 0 < n) {b : Int} (h1 : ∀ x y, rh xs x y n = true → x ≤ b) {y' : Int} (h2 : rh xs b y' n = true) : hi xs n = b + 1 := by
  have hat : ∀ k, k ≤ n → ∃ j, j < n ∧ hi xs k = gT xs j := fun k => by
    induction k with
    | zero => exact fun _ => ⟨0, hn, rfl⟩
    | succ k ih =>
      intro hk
      obtain ⟨j, hj, e⟩ := ih (by omega)
      unfold hi
      by_cases hle : gT xs k ≤ hi xs k
      · exact ⟨j, hj, by omega⟩
      · exact ⟨k, by omega, by omega⟩
  obtain ⟨j, hj, e⟩ := hat n (Nat.le_refl _)
  have hb := (regAt_parts (h j hj)).1
  have hv := vrunB_bd hb
  have p1 := h1 (gT xs j - 1) (gY xs j) (rh_hit hj (by unfold runB; rw [Bool.and_eq_true, decide_eq_true_eq, decide_eq_true_eq]; omega))
  obtain ⟨i, hi', q⟩ := rh_some n h2
  have p2 := (lohi_in (xs := xs) n i hi').2
  omega
theorem top_min {xs : List Int} {n : Nat} (h : reg xs n) (hn : 0 < n) {a : Int} (h1 : ∀ x y, rh xs x y n = true → a ≤ y) {x' : Int} (h2 : rh xs x' a n = true) : gY xs 0 = a := by
  have hv := vrunB_bd (regAt_parts (h 0 hn)).1
  have p1 := h1 (gF xs 0) (gY xs 0) (rh_hit hn (by unfold runB; rw [Bool.and_eq_true, decide_eq_true_eq, decide_eq_true_eq]; omega))
  obtain ⟨i, hi, q⟩ := rh_some n h2
  have p2 := gY_mono h i hi
  omega
theorem bot_max {xs : List Int} {n : Nat} (h : reg xs n) (hn : 0 < n) {b : Int} (h1 : ∀ x y, rh xs x y n = true → y ≤ b) {x' : Int} (h2 : rh xs x' b n = true) : gY xs (n - 1) = b := by
  have hv := vrunB_bd (regAt_parts (h (n - 1) (by omega))).1
  have p1 := h1 (gF xs (n - 1)) (gY xs (n - 1)) (rh_hit (show n - 1 < n by omega) (by unfold runB; rw [Bool.and_eq_true, decide_eq_true_eq, decide_eq_true_eq]; omega))
  obtain ⟨i, hi, q⟩ := rh_some n h2
  have p2 := gY_last h i hi
  omega
/-- All pixels of a line lie in its box, which they touch on all sides. -/
theorem ln_box {x0 y0 x1 y1 : Int} (h0 : grB x0 y0) (h1 : grB x1 y1) :
    bok (rnL (lnG x0 y0 x1 y1)) (rnN (lnG x0 y0 x1 y1)) = true ∧ bX (rnL (lnG x0 y0 x1 y1)) (rnN (lnG x0 y0 x1 y1)) = min x0 x1 ∧ bY (rnL (lnG x0 y0 x1 y1)) (rnN (lnG x0 y0 x1 y1)) = min y0 y1 ∧
    bW (rnL (lnG x0 y0 x1 y1)) (rnN (lnG x0 y0 x1 y1)) = ((x1 - x0).natAbs : Int) + 1 ∧ bH (rnL (lnG x0 y0 x1 y1)) (rnN (lnG x0 y0 x1 y1)) = ((y1 - y0).natAbs : Int) + 1 := by
  have hr := rnL_reg (lnG x0 y0 x1 y1)
  have hn := ln_pos h0 h1
  have hb : bok (rnL (lnG x0 y0 x1 y1)) (rnN (lnG x0 y0 x1 y1)) = true := by unfold bok; rw [decide_eq_true hn, regB_yes hr]; rfl
  have hin : ∀ x y, rh (rnL (lnG x0 y0 x1 y1)) x y (rnN (lnG x0 y0 x1 y1)) = true → (min x0 x1 ≤ x ∧ x ≤ max x0 x1) ∧ min y0 y1 ≤ y ∧ y ≤ max y0 y1 := fun x y h => by
    have h' : rhas (rnL (lnG x0 y0 x1 y1)) (rnN (lnG x0 y0 x1 y1)) x y = true := by unfold rhas; rw [regB_yes hr, h]; rfl
    rw [rhas_rnL, Bool.and_eq_true, Bool.and_eq_true, decide_eq_true_eq, decide_eq_true_eq] at h'
    obtain ⟨hx, hy, hg⟩ := h'
    obtain ⟨i, hi, a, b⟩ := (lnG_iff h0 h1 (by omega) (by omega)).1 hg
    have := ln_in h0 h1 hi
    omega
  obtain ⟨s0, s1⟩ := ln_has h0 h1
  unfold rhas at s0 s1
  rw [regB_yes hr, Bool.true_and] at s0 s1
  have e1 : lo (rnL (lnG x0 y0 x1 y1)) (rnN (lnG x0 y0 x1 y1)) = min x0 x1 := by
    rcases Int.le_total x0 x1 with h | h
    · rw [Int.min_eq_left h]; exact lo_min hr hn (fun x y hxy => by have := hin x y hxy; omega) s0
    · rw [Int.min_eq_right h]; exact lo_min hr hn (fun x y hxy => by have := hin x y hxy; omega) s1
  have e2 : hi (rnL (lnG x0 y0 x1 y1)) (rnN (lnG x0 y0 x1 y1)) = max x0 x1 + 1 := by
    rcases Int.le_total x0 x1 with h | h
    · rw [Int.max_eq_right h]; exact hi_max hr hn (fun x y hxy => by have := hin x y hxy; omega) s1
    · rw [Int.max_eq_left h]; exact hi_max hr hn (fun x y hxy => by have := hin x y hxy; omega) s0
  have e3 : gY (rnL (lnG x0 y0 x1 y1)) 0 = min y0 y1 := by
    rcases Int.le_total y0 y1 with h | h
    · rw [Int.min_eq_left h]; exact top_min hr hn (fun x y hxy => by have := hin x y hxy; omega) s0
    · rw [Int.min_eq_right h]; exact top_min hr hn (fun x y hxy => by have := hin x y hxy; omega) s1
  have e4 : gY (rnL (lnG x0 y0 x1 y1)) (rnN (lnG x0 y0 x1 y1) - 1) = max y0 y1 := by
    rcases Int.le_total y0 y1 with h | h
    · rw [Int.max_eq_right h]; exact bot_max hr hn (fun x y hxy => by have := hin x y hxy; omega) s1
    · rw [Int.max_eq_left h]; exact bot_max hr hn (fun x y hxy => by have := hin x y hxy; omega) s0
  obtain ⟨b1, b2, b3, b4⟩ := b_yes hb
  refine ⟨hb, b1.trans e1, b2.trans e3, ?_, ?_⟩
  · rw [b3, e1, e2]; omega
  · rw [b4, e3, e4]; omega
/-- The line of the mirrored places. -/
theorem lnS_swap (x0 y0 x1 y1 : Int) : lnS y0 x0 y1 x1 = lnS x0 y0 x1 y1 := Nat.max_comm _ _
theorem ln_swap {x0 y0 x1 y1 : Int} (h0 : grB x0 y0) (h1 : grB x1 y1) {x y : Int} (h : rh (rnL (lnG x0 y0 x1 y1)) x y (rnN (lnG x0 y0 x1 y1)) = true) :
    rhas (rnL (lnG y0 x0 y1 x1)) (rnN (lnG y0 x0 y1 x1)) y x = true := by
  have h' : rhas (rnL (lnG x0 y0 x1 y1)) (rnN (lnG x0 y0 x1 y1)) x y = true := by unfold rhas; rw [regB_yes (rnL_reg _), h]; rfl
  rw [rhas_rnL, Bool.and_eq_true, Bool.and_eq_true, decide_eq_true_eq, decide_eq_true_eq] at h'
  obtain ⟨hx, hy, hg⟩ := h'
  obtain ⟨i, hi, a, b⟩ := (lnG_iff h0 h1 (by omega) (by omega)).1 hg
  rw [rhas_rnL, decide_eq_true hy, decide_eq_true hx, Bool.true_and, Bool.true_and]
  exact (lnG_iff ⟨h0.2, h0.1⟩ ⟨h1.2, h1.1⟩ (by omega) (by omega)).2 ⟨i, by rw [lnS_swap]; exact hi, by rw [lnS_swap]; exact b, by rw [lnS_swap]; exact a⟩
end Go.Proofs.YtbjgjjhfnaiocaaDoor
