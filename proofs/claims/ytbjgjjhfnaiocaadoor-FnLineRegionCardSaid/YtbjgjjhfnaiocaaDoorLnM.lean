/- Lines on a grid. -/
import Derived.Test.YtbjgjjhfnaiocaaDoorWords
namespace Go.Proofs.YtbjgjjhfnaiocaaDoor
open Go.RowKit
set_option linter.unusedSimpArgs false
set_option linter.unusedVariables false

/-- The place after i of n steps from a to b. -/
def lnX (a b : Int) (n i : Nat) : Int := a + (2 * (i : Int) * (b - a) + n) / (2 * n)
/-- Whether one of the first k places is j. -/
def ptB (p : Nat → Nat) : Nat → Nat → Bool
  | 0, _ => false
  | k + 1, j => ptB p k j || decide (j = p k)
theorem ptB_iff (p : Nat → Nat) (j : Nat) : ∀ k, ptB p k j = true ↔ ∃ i, i < k ∧ j = p i
  | 0 => by simp [ptB]
  | k + 1 => by
    unfold ptB
    rw [Bool.or_eq_true, ptB_iff p j k, decide_eq_true_eq]
    constructor
    · rintro (⟨i, hi, e⟩ | e)
      · exact ⟨i, by omega, e⟩
      · exact ⟨k, by omega, e⟩
    · rintro ⟨i, hi, e⟩
      by_cases h : i = k
      · subst h; exact .inr e
      · exact .inl ⟨i, by omega, e⟩
theorem half_div {n : Int} (h : 0 < n) : n / (2 * n) = 0 := Int.ediv_eq_zero_of_lt (by omega) (by omega)
theorem lnX_up {a b : Int} {n i : Nat} (hn : 0 < n) (hi : i ≤ n) (h : a ≤ b) : a ≤ lnX a b n i ∧ lnX a b n i ≤ b := by
  have hp : (0 : Int) ≤ (i : Int) * (b - a) := Int.mul_nonneg (by omega) (by omega)
  have hq : (i : Int) * (b - a) ≤ (n : Int) * (b - a) := Int.mul_le_mul_of_nonneg_right (by omega) (by omega)
  have e : 2 * (i : Int) * (b - a) = 2 * ((i : Int) * (b - a)) := Int.mul_assoc _ _ _
  have h1 : (0 : Int) ≤ (2 * (i : Int) * (b - a) + n) / (2 * n) := Int.ediv_nonneg (by omega) (by omega)
  have h2 : (2 * (i : Int) * (b - a) + n) / (2 * n) ≤ (n + (b - a) * (2 * n)) / (2 * (n : Int)) := Int.ediv_le_ediv (by omega) (by
    have e2 : (b - a) * (2 * (n : Int)) = 2 * ((n : Int) * (b - a)) := by rw [Int.mul_comm, Int.mul_assoc]
    omega)
  rw [Int.add_mul_ediv_right _ _ (by omega), half_div (by omega)] at h2
  unfold lnX
  omega
theorem lnX_dn {a b : Int} {n i : Nat} (hn : 0 < n) (hi : i ≤ n) (h : b ≤ a) : b ≤ lnX a b n i ∧ lnX a b n i ≤ a := by
  have hp : (0 : Int) ≤ (i : Int) * (a - b) := Int.mul_nonneg (by omega) (by omega)
  have hq : (i : Int) * (a - b) ≤ (n : Int) * (a - b) := Int.mul_le_mul_of_nonneg_right (by omega) (by omega)
  have e : 2 * (i : Int) * (b - a) = -(2 * ((i : Int) * (a - b))) := by
    rw [show b - a = -(a - b) by omega, Int.mul_neg, Int.mul_assoc]
  have h1 : (2 * (i : Int) * (b - a) + n) / (2 * n) ≤ n / (2 * (n : Int)) := Int.ediv_le_ediv (by omega) (by omega)
  rw [half_div (by omega)] at h1
  have h2 : (n + (b - a) * (2 * (n : Int))) / (2 * (n : Int)) ≤ (2 * (i : Int) * (b - a) + n) / (2 * n) := Int.ediv_le_ediv (by omega) (by
    have e2 : (b - a) * (2 * (n : Int)) = -(2 * ((n : Int) * (a - b))) := by rw [show b - a = -(a - b) by omega, Int.neg_mul, Int.mul_comm, Int.mul_assoc]
    omega)
  rw [Int.add_mul_ediv_right _ _ (by omega), half_div (by omega)] at h2
  unfold lnX
  omega
theorem lnX_zero (a b : Int) (i : Nat) : lnX a b 0 i = a := by unfold lnX; simp
theorem lnX_start (a b : Int) (n : Nat) : lnX a b n 0 = a := by
  rcases Nat.eq_zero_or_pos n with h | h
  · subst h; exact lnX_zero a b 0
  · have e : (2 * ((0 : Nat) : Int) * (b - a) + n) / (2 * (n : Int)) = 0 := by rw [show 2 * ((0 : Nat) : Int) * (b - a) + (n : Int) = n by simp]; exact half_div (by omega)
    unfold lnX
    rw [e]; omega
theorem lnX_end (a b : Int) {n : Nat} (h : 0 < n) : lnX a b n n = b := by
  have e : (2 * (n : Int) * (b - a) + n) / (2 * (n : Int)) = b - a := by
    rw [Int.add_comm, Int.mul_comm (2 * (n : Int)), Int.add_mul_ediv_right _ _ (by omega), half_div (by omega)]; omega
  unfold lnX
  rw [e]; omega
theorem lnX_end' (a b : Int) {n : Nat} (h : (b - a).natAbs ≤ n) : lnX a b n n = b := by
  rcases Nat.eq_zero_or_pos n with e | e
  · subst e; rw [lnX_zero]; omega
  · exact lnX_end a b e
/-- Along the longer side each step goes on by one. -/
theorem lnX_major_up {a b : Int} {n i : Nat} (hn : 0 < n) (h : b - a = n) : lnX a b n i = a + i := by
  have e : (2 * (i : Int) * (b - a) + n) / (2 * (n : Int)) = i := by
    rw [h, show 2 * (i : Int) * (n : Int) + n = n + i * (2 * n) by rw [Int.mul_comm 2 (i : Int), Int.mul_assoc]; omega, Int.add_mul_ediv_right _ _ (by omega), half_div (by omega)]; omega
  unfold lnX
  rw [e]
theorem lnX_major_dn {a b : Int} {n i : Nat} (hn : 0 < n) (h : a - b = n) : lnX a b n i = a - i := by
  have e : (2 * (i : Int) * (b - a) + n) / (2 * (n : Int)) = -(i : Int) := by
    rw [show b - a = -(n : Int) by omega, show 2 * (i : Int) * -(n : Int) + n = n + (-(i : Int)) * (2 * n) by rw [Int.mul_comm 2 (i : Int), Int.mul_assoc, Int.neg_mul, Int.mul_neg, Int.mul_neg]; omega, Int.add_mul_ediv_right _ _ (by omega), half_div (by omega)]; omega
  unfold lnX
  rw [e]; omega
theorem lnX_in {a b : Int} {n i : Nat} (ha : 0 ≤ a ∧ a ≤ 15) (hb : 0 ≤ b ∧ b ≤ 15) (hd : (b - a).natAbs ≤ n) (hi : i ≤ n) : min a b ≤ lnX a b n i ∧ lnX a b n i ≤ max a b := by
  rcases Nat.eq_zero_or_pos n with e | e
  · subst e; rw [lnX_zero]; omega
  · rcases Int.le_total a b with h | h
    · have := lnX_up e hi h; omega
    · have := lnX_dn e hi h; omega
/-- The state of a walk: how far it is past the middle. -/
def wkP (a b : Int) (n i : Nat) : Int := 2 * (i : Int) * (b - a) + n - 2 * n * (lnX a b n i - a)
theorem wkP_bd (a b : Int) {n : Nat} (hn : 0 < n) (i : Nat) : 0 ≤ wkP a b n i ∧ wkP a b n i < 2 * n := by
  unfold wkP lnX
  have h1 := Int.mul_ediv_add_emod (2 * (i : Int) * (b - a) + n) (2 * n)
  have h2 := Int.emod_nonneg (2 * (i : Int) * (b - a) + n) (show (2 * (n : Int)) ≠ 0 by omega)
  have h3 := Int.emod_lt_of_pos (2 * (i : Int) * (b - a) + n) (show 0 < (2 * (n : Int)) by omega)
  rw [show a + (2 * (i : Int) * (b - a) + n) / (2 * n) - a = (2 * (i : Int) * (b - a) + n) / (2 * n) by omega]
  generalize 2 * (n : Int) * ((2 * (i : Int) * (b - a) + n) / (2 * n)) = u at *
  omega
theorem wkP_start (a b : Int) (n : Nat) : wkP a b n 0 = n := by
  unfold wkP
  rw [lnX_start]; simp
/-- A quotient is known by its remainder. -/
theorem div_of {q p u m : Int} (h : u = m * q + p) (h0 : 0 ≤ p) (h1 : p < m) : u / m = q := by
  rw [h, Int.add_comm, Int.add_mul_ediv_left _ _ (by omega), Int.ediv_eq_zero_of_lt h0 h1]; omega
theorem wk_next {a b : Int} {n i : Nat} (hn : 0 < n) (hd : -(n : Int) ≤ b - a ∧ b - a ≤ n) :
    (wkP a b n i + 2 * (b - a) < 0 → lnX a b n (i + 1) = lnX a b n i - 1 ∧ wkP a b n (i + 1) = wkP a b n i + 2 * (b - a) + 2 * n) ∧
    (2 * n ≤ wkP a b n i + 2 * (b - a) → lnX a b n (i + 1) = lnX a b n i + 1 ∧ wkP a b n (i + 1) = wkP a b n i + 2 * (b - a) - 2 * n) ∧
    (0 ≤ wkP a b n i + 2 * (b - a) → wkP a b n i + 2 * (b - a) < 2 * n → lnX a b n (i + 1) = lnX a b n i ∧ wkP a b n (i + 1) = wkP a b n i + 2 * (b - a)) := by
  obtain ⟨p0, p1⟩ := wkP_bd a b hn i
  obtain ⟨X, hX⟩ : ∃ X, X = lnX a b n i := ⟨_, rfl⟩
  obtain ⟨P, hP⟩ : ∃ P, P = wkP a b n i := ⟨_, rfl⟩
  have hs : 2 * ((i + 1 : Nat) : Int) * (b - a) = 2 * (i : Int) * (b - a) + 2 * (b - a) := by
    rw [show ((i + 1 : Nat) : Int) = (i : Int) + 1 by omega, Int.mul_add, Int.add_mul]; omega
  have hw : 2 * (i : Int) * (b - a) + n = 2 * n * (X - a) + P := by rw [hP, hX]; unfold wkP; omega
  have key : ∀ Y Q : Int, 2 * (i : Int) * (b - a) + 2 * (b - a) + n = 2 * n * (Y - a) + Q → 0 ≤ Q → Q < 2 * n → lnX a b n (i + 1) = Y ∧ wkP a b n (i + 1) = Q := fun Y Q h h0 h1 => by
    have e : lnX a b n (i + 1) = Y := by
      unfold lnX
      rw [hs, div_of h h0 h1]; omega
    refine ⟨e, ?_⟩
    unfold wkP
    rw [e, hs]; omega
  rw [← hP] at p0 p1
  rw [← hX, ← hP]
  have m1 : 2 * (n : Int) * (X - 1 - a) = 2 * n * (X - a) - 2 * n := by rw [show X - 1 - a = (X - a) - 1 by omega, Int.mul_sub]; omega
  have m2 : 2 * (n : Int) * (X + 1 - a) = 2 * n * (X - a) + 2 * n := by rw [show X + 1 - a = (X - a) + 1 by omega, Int.mul_add]; omega
  refine ⟨fun h => key _ _ (by rw [m1]; omega) (by omega) (by omega), fun h => key _ _ (by rw [m2]; omega) (by omega) (by omega), fun h h' => key _ _ (by omega) (by omega) (by omega)⟩
end Go.Proofs.YtbjgjjhfnaiocaaDoor
