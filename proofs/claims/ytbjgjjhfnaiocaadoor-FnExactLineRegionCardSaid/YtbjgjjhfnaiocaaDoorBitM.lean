/- Rows of bits: trailing zeros, the runs of a row. -/
import Derived.Test.YtbjgjjhfnaiocaaDoorRnM
namespace Go.Proofs.YtbjgjjhfnaiocaaDoor
open Go.RowKit
set_option linter.unusedSimpArgs false
set_option linter.unusedVariables false
set_option maxRecDepth 100000

/-- The zeros before the lowest one among n bits. -/
def tzF : Nat → Nat → Nat
  | 0, _ => 0
  | n + 1, x => if x % 2 = 1 then 0 else tzF n (x / 2) + 1
def tz (x : Nat) : Nat := tzF 16 x
theorem tzF_le : ∀ n x, tzF n x ≤ n
  | 0, _ => Nat.le_refl _
  | n + 1, x => by
    have := tzF_le n (x / 2)
    unfold tzF
    split <;> omega
theorem tzF_zero : ∀ n x j, j < tzF n x → x.testBit j = false
  | 0, x, j, h => by unfold tzF at h; omega
  | n + 1, x, j, h => by
    unfold tzF at h
    split at h
    · omega
    · rename_i h2
      cases j with
      | zero => rw [Nat.testBit_zero]; exact decide_eq_false h2
      | succ j => rw [Nat.testBit_succ]; exact tzF_zero n (x / 2) j (by omega)
theorem tzF_one : ∀ n x, x < 2 ^ n → x ≠ 0 → tzF n x < n ∧ x.testBit (tzF n x) = true
  | 0, x, h, h0 => by simp at h; omega
  | n + 1, x, h, h0 => by
    unfold tzF
    split
    · rename_i h2
      exact ⟨by omega, by rw [Nat.testBit_zero]; exact decide_eq_true h2⟩
    · rename_i h2
      have ih := tzF_one n (x / 2) (by rw [Nat.pow_succ] at h; omega) (by omega)
      exact ⟨by omega, by rw [Nat.testBit_succ]; exact ih.2⟩
theorem tz_le (x : Nat) : tz x ≤ 16 := tzF_le 16 x
theorem tz_zero {x j : Nat} (h : j < tz x) : x.testBit j = false := tzF_zero 16 x j h
theorem tz_one {x : Nat} (hx : x < 65536) (h : x ≠ 0) : tz x < 16 ∧ x.testBit (tz x) = true := tzF_one 16 x hx h
theorem rowF_zeros {G : Nat → Bool} {y : Int} {f : Nat} : ∀ k, f ≤ k → (∀ x, f ≤ x → x < k → G x = false) → rowF G y k = rowF G y f
  | 0, hk, _ => by rw [show f = 0 by omega]
  | k + 1, hk, h => by
    by_cases e : f = k + 1
    · rw [e]
    · rw [rowF_off (h k (by omega) (by omega)), rowF_zeros k (by omega) (fun x h1 h2 => h x h1 (by omega))]
theorem rowS_ones {G : Nat → Bool} {y : Int} {p : Nat} (h0 : (rowS G y p).2 < 0) : ∀ t, p < t → (∀ x, p ≤ x → x < t → G x = true) → rowS G y t = ((rowS G y p).1, (p : Int))
  | 0, h, _ => by omega
  | t + 1, h, hG => by
    rw [rowS_on (hG t (by omega) (by omega))]
    by_cases e : p = t
    · subst e; rw [if_pos h0]
    · rw [rowS_ones h0 t (by omega) (fun x h1 h2 => hG x h1 (by omega))]
      simp only
      rw [if_neg (by omega)]
/-- A run is found: zeros from column f, ones from p to t. -/
theorem run_found {G : Nat → Bool} {y : Int} {f p t : Nat} (hf : f = 0 ∨ G f = false) (hfp : f ≤ p) (hpt : p < t) (hz : ∀ x, f ≤ x → x < p → G x = false) (ho : ∀ x, p ≤ x → x < t → G x = true) : rowF G y t = rowF G y f ++ [y, (p : Int), (t : Int)] := by
  have hp : (rowS G y p).2 < 0 := by
    by_cases e : p = f
    · rcases hf with h | h
      · subst e; subst h; show (-1 : Int) < 0; decide
      · have := ho p (Nat.le_refl _) hpt
        rw [e, h] at this; cases this
    · obtain ⟨q, rfl⟩ : ∃ q, p = q + 1 := ⟨p - 1, by omega⟩
      rw [rowS_off (hz q (by omega) (by omega))]
      show (-1 : Int) < 0
      decide
  have e1 := rowS_ones (y := y) hp t hpt ho
  have e2 : rowF G y p = (rowS G y p).1 := by unfold rowF; rw [if_pos hp]
  rw [← rowF_zeros p hfp hz, e2]
  unfold rowF
  rw [e1]
  simp only
  rw [if_neg (by omega)]
/-- The pixels of a row of bits. -/
def bG (B : Nat) : Nat → Bool := fun x => decide (x < 16) && B.testBit x
theorem bG_hi {B x : Nat} (hB : B < 65536) (hx : 16 ≤ x) : B.testBit x = false := Nat.testBit_lt_two_pow (Nat.lt_of_lt_of_le hB (show 2 ^ 16 ≤ 2 ^ x from Nat.pow_le_pow_right (by omega) hx))
theorem bG_eq {B : Nat} (hB : B < 65536) (x : Nat) : bG B x = B.testBit x := by
  unfold bG
  by_cases h : x < 16
  · rw [decide_eq_true h, Bool.true_and]
  · rw [bG_hi hB (by omega), Bool.and_false]
theorem tb_div (B f j : Nat) : (B / 2 ^ f).testBit j = B.testBit (f + j) := by rw [Nat.testBit_div_two_pow, Nat.add_comm]
/-- The next run of a row of bits. -/
theorem runs_next {B f : Nat} {y : Int} (hB : B < 65536) (hf : f ≤ 16) (h0 : f = 0 ∨ B.testBit f = false) (hne : B / 2 ^ f ≠ 0) :
    f ≤ f + tz (B / 2 ^ f) ∧ f + tz (B / 2 ^ f) < 16 ∧ f + tz (B / 2 ^ f) < f + tz (B / 2 ^ f) + tz (65535 ^^^ (B / 2 ^ (f + tz (B / 2 ^ f)))) ∧ f + tz (B / 2 ^ f) + tz (65535 ^^^ (B / 2 ^ (f + tz (B / 2 ^ f)))) ≤ 16 ∧
    (f + tz (B / 2 ^ f) + tz (65535 ^^^ (B / 2 ^ (f + tz (B / 2 ^ f)))) = 0 ∨ B.testBit (f + tz (B / 2 ^ f) + tz (65535 ^^^ (B / 2 ^ (f + tz (B / 2 ^ f))))) = false) ∧
    rowF (bG B) y (f + tz (B / 2 ^ f) + tz (65535 ^^^ (B / 2 ^ (f + tz (B / 2 ^ f))))) = rowF (bG B) y f ++ [y, ((f + tz (B / 2 ^ f) : Nat) : Int), ((f + tz (B / 2 ^ f) + tz (65535 ^^^ (B / 2 ^ (f + tz (B / 2 ^ f)))) : Nat) : Int)] := by
  have hd : B / 2 ^ f < 65536 := Nat.lt_of_le_of_lt (Nat.div_le_self _ _) hB
  obtain ⟨ha, hb⟩ := tz_one hd hne
  have hz := @tz_zero (B / 2 ^ f)
  obtain ⟨p, hp⟩ : ∃ p, p = f + tz (B / 2 ^ f) := ⟨_, rfl⟩
  have hbp : B.testBit p = true := by rw [hp]; rw [tb_div] at hb; exact hb
  have hzp : ∀ x, f ≤ x → x < p → B.testBit x = false := fun x h1 h2 => by
    have := hz (j := x - f) (by omega)
    rw [tb_div] at this
    rwa [show f + (x - f) = x by omega] at this
  have hp16 : p < 16 := by
    rcases Nat.lt_or_ge p 16 with h | h
    · exact h
    · rw [bG_hi hB h] at hbp; cases hbp
  rw [← hp]
  obtain ⟨D, hD⟩ : ∃ D, D = B / 2 ^ p := ⟨_, rfl⟩
  have hDl : D < 65536 := by rw [hD]; exact Nat.lt_of_le_of_lt (Nat.div_le_self _ _) hB
  have hDb : ∀ j, D.testBit j = B.testBit (p + j) := fun j => by rw [hD, tb_div]
  obtain ⟨X, hX⟩ : ∃ X, X = 65535 ^^^ D := ⟨_, rfl⟩
  have hXl : X < 65536 := by rw [hX]; exact Nat.xor_lt_two_pow (n := 16) (by omega) (by omega)
  have hXb : ∀ j, X.testBit j = (decide (j < 16) != D.testBit j) := fun j => by
    rw [hX, Nat.testBit_xor, show (65535 : Nat) = 2 ^ 16 - 1 from rfl, Nat.testBit_two_pow_sub_one]
  rw [← hD, ← hX]
  have hzX := @tz_zero X
  have hge : 1 ≤ tz X := by
    rcases Nat.lt_or_ge (tz X) 1 with h | h
    · by_cases hX0 : X = 0
      · rw [hX0] at h; exact absurd h (by decide)
      · have := (tz_one hXl hX0).2
        rw [show tz X = 0 by omega, hXb, hDb, Nat.add_zero, hbp] at this
        simp at this
    · exact h
  have hones : ∀ x, p ≤ x → x < p + tz X → B.testBit x = true := fun x h1 h2 => by
    have := hzX (j := x - p) (by omega)
    rw [hXb, hDb, show p + (x - p) = x by omega, decide_eq_true (by have := tz_le X; omega)] at this
    revert this
    cases B.testBit x <;> simp
  have ht16 : p + tz X ≤ 16 := by
    rcases Nat.lt_or_ge 16 (p + tz X) with h | h
    · have := hones 16 (by omega) h
      rw [bG_hi hB (Nat.le_refl _)] at this; cases this
    · exact h
  have htb : B.testBit (p + tz X) = false := by
    by_cases hX0 : X = 0
    · have e : tz X = 16 := by rw [hX0]; decide
      exact bG_hi hB (by omega)
    · obtain ⟨h1, h2⟩ := tz_one hXl hX0
      rw [hXb, hDb, decide_eq_true h1] at h2
      revert h2
      cases B.testBit (p + tz X) <;> simp
  refine ⟨by omega, hp16, by omega, ht16, .inr htb, ?_⟩
  exact run_found (by rw [bG_eq hB]; exact h0) (by omega) (by omega) (fun x h1 h2 => by rw [bG_eq hB]; exact hzp x h1 h2) (fun x h1 h2 => by rw [bG_eq hB]; exact hones x h1 h2)
/-- No run is left. -/
theorem runs_last {B f : Nat} {y : Int} (hB : B < 65536) (hf : f ≤ 16) (h0 : B / 2 ^ f = 0) : rowF (bG B) y 16 = rowF (bG B) y f :=
  rowF_zeros 16 hf (fun x h1 h2 => by
    rw [bG_eq hB]
    have : (B / 2 ^ f).testBit (x - f) = false := by rw [h0, Nat.zero_testBit]
    rw [tb_div] at this
    rwa [show f + (x - f) = x by omega] at this)
/-- The table of math/bits. -/
def deBN : List Nat := [0, 1, 28, 2, 29, 14, 24, 3, 30, 22, 20, 15, 25, 17, 4, 8, 31, 27, 13, 23, 21, 19, 16, 7, 26, 12, 18, 6, 11, 5, 10, 9]
def tzI (x : Nat) : Nat := (x &&& (65536 - x)) * 125613361 % 4294967296 / 134217728
def tzOk (x : Nat) : Bool := decide (tzI x < 32) && decide (deBN.getD (tzI x) 0 = tz x)
theorem tz_tabB : ∀ a, a < 256 → ∀ b, b < 256 → (a * 256 + b == 0 || tzOk (a * 256 + b)) = true := by decide +kernel
theorem tz_tab {x : Nat} (h : x < 65536) (h0 : x ≠ 0) : tzI x < 32 ∧ deBN.getD (tzI x) 0 = tz x := by
  have := tz_tabB (x / 256) (by omega) (x % 256) (by omega)
  rw [show x / 256 * 256 + x % 256 = x by omega] at this
  have e : (x == 0) = false := beq_eq_false_iff_ne.2 h0
  rw [e, Bool.false_or] at this
  unfold tzOk at this
  rw [Bool.and_eq_true] at this
  exact ⟨of_decide_eq_true this.1, of_decide_eq_true this.2⟩
/-- A run's bits. -/
def mskB (f t : Nat) : Nat := (2 ^ t + 65536 - 2 ^ f) % 65536
def mskOkB (f t : Nat) : Bool := (List.range 16).all fun x => (mskB f t).testBit x == (decide (f ≤ x) && decide (x < t))
theorem msk_bitsB : ∀ f, f < 16 → ∀ t, t < 17 → (decide (t ≤ f) || mskOkB f t) = true := by decide +kernel
theorem msk_bits {f t x : Nat} (hf : f < t) (ht : t ≤ 16) (hx : x < 16) : (mskB f t).testBit x = (decide (f ≤ x) && decide (x < t)) := by
  have := msk_bitsB f (by omega) t (by omega)
  rw [decide_eq_false (by omega), Bool.false_or] at this
  exact beq_iff_eq.1 (List.all_eq_true.1 this x (List.mem_range.2 hx))
theorem msk_lt (f t : Nat) : mskB f t < 65536 := Nat.mod_lt _ (by omega)
end Go.Proofs.YtbjgjjhfnaiocaaDoor
