/- Plain mathematics of levels: the nearest one of a number, the smallest one of several. -/
import Derived.Test.YtlkacohbfgcokaaDoorWords
namespace Go.Proofs.YtlkacohbfgcokaaDoor
set_option linter.unusedSimpArgs false
set_option linter.unusedVariables false

def lvB (L : Int) : Bool := decide (2 ≤ L ∧ L ≤ 16)
/-- The value of a level. -/
def lval (k L : Int) : Int := 255 * k / (L - 1)
def adist (a b : Int) : Int := if a < b then b - a else a - b
/-- The nearest one of the first levels. -/
def nst (n L : Int) : Nat → Nat
  | 0 => 0
  | k + 1 => if adist (lval k L) n < adist (lval (nst n L k) L) n then k else nst n L k
def lev (n L : Int) : Int := if lvB L = true ∧ -9999 ≤ n ∧ n ≤ 9999 then nst n L L.toNat else -1
theorem lval_bd (k L : Int) (h0 : 0 ≤ k) (h1 : k ≤ L - 1) (h2 : 2 ≤ L) : 0 ≤ lval k L ∧ lval k L ≤ 255 := by
  unfold lval
  constructor
  · exact Int.ediv_nonneg (by omega) (by omega)
  · have : 255 * k / (L - 1) ≤ 255 * (L - 1) / (L - 1) := Int.ediv_le_ediv (by omega) (by omega)
    rwa [Int.mul_ediv_cancel _ (by omega)] at this
theorem adist_bd (a b : Int) (h0 : 0 ≤ a) (h1 : a ≤ 255) (h2 : -9999 ≤ b) (h3 : b ≤ 9999) : 0 ≤ adist a b ∧ adist a b ≤ 20000 := by
  unfold adist; split <;> omega
theorem nst_le (n L : Int) (k : Nat) : nst n L k ≤ k - 1 := by
  induction k with
  | zero => exact Nat.le_refl _
  | succ k ih => unfold nst; split <;> omega
theorem nst_one (n L : Int) : nst n L 1 = 0 := by simp [nst]
theorem nst_spec (n L : Int) (k : Nat) : ∀ j, j < k → adist (lval (nst n L k) L) n ≤ adist (lval j L) n ∧ (j < nst n L k → adist (lval (nst n L k) L) n < adist (lval j L) n) := by
  induction k with
  | zero => intro j hj; omega
  | succ k ih =>
    intro j hj
    have hle := nst_le n L k
    simp only [nst]
    split
    · next h =>
      by_cases e : j = k
      · subst e; exact ⟨Int.le_refl _, fun h => by omega⟩
      · have h1 := (ih j (by omega)).1
        exact ⟨by omega, fun _ => by omega⟩
    · next h =>
      by_cases e : j = k
      · subst e; exact ⟨by omega, fun h2 => by omega⟩
      · exact ih j (by omega)
theorem lval_step (k L : Int) (h2 : 2 ≤ L) (h3 : L ≤ 16) : lval k L < lval (k + 1) L := by
  unfold lval
  have h : (255 * k + (L - 1) * 1) / (L - 1) = 255 * k / (L - 1) + 1 := Int.add_mul_ediv_left _ _ (by omega)
  have h' : (255 * k + (L - 1) * 1) / (L - 1) ≤ 255 * (k + 1) / (L - 1) := Int.ediv_le_ediv (by omega) (by omega)
  omega
theorem lval_mono (L : Int) (h2 : 2 ≤ L) (h3 : L ≤ 16) (a : Nat) (d : Nat) : lval a L < lval ((a + d + 1 : Nat) : Int) L := by
  induction d with
  | zero => have := lval_step a L h2 h3; simpa using this
  | succ d ih =>
    have := lval_step ((a + d + 1 : Nat) : Int) L h2 h3
    have e : (((a + d + 1 : Nat) : Int) + 1) = ((a + (d + 1) + 1 : Nat) : Int) := by omega
    rw [e] at this
    omega
theorem lval_lt (L : Int) (h2 : 2 ≤ L) (h3 : L ≤ 16) {a b : Nat} (h : a < b) : lval a L < lval b L := by
  have := lval_mono L h2 h3 a (b - a - 1)
  rwa [show a + (b - a - 1) + 1 = b by omega] at this
/-- The value of a level is nearest to itself. -/
theorem nst_own (L : Int) (h2 : 2 ≤ L) (h3 : L ≤ 16) (k : Nat) (hk : k < L.toNat) : nst (lval k L) L L.toNat = k := by
  have hs := nst_spec (lval k L) L L.toNat k hk
  have hz : adist (lval k L) (lval k L) = 0 := by unfold adist; split <;> omega
  rw [hz] at hs
  rcases Nat.lt_trichotomy (nst (lval k L) L L.toNat) k with h | h | h
  · have := lval_lt L h2 h3 h
    have := hs.1
    unfold adist at this
    split at this <;> omega
  · exact h
  · have := hs.2 h
    have h0 : 0 ≤ adist (lval (nst (lval k L) L L.toNat) L) (lval k L) := by unfold adist; split <;> omega
    omega
/-- Greater numbers have no smaller levels. -/
theorem nst_mono (n L : Int) (h2 : 2 ≤ L) (h3 : L ≤ 16) : nst n L L.toNat ≤ nst (n + 1) L L.toNat := by
  rcases Nat.lt_or_ge (nst (n + 1) L L.toNat) (nst n L L.toNat) with h | h
  · exfalso
    have l1 := nst_le n L L.toNat
    have l2 := nst_le (n + 1) L L.toNat
    have a1 := (nst_spec n L L.toNat (nst (n + 1) L L.toNat) (by omega)).2 h
    have a2 := (nst_spec (n + 1) L L.toNat (nst n L L.toNat) (by omega)).1
    have a3 := lval_lt L h2 h3 h
    unfold adist at a1 a2
    split at a1 <;> split at a1 <;> split at a2 <;> split at a2 <;> omega
  · exact h
theorem lev_no {n L : Int} (h : lvB L = false ∨ ¬ (-9999 ≤ n ∧ n ≤ 9999)) : lev n L = -1 := by
  unfold lev
  rw [if_neg]
  rintro ⟨h1, h2⟩
  rcases h with h | h
  · rw [h1] at h; cases h
  · exact h h2
theorem lev_yes {n L : Int} (h1 : lvB L = true) (h2 : -9999 ≤ n) (h3 : n ≤ 9999) : lev n L = nst n L L.toNat := if_pos ⟨h1, h2, h3⟩
theorem lvB_bd {L : Int} (h : lvB L = true) : 2 ≤ L ∧ L ≤ 16 := of_decide_eq_true h
/-- What the law of levels says. -/
theorem lev_law (n L : Int) (h : 0 ≤ lev n L) : 2 ≤ L ∧ L ≤ 16 ∧ -9999 ≤ n ∧ n ≤ 9999 ∧ lev n L < L ∧ lev n L ≤ 15 ∧ (n < 9999 → lev n L ≤ lev (n + 1) L) ∧ lev (255 * lev n L / (L - 1)) L = lev n L := by
  by_cases hc : lvB L = true ∧ -9999 ≤ n ∧ n ≤ 9999
  · obtain ⟨hL, h0, h1⟩ := hc
    obtain ⟨h2, h3⟩ := lvB_bd hL
    have hle := nst_le n L L.toNat
    have e := lev_yes hL h0 h1
    have hb := lval_bd (nst n L L.toNat) L (by omega) (by omega) h2
    refine ⟨h2, h3, h0, h1, by rw [e]; omega, by rw [e]; omega, fun hn => ?_, ?_⟩
    · rw [e, lev_yes hL (by omega) (by omega)]
      exact Int.ofNat_le.2 (nst_mono n L h2 h3)
    · rw [e]
      show lev (lval (nst n L L.toNat) L) L = _
      rw [lev_yes hL (by omega) (by omega), nst_own L h2 h3 _ (by omega)]
  · unfold lev at h; rw [if_neg hc] at h; omega
end Go.Proofs.YtlkacohbfgcokaaDoor
