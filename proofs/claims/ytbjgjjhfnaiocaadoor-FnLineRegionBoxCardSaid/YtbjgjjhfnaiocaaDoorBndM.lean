/- Mathematics of the bounds of a region. -/
import Derived.Test.YtbjgjjhfnaiocaaDoorReg2
import Derived.Test.YtbjgjjhfnaiocaaDoorReg3
namespace Go.Proofs.YtbjgjjhfnaiocaaDoor
open Go.RowKit
set_option linter.unusedSimpArgs false
set_option linter.unusedVariables false
set_option maxRecDepth 20000

def lo (xs : List Int) : Nat → Int
  | 0 => gF xs 0
  | k + 1 => min (lo xs k) (gF xs k)
def hi (xs : List Int) : Nat → Int
  | 0 => gT xs 0
  | k + 1 => max (hi xs k) (gT xs k)
theorem reg_bd {xs : List Int} {n k : Nat} (h : reg xs n) (hk : k < n) : (0 ≤ gY xs k ∧ gY xs k ≤ 15) ∧ (0 ≤ gF xs k ∧ gF xs k ≤ 15) ∧ (1 ≤ gT xs k ∧ gT xs k ≤ 16) := by
  obtain ⟨a, b, c⟩ := vrunB_bd (regAt_parts (h k hk)).1
  exact ⟨a, b, by omega, by omega⟩
theorem lohi_bd {xs : List Int} {n : Nat} (h : reg xs n) (hn : 0 < n) : ∀ k, k ≤ n → (0 ≤ lo xs k ∧ lo xs k ≤ 15) ∧ (1 ≤ hi xs k ∧ hi xs k ≤ 16)
  | 0, _ => by have := reg_bd h hn; exact ⟨this.2.1, this.2.2⟩
  | k + 1, hk => by
    have ih := lohi_bd h hn k (by omega)
    have := reg_bd h (show k < n by omega)
    unfold lo hi; omega
def bok (xs : List Int) (n : Nat) : Bool := decide (0 < n) && regB xs n
def bX (xs : List Int) (n : Nat) : Int := if bok xs n = true then lo xs n else 0
def bY (xs : List Int) (n : Nat) : Int := if bok xs n = true then gY xs 0 else 0
def bW (xs : List Int) (n : Nat) : Int := if bok xs n = true then hi xs n - lo xs n else 0
def bH (xs : List Int) (n : Nat) : Int := if bok xs n = true then gY xs (n - 1) - gY xs 0 + 1 else 0
theorem b_no {xs : List Int} {n : Nat} (h : bok xs n = false) : bX xs n = 0 ∧ bY xs n = 0 ∧ bW xs n = 0 ∧ bH xs n = 0 := by
  unfold bX bY bW bH; rw [h]; exact ⟨rfl, rfl, rfl, rfl⟩
theorem b_yes {xs : List Int} {n : Nat} (h : bok xs n = true) : bX xs n = lo xs n ∧ bY xs n = gY xs 0 ∧ bW xs n = hi xs n - lo xs n ∧ bH xs n = gY xs (n - 1) - gY xs 0 + 1 := by
  unfold bX bY bW bH; rw [h]; exact ⟨rfl, rfl, rfl, rfl⟩
abbrev boxV (a b c d : Int) : Value := .agg #[.int .i64 a, .int .i64 b, .int .i64 c, .int .i64 d]
theorem min_l {a b : Int} (h : a ≤ b) : min a b = a := by omega
theorem min_r {a b : Int} (h : ¬ a ≤ b) : min a b = b := by omega
theorem max_l {a b : Int} (h : b ≤ a) : max a b = a := by omega
theorem max_r {a b : Int} (h : ¬ b ≤ a) : max a b = b := by omega
end Go.Proofs.YtbjgjjhfnaiocaaDoor
