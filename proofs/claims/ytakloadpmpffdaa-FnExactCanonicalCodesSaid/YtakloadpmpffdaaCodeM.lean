/- Plain mathematics of canonical codes. -/
import Derived.Test.YtakloadpmpffdaaLists
namespace Go.Proofs.Ytakloadpmpffdaa
set_option linter.unusedSimpArgs false
set_option linter.unusedVariables false

/-- What a length takes of the room. -/
def kt (l : Int) : Int :=
  if l = 1 then 32768 else if l = 2 then 16384 else if l = 3 then 8192 else if l = 4 then 4096 else if l = 5 then 2048 else if l = 6 then 1024 else if l = 7 then 512 else if l = 8 then 256
  else if l = 9 then 128 else if l = 10 then 64 else if l = 11 then 32 else if l = 12 then 16 else if l = 13 then 8 else if l = 14 then 4 else if l = 15 then 2 else if l = 16 then 1 else 0
theorem kt_bd (l : Int) : 0 ≤ kt l ∧ kt l ≤ 32768 := by unfold kt; constructor <;> (repeat' split) <;> omega
def kr (xs : List Int) : Nat → Int
  | 0 => 0
  | k + 1 => kr xs k + kt (xs.getD k 0)
theorem kr_bd (xs : List Int) : ∀ k : Nat, 0 ≤ kr xs k ∧ kr xs k ≤ 32768 * k
  | 0 => by simp [kr]
  | k + 1 => by
    have := kr_bd xs k
    have := kt_bd (xs.getD k 0)
    unfold kr; omega
def vsB (xs : List Int) (top : Int) : Bool := decide (1 ≤ xs.length ∧ xs.length ≤ 16) && allB 0 top xs
def cvB (xs : List Int) : Bool := vsB xs 16 && decide (kr xs xs.length ≤ 65536)
/-- The codes of one length n: from code c on, into o. -/
def inr (xs : List Int) (n c : Int) (o : List Int) : Nat → Int × List Int
  | 0 => (c, o)
  | i + 1 => if xs.getD i 0 = n then ((inr xs n c o i).1 + 1, (inr xs n c o i).2.set i (inr xs n c o i).1) else inr xs n c o i
def outr (xs : List Int) : Nat → Int × List Int
  | 0 => (0, zeros xs.length)
  | n + 1 => inr xs ((n : Int) + 1) (2 * (outr xs n).1) (outr xs n).2 xs.length
def codes (xs : List Int) : List Int := if cvB xs = true then (outr xs 16).2 else []
theorem inr_len (xs : List Int) (n c : Int) (o : List Int) : ∀ i, (inr xs n c o i).2.length = o.length
  | 0 => rfl
  | i + 1 => by
    have := inr_len xs n c o i
    unfold inr; split
    · simp [this]
    · exact this
theorem outr_len (xs : List Int) : ∀ n, (outr xs n).2.length = xs.length
  | 0 => by simp [outr, zeros]
  | n + 1 => by unfold outr; rw [inr_len, outr_len xs n]
theorem inr_bd (xs : List Int) (n c : Int) (o : List Int) : ∀ i : Nat, c ≤ (inr xs n c o i).1 ∧ (inr xs n c o i).1 ≤ c + i
  | 0 => by simp [inr]
  | i + 1 => by
    have := inr_bd xs n c o i
    unfold inr; split <;> simp <;> omega
theorem outr_bd (xs : List Int) (h : xs.length ≤ 16) : ∀ n : Nat, 0 ≤ (outr xs n).1 ∧ (outr xs n).1 + 16 ≤ 16 * 2 ^ n
  | 0 => by simp [outr]
  | n + 1 => by
    have h1 := outr_bd xs h n
    have h2 := inr_bd xs ((n : Int) + 1) (2 * (outr xs n).1) (outr xs n).2 xs.length
    have e : (2 : Int) ^ (n + 1) = 2 * 2 ^ n := by rw [Int.pow_succ]; omega
    unfold outr
    rw [e]
    omega
theorem outr_top (xs : List Int) (h : xs.length ≤ 16) (n : Nat) (hn : n ≤ 16) : 0 ≤ (outr xs n).1 ∧ (outr xs n).1 ≤ 1048576 := by
  have h1 := outr_bd xs h n
  have h2 : (2 : Int) ^ n ≤ 65536 := by
    have : 2 ^ n ≤ 2 ^ 16 := Nat.pow_le_pow_right (by decide) hn
    have h3 : ((2 ^ n : Nat) : Int) ≤ ((2 ^ 16 : Nat) : Int) := Int.ofNat_le.2 this
    simpa using h3
  omega
theorem codes_len (xs : List Int) : (codes xs).length ≤ 16 := by
  unfold codes; split
  · next h =>
    rw [outr_len]
    simp only [cvB, vsB, Bool.and_eq_true, decide_eq_true_eq] at h
    exact h.1.1.2
  · simp
theorem inr_hit {xs : List Int} {n c : Int} {o : List Int} {i : Nat} (h : xs.getD i 0 = n) : inr xs n c o (i + 1) = ((inr xs n c o i).1 + 1, (inr xs n c o i).2.set i (inr xs n c o i).1) := if_pos h
theorem inr_miss {xs : List Int} {n c : Int} {o : List Int} {i : Nat} (h : ¬ xs.getD i 0 = n) : inr xs n c o (i + 1) = inr xs n c o i := if_neg h
end Go.Proofs.Ytakloadpmpffdaa
