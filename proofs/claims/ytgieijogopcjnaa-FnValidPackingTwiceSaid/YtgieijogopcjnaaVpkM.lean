/- Mathematics of packings: boxes that lie in an atlas, with no common pixel. -/
import Derived.Test.YtgieijogopcjnaaFitB
namespace Go.Proofs.Ytgieijogopcjnaa
set_option linter.unusedSimpArgs false
set_option linter.unusedVariables false

/-- Whether two boxes have a common pixel. -/
def comB (a0 a1 a2 a3 b0 b1 b2 b3 : Int) : Bool := decide (a0 < b0 + b2) && (decide (b0 < a0 + a2) && (decide (a1 < b1 + b3) && decide (b1 < a1 + a3)))
def q0 (xs : List Int) (k : Nat) : Int := xs.getD (k * 4) 0
def q1 (xs : List Int) (k : Nat) : Int := xs.getD (k * 4 + 1) 0
def q2 (xs : List Int) (k : Nat) : Int := xs.getD (k * 4 + 2) 0
def q3 (xs : List Int) (k : Nat) : Int := xs.getD (k * 4 + 3) 0
/-- Whether one of the first j boxes has a common pixel with box k. -/
def hitB (xs : List Int) (k : Nat) : Nat → Bool
  | 0 => false
  | j + 1 => hitB xs k j || comB (q0 xs k) (q1 xs k) (q2 xs k) (q3 xs k) (q0 xs j) (q1 xs j) (q2 xs j) (q3 xs j)
def okK (W H : Int) (xs : List Int) (k : Nat) : Bool := ftB (q0 xs k) (q1 xs k) (q2 xs k) (q3 xs k) W H && !hitB xs k k
def okKs (W H : Int) (xs : List Int) : Nat → Bool
  | 0 => true
  | k + 1 => okKs W H xs k && okK W H xs k
def vpk (W H : Int) (n : Nat) (xs : List Int) : Bool := decide (1 ≤ W ∧ W ≤ 64) && (decide (0 ≤ H ∧ H ≤ 192) && (decide ((n : Int) ≤ 12) && okKs W H xs n))
theorem okKs_no {W H : Int} {xs : List Int} {k n : Nat} (h : okK W H xs k = false) (hk : k < n) : okKs W H xs n = false := by
  induction n with
  | zero => omega
  | succ n ih =>
    unfold okKs
    by_cases e : k = n
    · subst e; rw [h, Bool.and_false]
    · rw [ih (by omega), Bool.false_and]
theorem okKs_get {W H : Int} {xs : List Int} {n : Nat} (h : okKs W H xs n = true) : ∀ k, k < n → okK W H xs k = true := by
  induction n with
  | zero => intro k hk; omega
  | succ n ih =>
    unfold okKs at h
    rw [Bool.and_eq_true] at h
    intro k hk
    by_cases e : k = n
    · subst e; exact h.2
    · exact ih h.1 k (by omega)
theorem vpk_no {W H : Int} {n : Nat} {xs : List Int} (h : okKs W H xs n = false) : vpk W H n xs = false := by unfold vpk; rw [h]; simp
theorem ftB_bd' {bx by_ bw bh W H : Int} (h : ftB bx by_ bw bh W H = true) : (0 ≤ bx ∧ bx ≤ W - 1) ∧ (1 ≤ bw ∧ bw ≤ W - bx) ∧ (0 ≤ by_ ∧ by_ ≤ H - 1) ∧ 1 ≤ bh ∧ bh ≤ H - by_ := by
  unfold ftB at h
  simp only [Bool.and_eq_true] at h
  exact ⟨of_decide_eq_true h.1, of_decide_eq_true h.2.1, of_decide_eq_true h.2.2.1, of_decide_eq_true h.2.2.2⟩
theorem okK_ft {W H : Int} {xs : List Int} {k : Nat} (h : okK W H xs k = true) : ftB (q0 xs k) (q1 xs k) (q2 xs k) (q3 xs k) W H = true := by unfold okK at h; rw [Bool.and_eq_true] at h; exact h.1
theorem hit_yes {xs : List Int} {k j m : Nat} (hj : j < m) (h : comB (q0 xs k) (q1 xs k) (q2 xs k) (q3 xs k) (q0 xs j) (q1 xs j) (q2 xs j) (q3 xs j) = true) : hitB xs k m = true := by
  induction m with
  | zero => omega
  | succ m ih =>
    unfold hitB
    by_cases e : j = m
    · subst e; rw [h, Bool.or_true]
    · rw [ih (by omega), Bool.true_or]
theorem hit_next {xs : List Int} {k j : Nat} (h0 : hitB xs k j = false) (h : comB (q0 xs k) (q1 xs k) (q2 xs k) (q3 xs k) (q0 xs j) (q1 xs j) (q2 xs j) (q3 xs j) = false) : hitB xs k (j + 1) = false := by unfold hitB; rw [h0, h]; rfl
theorem quad4 {k n : Nat} (h : k < n) {m : Nat} (hm : m = 4 * n) : k * 4 < m ∧ k * 4 + 1 < m ∧ k * 4 + 2 < m ∧ k * 4 + 3 < m := by omega
/-- The model's order of tests. -/
def fsB (bx by_ bw bh W H : Int) : Bool := decide (1 ≤ bw ∧ bw ≤ W) && (decide (1 ≤ bh ∧ bh ≤ H) && (decide (0 ≤ bx ∧ bx ≤ W - bw) && decide (0 ≤ by_ ∧ by_ ≤ H - bh)))
theorem fs_ft (bx by_ bw bh W H : Int) : fsB bx by_ bw bh W H = ftB bx by_ bw bh W H := by
  rw [Bool.eq_iff_iff]
  unfold fsB ftB
  simp only [Bool.and_eq_true, decide_eq_true_eq]
  omega
end Go.Proofs.Ytgieijogopcjnaa
