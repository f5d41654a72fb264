/- Plain mathematics of blending: what a mode makes of two numbers, and what a number covered by another one is. -/
import Derived.Test.YtakloadpmpffdaaWords
namespace Go.Proofs.Ytakloadpmpffdaa
set_option linter.unusedSimpArgs false
set_option linter.unusedVariables false

/-- What mode m makes of the lower number a and the upper number b. -/
def mixv (m a b : Int) : Int :=
  if m = 1 then (2 * (a * b) + 255) / 510 else if m = 2 then 255 - (2 * ((255 - a) * (255 - b)) + 255) / 510
  else if m = 3 then min a b else if m = 4 then max a b else b
def byt (n : Int) : Bool := decide (0 ≤ n ∧ n ≤ 255)
def blO (m a b al : Int) : Bool := decide (0 ≤ m ∧ m ≤ 4) && (byt a && (byt b && byt al))
def blv (m a b al : Int) : Int := (2 * (al * mixv m a b + (255 - al) * a) + 255) / 510
def bln (m a b al : Int) : Int := if blO m a b al = true then blv m a b al else -1
theorem byt_bd {n : Int} (h : byt n = true) : 0 ≤ n ∧ n ≤ 255 := of_decide_eq_true h
theorem byt_of {n : Int} (h0 : 0 ≤ n) (h1 : n ≤ 255) : byt n = true := decide_eq_true ⟨h0, h1⟩
theorem mul_bd {a b : Int} (a0 : 0 ≤ a) (a1 : a ≤ 255) (b0 : 0 ≤ b) (b1 : b ≤ 255) : 0 ≤ a * b ∧ a * b ≤ 255 * a ∧ a * b ≤ 255 * b ∧ a * b ≤ 65025 := by
  have h1 : 0 ≤ a * b := Int.mul_nonneg a0 b0
  have h2 : a * b ≤ a * 255 := Int.mul_le_mul_of_nonneg_left b1 a0
  have h3 : a * b ≤ 255 * b := Int.mul_le_mul_of_nonneg_right a1 b0
  omega
theorem mix_1 (a b : Int) : mixv 1 a b = (2 * (a * b) + 255) / 510 := by simp [mixv]
theorem mix_2 (a b : Int) : mixv 2 a b = 255 - (2 * ((255 - a) * (255 - b)) + 255) / 510 := by simp [mixv]
theorem mix_3 (a b : Int) : mixv 3 a b = min a b := by simp [mixv]
theorem mix_4 (a b : Int) : mixv 4 a b = max a b := by simp [mixv]
theorem mix_0 (a b : Int) : mixv 0 a b = b := by simp [mixv]
theorem mix_bd {a b : Int} (m : Int) (a0 : 0 ≤ a) (a1 : a ≤ 255) (b0 : 0 ≤ b) (b1 : b ≤ 255) : 0 ≤ mixv m a b ∧ mixv m a b ≤ 255 := by
  have h1 := mul_bd a0 a1 b0 b1
  have h2 := mul_bd (a := 255 - a) (b := 255 - b) (by omega) (by omega) (by omega) (by omega)
  unfold mixv
  generalize a * b = p at *
  generalize (255 - a) * (255 - b) = q at *
  repeat' split
  all_goals omega
theorem cover_bd {M a al : Int} (M0 : 0 ≤ M) (M1 : M ≤ 255) (a0 : 0 ≤ a) (a1 : a ≤ 255) (l0 : 0 ≤ al) (l1 : al ≤ 255) :
    (0 ≤ al * M ∧ al * M ≤ 65025) ∧ (0 ≤ (255 - al) * a ∧ (255 - al) * a ≤ 65025) :=
  ⟨⟨(mul_bd l0 l1 M0 M1).1, (mul_bd l0 l1 M0 M1).2.2.2⟩, ⟨(mul_bd (a := 255 - al) (by omega) (by omega) a0 a1).1, (mul_bd (a := 255 - al) (by omega) (by omega) a0 a1).2.2.2⟩⟩
theorem blv_full {m a b : Int} (a0 : 0 ≤ a) (a1 : a ≤ 255) (b0 : 0 ≤ b) (b1 : b ≤ 255) : blv m a b 255 = mixv m a b := by
  have := mix_bd m a0 a1 b0 b1
  unfold blv; omega
theorem blv_none {m a b : Int} : blv m a b 0 = a := by unfold blv; omega
/-- The number lies between the lower one and the mixed one, the nearer the more alpha there is. -/
theorem blv_between {m a b al : Int} (a0 : 0 ≤ a) (a1 : a ≤ 255) (b0 : 0 ≤ b) (b1 : b ≤ 255) (l0 : 0 ≤ al) (l1 : al ≤ 255) :
    (a ≤ mixv m a b ∧ a ≤ blv m a b al ∧ blv m a b al ≤ mixv m a b) ∨ (mixv m a b ≤ a ∧ mixv m a b ≤ blv m a b al ∧ blv m a b al ≤ a) := by
  have hM := mix_bd m a0 a1 b0 b1
  unfold blv
  generalize mixv m a b = M at *
  have e : al * M + (255 - al) * a = 255 * a + al * (M - a) := by rw [Int.mul_sub, Int.sub_mul]; omega
  rw [e]
  by_cases h : a ≤ M
  · have hp := mul_bd (a := al) (b := M - a) l0 l1 (by omega) (by omega)
    generalize al * (M - a) = p at *
    left; omega
  · have hp := mul_bd (a := al) (b := a - M) l0 l1 (by omega) (by omega)
    rw [show al * (M - a) = - (al * (a - M)) by rw [← Int.mul_neg]; congr 1; omega]
    generalize al * (a - M) = p at *
    right; omega
theorem blv_more {m a b al : Int} (a0 : 0 ≤ a) (a1 : a ≤ 255) (b0 : 0 ≤ b) (b1 : b ≤ 255) (l0 : 0 ≤ al) (l1 : al < 255) :
    (blv m a b al ≤ blv m a b (al + 1) ∧ blv m a b (al + 1) ≤ mixv m a b) ∨ (blv m a b (al + 1) ≤ blv m a b al ∧ mixv m a b ≤ blv m a b (al + 1)) := by
  have hM := mix_bd m a0 a1 b0 b1
  unfold blv
  generalize mixv m a b = M at *
  have e : al * M + (255 - al) * a = 255 * a + al * (M - a) := by rw [Int.mul_sub, Int.sub_mul]; omega
  have e2 : (al + 1) * M + (255 - (al + 1)) * a = 255 * a + (al * (M - a) + (M - a)) := by
    rw [Int.mul_sub, Int.sub_mul, Int.add_mul, Int.add_mul]; omega
  rw [e, e2]
  by_cases h : a ≤ M
  · have hp := mul_bd (a := al + 1) (b := M - a) (by omega) (by omega) (by omega) (by omega)
    rw [Int.add_mul] at hp
    generalize al * (M - a) = p at *
    left; omega
  · have hp := mul_bd (a := al + 1) (b := a - M) (by omega) (by omega) (by omega) (by omega)
    rw [Int.add_mul] at hp
    rw [show al * (M - a) = - (al * (a - M)) by rw [← Int.mul_neg]; congr 1; omega]
    generalize al * (a - M) = p at *
    right; omega
theorem mix_low {a b : Int} (a0 : 0 ≤ a) (a1 : a ≤ 255) (b0 : 0 ≤ b) (b1 : b ≤ 255) : mixv 1 a b ≤ min a b := by
  have := mul_bd a0 a1 b0 b1
  rw [mix_1]
  generalize a * b = p at *
  omega
theorem mix_high {a b : Int} (a0 : 0 ≤ a) (a1 : a ≤ 255) (b0 : 0 ≤ b) (b1 : b ≤ 255) : max a b ≤ mixv 2 a b := by
  have := mul_bd (a := 255 - a) (b := 255 - b) (by omega) (by omega) (by omega) (by omega)
  rw [mix_2]
  generalize (255 - a) * (255 - b) = p at *
  omega
theorem mix_comm1 (a b : Int) : mixv 1 a b = mixv 1 b a := by rw [mix_1, mix_1, Int.mul_comm a b]
theorem mix_comm2 (a b : Int) : mixv 2 a b = mixv 2 b a := by rw [mix_2, mix_2, Int.mul_comm (255 - a)]
theorem mix_inv (a b : Int) : mixv 2 a b = 255 - mixv 1 (255 - a) (255 - b) := by rw [mix_2, mix_1]
theorem bln_yes {m a b al : Int} (h : blO m a b al = true) : bln m a b al = blv m a b al := if_pos h
theorem bln_no {m a b al : Int} (h : blO m a b al = false) : bln m a b al = -1 := if_neg (by rw [h]; simp)
theorem blO_parts {m a b al : Int} (h : blO m a b al = true) : (0 ≤ m ∧ m ≤ 4) ∧ (0 ≤ a ∧ a ≤ 255) ∧ (0 ≤ b ∧ b ≤ 255) ∧ (0 ≤ al ∧ al ≤ 255) := by
  simp only [blO, byt, Bool.and_eq_true, decide_eq_true_eq] at h
  exact h
theorem blO_of {m a b al : Int} (h0 : 0 ≤ m) (h1 : m ≤ 4) (a0 : 0 ≤ a) (a1 : a ≤ 255) (b0 : 0 ≤ b) (b1 : b ≤ 255) (l0 : 0 ≤ al) (l1 : al ≤ 255) : blO m a b al = true := by
  simp only [blO, byt, Bool.and_eq_true, decide_eq_true_eq]
  exact ⟨⟨h0, h1⟩, ⟨a0, a1⟩, ⟨b0, b1⟩, ⟨l0, l1⟩⟩
theorem bln_full {m a b : Int} (h0 : 0 ≤ m) (h1 : m ≤ 4) (a0 : 0 ≤ a) (a1 : a ≤ 255) (b0 : 0 ≤ b) (b1 : b ≤ 255) : bln m a b 255 = mixv m a b := by
  rw [bln_yes (blO_of h0 h1 a0 a1 b0 b1 (by omega) (by omega)), blv_full a0 a1 b0 b1]
theorem bln_neg {m a b al : Int} (h : ¬ bln m a b al < 0) : blO m a b al = true := by
  cases hb : blO m a b al
  · rw [bln_no hb] at h; omega
  · rfl
end Go.Proofs.Ytakloadpmpffdaa
