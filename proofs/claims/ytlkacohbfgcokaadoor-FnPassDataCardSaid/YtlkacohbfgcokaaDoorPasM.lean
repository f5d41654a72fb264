/- Plain mathematics of the pixels of a pass. -/
import Derived.Test.YtlkacohbfgcokaaDoorPassS
import Derived.Test.YtlkacohbfgcokaaDoorGridB
namespace Go.Proofs.YtlkacohbfgcokaaDoor
open Go.RowKit
set_option linter.unusedSimpArgs false
set_option linter.unusedVariables false

/-- How many lie on a side, as a natural number. -/
def cN (W f d : Nat) : Nat := (W + d - 1 - f) / d
theorem cN_lt {W f d i : Nat} (hf : f < d) (hW : 1 ≤ W) (h : i < cN W f d) : f + d * i < W := by
  unfold cN at h
  have h1 := (Nat.le_div_iff_mul_le (show 0 < d by omega)).1 (show i + 1 ≤ (W + d - 1 - f) / d from h)
  rw [Nat.add_mul, Nat.one_mul, Nat.mul_comm] at h1
  omega
theorem cN_ge {W f d : Nat} (hf : f < d) (hW : 1 ≤ W) : W ≤ f + d * cN W f d := by
  unfold cN
  have h1 := Nat.div_add_mod (W + d - 1 - f) d
  have h2 := Nat.mod_lt (W + d - 1 - f) (show 0 < d by omega)
  omega
theorem cN_le {W f d : Nat} (hf : f < d) (hW : 1 ≤ W) : cN W f d ≤ W := by
  rcases Nat.eq_zero_or_pos (cN W f d) with h | h
  · omega
  · have h1 := cN_lt hf hW (show cN W f d - 1 < cN W f d by omega)
    have h2 := Nat.mul_le_mul_right (cN W f d - 1) (show 1 ≤ d by omega)
    omega
theorem pcnt_nat {W f d : Nat} (hf : f < d) (hW : 1 ≤ W) : pcnt W f d = ((cN W f d : Nat) : Int) := by
  unfold pcnt cN
  rw [show (W : Int) - (f : Int) + (d : Int) - 1 = ((W + d - 1 - f : Nat) : Int) by omega]
  exact (Int.natCast_ediv _ _).symm
theorem ps_nat (p : Nat) (hp : p ≤ 6) : ∃ fx dx fy dy : Nat, psx p = fx ∧ pdx p = dx ∧ psy p = fy ∧ pdy p = dy ∧ fx < dx ∧ dx ≤ 8 ∧ fy < dy ∧ dy ≤ 8 := by
  obtain ⟨⟨a1, a2, a3⟩, b1, b2, b3⟩ := pass_bd p hp
  exact ⟨(psx p).toNat, (pdx p).toNat, (psy p).toNat, (pdy p).toNat, by omega, by omega, by omega, by omega, by omega, by omega, by omega, by omega⟩
/-- The numbers of the first k pixels of a pass. -/
def pdL (W P : Nat) (xs : List Int) (fx dx fy dy N : Nat) : Nat → List Int
  | 0 => []
  | k + 1 => pdL W P xs fx dx fy dy N k ++ pxl W P xs (fx + dx * (k % N)) (fy + dy * (k / N))
theorem pdL_len (W P : Nat) (xs : List Int) (fx dx fy dy N : Nat) : ∀ k, (pdL W P xs fx dx fy dy N k).length = k * P
  | 0 => by simp [pdL]
  | k + 1 => by unfold pdL; rw [List.length_append, pdL_len, pxl_len, Nat.succ_mul]
theorem pdL_step {W P : Nat} {xs : List Int} {fx dx fy dy N R C : Nat} (hC : C < N) : pdL W P xs fx dx fy dy N (R * N + C) ++ pxl W P xs (fx + dx * C) (fy + dy * R) = pdL W P xs fx dx fy dy N (R * N + C + 1) := by
  show _ = pdL W P xs fx dx fy dy N (R * N + C) ++ pxl W P xs (fx + dx * ((R * N + C) % N)) (fy + dy * ((R * N + C) / N))
  rw [show (R * N + C) % N = C by rw [Nat.mul_comm, Nat.mul_add_mod, Nat.mod_eq_of_lt hC], show (R * N + C) / N = R by rw [Nat.mul_comm, Nat.mul_add_div (by omega), Nat.div_eq_of_lt hC, Nat.add_zero]]
theorem pdL_bd {W P : Nat} {xs : List Int} {fx dx fy dy N k : Nat} (hk : k ≤ 256) (hP : P ≤ 4) : (pdL W P xs fx dx fy dy N k).length ≤ 1024 := by
  rw [pdL_len]; exact Nat.mul_le_mul hk hP
/-- Whether PassData has an answer, and which. -/
def pdB (W H P : Int) (xs : List Int) (p : Int) : Bool := vim W H P xs && decide (0 ≤ p ∧ p ≤ 6)
def pdV (W P : Nat) (xs : List Int) (H p : Nat) : List Int := pdL W P xs (psx p).toNat (pdx p).toNat (psy p).toNat (pdy p).toNat (cN W (psx p).toNat (pdx p).toNat) (cN W (psx p).toNat (pdx p).toNat * cN H (psy p).toNat (pdy p).toNat)
theorem pdV_eq {W P H p fx dx fy dy : Nat} {xs : List Int} (h1 : psx p = fx) (h2 : pdx p = dx) (h3 : psy p = fy) (h4 : pdy p = dy) : pdV W P xs H p = pdL W P xs fx dx fy dy (cN W fx dx) (cN W fx dx * cN H fy dy) := by
  unfold pdV; rw [h1, h2, h3, h4]; simp only [Int.toNat_natCast]
end Go.Proofs.YtlkacohbfgcokaaDoor
