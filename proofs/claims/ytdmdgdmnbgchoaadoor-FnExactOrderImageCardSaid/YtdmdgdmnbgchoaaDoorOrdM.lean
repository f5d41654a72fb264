/- Plain mathematics of ordered levels. -/
import Derived.Test.YtdmdgdmnbgchoaaDoorLevel
import Derived.Test.YtdmdgdmnbgchoaaDoorHisI
import Derived.Test.YtdmdgdmnbgchoaaDoorPix
namespace Go.Proofs.YtdmdgdmnbgchoaaDoor
open Go.RowKit
set_option linter.unusedSimpArgs false
set_option linter.unusedVariables false

/-- The number of the ordered matrix at a place. -/
def bay (x y : Nat) : Int := [0, 8, 2, 10, 12, 4, 14, 6, 3, 11, 1, 9, 15, 7, 13, 5].getD (y % 4 * 4 + x % 4) 0
theorem bay_bd (x y : Nat) : 0 ≤ bay x y ∧ bay x y ≤ 15 := by
  have h : ∀ a b : Fin 4, 0 ≤ ([0, 8, 2, 10, 12, 4, 14, 6, 3, 11, 1, 9, 15, 7, 13, 5] : List Int).getD (b.val * 4 + a.val) 0 ∧ ([0, 8, 2, 10, 12, 4, 14, 6, 3, 11, 1, 9, 15, 7, 13, 5] : List Int).getD (b.val * 4 + a.val) 0 ≤ 15 := by decide +kernel
  exact h ⟨x % 4, Nat.mod_lt _ (by omega)⟩ ⟨y % 4, Nat.mod_lt _ (by omega)⟩
/-- The level's number ahead of the division, and the value. -/
def odN (n L b : Int) : Int := 16 * n * (L - 1) + 255 * b
def odV (n L b : Int) : Int := lval (odN n L b / 4080) L
theorem od_bd {n L b : Int} (hn : 0 ≤ n ∧ n ≤ 255) (hL : 2 ≤ L ∧ L ≤ 16) (hb : 0 ≤ b ∧ b ≤ 15) : 0 ≤ 16 * n * (L - 1) ∧ 16 * n * (L - 1) ≤ 61200 ∧ 0 ≤ odN n L b ∧ odN n L b ≤ 65025 ∧ 0 ≤ odN n L b / 4080 ∧ odN n L b / 4080 ≤ L - 1 := by
  have h1 : 0 ≤ n * (L - 1) := Int.mul_nonneg hn.1 (by omega)
  have h2 : n * (L - 1) ≤ 255 * (L - 1) := Int.mul_le_mul_of_nonneg_right hn.2 (by omega)
  have e : 16 * n * (L - 1) = 16 * (n * (L - 1)) := Int.mul_assoc _ _ _
  unfold odN
  rw [e]
  generalize n * (L - 1) = k at *
  omega
theorem od_tdiv {n L b : Int} (h : 0 ≤ odN n L b) : (odN n L b).tdiv 4080 = odN n L b / 4080 := Int.tdiv_eq_ediv_of_nonneg h
theorem odV_bd {n L b : Int} (hn : 0 ≤ n ∧ n ≤ 255) (hL : 2 ≤ L ∧ L ≤ 16) (hb : 0 ≤ b ∧ b ≤ 15) : 0 ≤ odV n L b ∧ odV n L b ≤ 255 := by
  obtain ⟨_, _, _, _, h1, h2⟩ := od_bd hn hL hb
  exact lval_bd _ _ h1 h2 hL.1
/-- The ordered image, and whether there is one. -/
def odL (W H : Nat) (xs : List Int) (L : Int) : List Int := img W H 1 (fun x y _ => odV (px W 1 xs x y 0) L (bay x y))
def odB (W H P : Int) (xs : List Int) (L : Int) : Bool := vpl W H P xs && lvB L
end Go.Proofs.YtdmdgdmnbgchoaaDoor
