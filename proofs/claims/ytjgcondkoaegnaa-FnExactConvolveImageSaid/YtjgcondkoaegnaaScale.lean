/- Contracts of ScaleNearest, in the model and in the program. -/
import Derived.Test.YtjgcondkoaegnaaGenP
import Derived.Test.YtjgcondkoaegnaaGridF
import Derived.Test.YtjgcondkoaegnaaSpecP
import Derived.Test.YtjgcondkoaegnaaSpecM
import Derived.Deep.RegionHeld3
namespace Go.Proofs.Ytjgcondkoaegnaa
open Go.RowKit Go.Shelf
set_option linter.unusedSimpArgs false
set_option linter.unusedVariables false
set_option maxRecDepth 20000

def scOk (W H P : Int) (xs : List Int) (w h : Int) : Bool := vim W H P xs && vsh w h P
/-- The numbers of a scaled image. -/
def scaL (W H P : Nat) (xs : List Int) (w h : Nat) : List Int := img w h P (fun x y => pxc W P xs (x * W / w) (y * H / h))
theorem vsh_nat {W H P : Int} (h : vsh W H P = true) : ∃ w h p : Nat, W = w ∧ H = h ∧ P = p ∧ (1 ≤ w ∧ w ≤ 16) ∧ (1 ≤ h ∧ h ≤ 16) ∧ 1 ≤ p ∧ p ≤ 4 := by
  obtain ⟨h1, h2, h3, _⟩ := vsh_bd h
  exact ⟨W.toNat, H.toNat, P.toNat, by omega, by omega, by omega, by omega, by omega, by omega⟩
theorem sc_lt {x W w : Nat} (hx : x < w) (hW : 1 ≤ W) : x * W / w < W := by
  rw [Nat.div_lt_iff_lt_mul (by omega)]
  rw [Nat.mul_comm W w]
  exact Nat.mul_lt_mul_of_pos_right hx (by omega)
theorem sc_bd {x W : Nat} (hx : x ≤ 16) (hW : W ≤ 16) : x * W ≤ 256 := by have := Nat.mul_le_mul hx hW; omega
end Go.Proofs.Ytjgcondkoaegnaa
