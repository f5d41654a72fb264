/- Contract of ShiftRegion in the model. -/
import Derived.Test.YtoeifhflbgfcjaaDoorSftI
import Derived.Test.YtoeifhflbgfcjaaDoorReg3
namespace Go.Proofs.YtoeifhflbgfcjaaDoor
open Go.RowKit
set_option linter.unusedSimpArgs false
set_option linter.unusedVariables false
set_option maxRecDepth 100000

/-- The pixels that the first p pixels of a region are moved to. -/
def sfP (xs : List Int) (n : Nat) (x y : Int) (p j : Nat) : Bool := sftG xs n x y (j % 16) (j / 16) && decide ((((j / 16 : Nat) : Int) - y) * 16 + (((j % 16 : Nat) : Int) - x) < p)
theorem sfP_zero {xs : List Int} {n : Nat} (h : reg xs n) (x y : Int) (j : Nat) : sfP xs n x y 0 j = false := by
  unfold sfP
  cases hr : sftG xs n x y (j % 16) (j / 16)
  · rfl
  · have := rh_in h n (Nat.le_refl _) hr
    rw [Bool.true_and]
    exact decide_eq_false (by omega)
theorem sfP_all {xs : List Int} {n : Nat} (h : reg xs n) (x y : Int) (a b : Nat) (ha : a ≤ 15) : sfP xs n x y 256 (b * 16 + a) = sftG xs n x y a b := by
  unfold sfP
  rw [show (b * 16 + a) % 16 = a by omega, show (b * 16 + a) / 16 = b by omega]
  cases hr : sftG xs n x y a b
  · rfl
  · have := rh_in h n (Nat.le_refl _) hr
    rw [Bool.true_and]
    exact decide_eq_true (by omega)
/-- Pixel p is moved. -/
theorem sfP_hit {xs : List Int} {n : Nat} (h : reg xs n) {x y : Int} {m q t j0 : Nat} (hm : m ≤ 15) (hq : q ≤ 15) (hb : rh xs (m : Int) (q : Int) n = true) (hc : 0 ≤ (m : Int) + x ∧ (m : Int) + x ≤ 15) (hr : 0 ≤ (q : Int) + y ∧ (q : Int) + y ≤ 15) (hj : (j0 : Int) = ((q : Int) + y) * 16 + ((m : Int) + x)) (j : Nat) :
    (if j = j0 then true else sfP xs n x y (q * 16 + m) j) = sfP xs n x y (q * 16 + m + 1) j := by
  by_cases e : j = j0
  · rw [if_pos e]
    unfold sfP sftG
    rw [show ((j % 16 : Nat) : Int) - x = (m : Int) by omega, show ((j / 16 : Nat) : Int) - y = (q : Int) by omega, hb, Bool.true_and]
    exact (decide_eq_true (by omega)).symm
  · rw [if_neg e]
    unfold sfP
    cases hs : sftG xs n x y (j % 16) (j / 16)
    · rfl
    · have := rh_in h n (Nat.le_refl _) hs
      rw [Bool.true_and, Bool.true_and]
      exact decide_eq_decide.2 (by omega)
/-- Pixel p is not moved. -/
theorem sfP_miss {xs : List Int} {n : Nat} (h : reg xs n) {x y : Int} {m q : Nat} (hm : m ≤ 15) (hq : q ≤ 15) (hb : rh xs (m : Int) (q : Int) n = false ∨ ¬ (0 ≤ (m : Int) + x ∧ (m : Int) + x ≤ 15) ∨ ¬ (0 ≤ (q : Int) + y ∧ (q : Int) + y ≤ 15)) (j : Nat) (hj : j < 256) :
    sfP xs n x y (q * 16 + m) j = sfP xs n x y (q * 16 + m + 1) j := by
  unfold sfP
  cases hs : sftG xs n x y (j % 16) (j / 16)
  · rfl
  · have hi := rh_in h n (Nat.le_refl _) hs
    rw [Bool.true_and, Bool.true_and]
    refine decide_eq_decide.2 ?_
    by_cases e : (((j / 16 : Nat) : Int) - y) * 16 + (((j % 16 : Nat) : Int) - x) = ((q * 16 + m : Nat) : Int)
    · exfalso
      have e1 : ((j % 16 : Nat) : Int) - x = (m : Int) := by omega
      have e2 : ((j / 16 : Nat) : Int) - y = (q : Int) := by omega
      rcases hb with hb | hb | hb
      · unfold sftG at hs
        rw [e1, e2, hb] at hs
        cases hs
      · exact hb (by omega)
      · exact hb (by omega)
    · omega
end Go.Proofs.YtoeifhflbgfcjaaDoor
