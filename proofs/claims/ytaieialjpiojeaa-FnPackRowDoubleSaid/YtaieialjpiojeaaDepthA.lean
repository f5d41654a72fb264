/- Contracts of the numbers of chapter 3: ReduceDepth and ExpandDepth, in the program and in the model, answer the same number. -/
import Derived.Test.YtaieialjpiojeaaProg
import Derived.WalkKit
import Derived.Test.YtaieialjpiojeaaWords
namespace Go.Proofs.Ytaieialjpiojeaa
open Go.RowKit
set_option linter.unusedSimpArgs false
set_option linter.unusedVariables false

def vd (d : Int) : Bool := decide (d = 1 ∨ d = 2 ∨ d = 4 ∨ d = 8)
def top (d : Int) : Int := if d = 1 then 1 else if d = 2 then 3 else if d = 4 then 15 else 255
def red (n d : Int) : Int := if vd d = true ∧ 0 ≤ n ∧ n ≤ 255 then (2 * n * top d + 255) / 510 else -1
def exd (n d : Int) : Int := if vd d = true ∧ 0 ≤ n ∧ n ≤ top d then 255 * n / top d else -1
theorem vd_cases (d : Int) : (d = 1 ∨ d = 2 ∨ d = 4 ∨ d = 8) ∨ vd d = false := by
  by_cases h : d = 1 ∨ d = 2 ∨ d = 4 ∨ d = 8
  · exact .inl h
  · exact .inr (by simp [vd, h])
theorem red_no (n d : Int) (h : vd d = false) : red n d = -1 := by simp [red, h]
theorem exd_no (n d : Int) (h : vd d = false) : exd n d = -1 := by simp [exd, h]

end Go.Proofs.Ytaieialjpiojeaa
