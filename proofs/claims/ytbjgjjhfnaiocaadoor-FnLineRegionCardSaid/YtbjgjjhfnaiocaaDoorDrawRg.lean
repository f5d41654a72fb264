/- Contracts of the drawing of arguments that are regions. -/
import Derived.Test.YtbjgjjhfnaiocaaDoorDrawReg
namespace Go.Proofs.YtbjgjjhfnaiocaaDoor
open Go.RowKit
set_option linter.unusedSimpArgs false
set_option linter.unusedVariables false
set_option maxRecDepth 20000

/-- Drawn: a list of runs. -/
def DrawnL (w : World) (e : Ending) (w' : World) : Prop :=
  ∃ v n xs, e = .returned v ∧ n ≤ 300 ∧ OwnT 35 3 w' w.heap.size v n xs ∧ Below w.heap.size w w'
end Go.Proofs.YtbjgjjhfnaiocaaDoor
