/- Contracts of the drawing of a pixel, and of the arguments of FillImage. -/
import Derived.Test.YtfjcbdpepbcjcaaSpoil
namespace Go.Proofs.Ytfjcbdpepbcjcaa
open Go.RowKit
set_option linter.unusedSimpArgs false
set_option linter.unusedVariables false

/-- Drawn: a short list. -/
def DrawnL (n g N : Nat) (w : World) (e : Ending) (w' : World) : Prop :=
  ∃ (A : Option Addr) (c : Nat) (ys : List Int), e = .returned (.slice A ys.length c) ∧ ys.length ≤ c ∧ ys.length ≤ n ∧ Rds .i64 w' w'.heap.size A ys ∧ Rdr w' g N ∧ w.grownBy w' (some g) ∧ ∀ b : Addr, A = some b → w.heap.size ≤ b.block
end Go.Proofs.Ytfjcbdpepbcjcaa
