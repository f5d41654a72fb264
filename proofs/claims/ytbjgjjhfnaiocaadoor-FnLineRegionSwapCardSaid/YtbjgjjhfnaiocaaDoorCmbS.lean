/- Contract of CombineRegions in the model. -/
import Derived.Test.YtbjgjjhfnaiocaaDoorDsc
import Derived.Test.YtbjgjjhfnaiocaaDoorRnM
namespace Go.Proofs.YtbjgjjhfnaiocaaDoor
open Go.RowKit
set_option linter.unusedSimpArgs false
set_option linter.unusedVariables false
set_option maxRecDepth 20000

/-- The rule of a kind. -/
def krule (k : Int) (a b : Bool) : Bool := if k = 0 then a || b else if k = 1 then a && b else if k = 2 then a && !b else a != b
theorem krule_ff (k : Int) : krule k false false = false := by unfold krule; simp
/-- The pixels of a combined region. -/
def cmbG (k : Int) (xs : List Int) (n : Nat) (ys : List Int) (m : Nat) (x y : Nat) : Bool := krule k (rh xs x y n) (rh ys x y m)
def cmbOk (k : Int) (xs : List Int) (n : Nat) (ys : List Int) (m : Nat) : Bool := regB xs n && (regB ys m && decide (0 ≤ k ∧ k ≤ 3))
def RunsIfB (ok : Bool) (G : Nat → Nat → Bool) (w : World) (e : Ending) (w' : World) : Prop :=
  ∃ v, e = .returned (.tuple #[v, .bool ok]) ∧ OwnT 35 3 w' w.heap.size v (cond ok (rnN G) 0) (cond ok (rnL G) []) ∧ Below w.heap.size w w'
theorem RunsIfB.no {ok : Bool} {G : Nat → Nat → Bool} {w w' : World} (h : ok = false) (hb : Below w.heap.size w w') : RunsIfB ok G w (.returned (.tuple #[.slice none 0 0, .bool false])) w' := by
  subst h; exact ⟨_, rfl, OwnT.nil _ _ _ _, hb⟩
theorem RunsIfB.yes {ok : Bool} {G : Nat → Nat → Bool} {w u w' : World} {v : Value} (h : ok = true) (hb : Below w.heap.size w u) (hr : OwnT 35 3 w' u.heap.size v (rnN G) (rnL G)) (hb2 : Below u.heap.size u w') : RunsIfB ok G w (.returned (.tuple #[v, .bool true])) w' := by
  subst h
  exact ⟨v, rfl, hr.base_le hb.size, hb.trans (hb2.mono hb.size)⟩
end Go.Proofs.YtbjgjjhfnaiocaaDoor
