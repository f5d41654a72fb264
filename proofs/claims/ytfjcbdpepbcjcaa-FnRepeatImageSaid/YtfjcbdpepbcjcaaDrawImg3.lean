/- Contracts of the drawing of an image with numbers beside it. -/
import Derived.Test.YtfjcbdpepbcjcaaDrawImg2
import Derived.Test.YtfjcbdpepbcjcaaGridF
import Derived.Test.YtfjcbdpepbcjcaaDrawFill
namespace Go.Proofs.Ytfjcbdpepbcjcaa
open Go.RowKit
set_option linter.unusedSimpArgs false
set_option linter.unusedVariables false

/-- Drawn from a code: an image of few numbers, and a number. -/
def DrawnImK (w : World) (e : Ending) (w' : World) : Prop :=
  ∃ (W H P : Int) (A : Option Addr) (c : Nat) (xs : List Int) (k : Int), e = .returned (.tuple #[.agg #[.int .i64 W, .int .i64 H, .int .i64 P, .slice A xs.length c], .int .i64 k]) ∧ xs.length ≤ 256 ∧ xs.length ≤ c ∧ Rds .i64 w' w'.heap.size A xs ∧ Below w.heap.size w w'
/-- Drawn from a code: an image of few numbers, and a place. -/
def DrawnImXY (w : World) (e : Ending) (w' : World) : Prop :=
  ∃ (W H P : Int) (A : Option Addr) (c : Nat) (xs : List Int) (x y : Int), e = .returned (.tuple #[.agg #[.int .i64 W, .int .i64 H, .int .i64 P, .slice A xs.length c], .int .i64 x, .int .i64 y]) ∧ xs.length ≤ 256 ∧ xs.length ≤ c ∧ Rds .i64 w' w'.heap.size A xs ∧ Below w.heap.size w w'
theorem rds_sets4 {w : World} {r : Nat} {A : Option Addr} {xs : List Int} (h : Rds .i64 w w.heap.size A xs) (hA : ∀ a : Addr, A = some a → a.block ≠ r) (v0 v1 v2 v3 : Value) :
    Rds .i64 ((((w.setCell ⟨r, 0, none⟩ v0).setCell ⟨r, 1, none⟩ v1).setCell ⟨r, 2, none⟩ v2).setCell ⟨r, 3, none⟩ v3) ((((w.setCell ⟨r, 0, none⟩ v0).setCell ⟨r, 1, none⟩ v1).setCell ⟨r, 2, none⟩ v2).setCell ⟨r, 3, none⟩ v3).heap.size A xs := by
  rcases h with h | ⟨b, off, rfl, hb, hcl⟩
  · exact .inl h
  · have hne : b ≠ r := hA _ rfl
    exact (((((Rds.setOff (.inr ⟨b, off, rfl, hb, hcl⟩ : Rds .i64 w w.heap.size (some ⟨b, off, none⟩) xs) hne v0).setOff hne v1).setOff hne v2).setOff hne v3).more (by simp [World.setCell]))
theorem bel_sets4 {W w : World} {r : Nat} (h : Below W.heap.size W w) (hr : W.heap.size ≤ r) (v0 v1 v2 v3 : Value) :
    Below W.heap.size W ((((w.setCell ⟨r, 0, none⟩ v0).setCell ⟨r, 1, none⟩ v1).setCell ⟨r, 2, none⟩ v2).setCell ⟨r, 3, none⟩ v3) := (((h.setCell (p := ⟨r, 0, none⟩) hr v0).setCell (p := ⟨r, 1, none⟩) hr v1).setCell (p := ⟨r, 2, none⟩) hr v2).setCell (p := ⟨r, 3, none⟩) hr v3
end Go.Proofs.Ytfjcbdpepbcjcaa
