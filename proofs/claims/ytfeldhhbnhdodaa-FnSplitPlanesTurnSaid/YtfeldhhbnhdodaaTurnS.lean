/- Contracts of turns in the model. -/
import Derived.Test.YtfeldhhbnhdodaaSpecM
import Derived.Test.YtfeldhhbnhdodaaTurnM
namespace Go.Proofs.Ytfeldhhbnhdodaa
open Go.RowKit
set_option linter.unusedSimpArgs false
set_option linter.unusedVariables false

theorem bx_put4 {w : World} {b : Nat} {T : TypeId} {a0 a1 a2 a3 : Value} (h : Bx w b T #[a0, a1, a2, a3]) (c0 c1 c2 c3 : Value) : Bx ((((w.setCell ⟨b, 0, none⟩ c0).setCell ⟨b, 1, none⟩ c1).setCell ⟨b, 2, none⟩ c2).setCell ⟨b, 3, none⟩ c3) b T #[c0, c1, c2, c3] := by
  have h1 := heap_setCell_same w b 0 _ T c0 h
  have h2 := heap_setCell_same _ b 1 _ T c1 h1
  have h3 := heap_setCell_same _ b 2 _ T c2 h2
  have h4 := heap_setCell_same _ b 3 _ T c3 h3
  simpa [Bx] using h4
theorem bx_put3 {w : World} {b : Nat} {T : TypeId} {a0 a1 a2 : Value} (h : Bx w b T #[a0, a1, a2]) (c0 c1 c2 : Value) : Bx (((w.setCell ⟨b, 0, none⟩ c0).setCell ⟨b, 1, none⟩ c1).setCell ⟨b, 2, none⟩ c2) b T #[c0, c1, c2] := by
  have h1 := heap_setCell_same w b 0 _ T c0 h
  have h2 := heap_setCell_same _ b 1 _ T c1 h1
  have h3 := heap_setCell_same _ b 2 _ T c2 h2
  simpa [Bx] using h3
theorem bx_sets4 {w : World} {b r : Nat} {T : TypeId} {cs : Array Value} (h : Bx w b T cs) (hne : b ≠ r) (c0 c1 c2 c3 : Value) : Bx ((((w.setCell ⟨r, 0, none⟩ c0).setCell ⟨r, 1, none⟩ c1).setCell ⟨r, 2, none⟩ c2).setCell ⟨r, 3, none⟩ c3) b T cs :=
  (Below.heap_setCell _ ⟨r, 3, none⟩ c3 b hne).trans ((Below.heap_setCell _ ⟨r, 2, none⟩ c2 b hne).trans ((Below.heap_setCell _ ⟨r, 1, none⟩ c1 b hne).trans ((Below.heap_setCell w ⟨r, 0, none⟩ c0 b hne).trans h)))
theorem bx_sets3 {w : World} {b r : Nat} {T : TypeId} {cs : Array Value} (h : Bx w b T cs) (hne : b ≠ r) (c0 c1 c2 : Value) : Bx (((w.setCell ⟨r, 0, none⟩ c0).setCell ⟨r, 1, none⟩ c1).setCell ⟨r, 2, none⟩ c2) b T cs :=
  (Below.heap_setCell _ ⟨r, 2, none⟩ c2 b hne).trans ((Below.heap_setCell _ ⟨r, 1, none⟩ c1 b hne).trans ((Below.heap_setCell w ⟨r, 0, none⟩ c0 b hne).trans h))
end Go.Proofs.Ytfeldhhbnhdodaa
