/- Contract of the drawing of an image for GrayImage. -/
import Derived.Test.YtkjebidkkopalaaDrawImg2
namespace Go.Proofs.Ytkjebidkkopalaa
open Go.RowKit
set_option linter.unusedSimpArgs false
set_option linter.unusedVariables false

theorem drawn_fin {w u3 : World} {W H P : Int} {A : Option Addr} {c : Nat} {ys : List Int} (hy : ys.length ≤ 256) (hyc : ys.length ≤ c) (hr3 : Rds .i64 u3 u3.heap.size A ys) (hA3 : ∀ a : Addr, A = some a → w.heap.size < a.block) (hB3 : Below w.heap.size w u3) (v0 v1 v2 v3 : Value) :
    DrawnIm w (.returned (.agg #[.int .i64 W, .int .i64 H, .int .i64 P, .slice A ys.length c])) ((((u3.setCell ⟨w.heap.size, 0, none⟩ v0).setCell ⟨w.heap.size, 1, none⟩ v1).setCell ⟨w.heap.size, 2, none⟩ v2).setCell ⟨w.heap.size, 3, none⟩ v3) := by
  refine ⟨W, H, P, A, c, ys, rfl, hy, hyc, ?_, (((hB3.setCell (Nat.le_refl _) v0).setCell (Nat.le_refl _) v1).setCell (Nat.le_refl _) v2).setCell (Nat.le_refl _) v3⟩
  rcases hr3 with h | ⟨b, off, rfl, hb, hcl⟩
  · exact .inl h
  · have hne : b ≠ w.heap.size := by have : w.heap.size < b := hA3 _ rfl; omega
    exact (((((Rds.setOff (.inr ⟨b, off, rfl, hb, hcl⟩ : Rds .i64 u3 u3.heap.size (some ⟨b, off, none⟩) ys) hne v0).setOff hne v1).setOff hne v2).setOff hne v3).more (by simp [World.setCell]))
end Go.Proofs.Ytkjebidkkopalaa
