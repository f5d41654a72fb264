/- Contract of buildGrid over colors: whatever the function tells, the grid has it. -/
import Derived.Test.YtolifmgkkkclkaaGridA
namespace Go.Proofs.Ytolifmgkkkclkaa
open Go.RowKit Go.Shelf
set_option linter.unusedSimpArgs false
set_option linter.unusedVariables false

theorem pxl_slice {W H P : Nat} {xs : List Int} {x y : Nat} (hl : xs.length = W * H * P) (hx : x < W) (hy : y < H) : (y * W + x) * P + P ≤ xs.length := by
  rw [hl]
  have h1 : y * W + x + 1 ≤ W * H := by
    have : (y + 1) * W ≤ H * W := Nat.mul_le_mul_right W hy
    rw [Nat.add_mul, Nat.one_mul] at this
    rw [Nat.mul_comm W H]
    omega
  have h2 : (y * W + x + 1) * P ≤ W * H * P := Nat.mul_le_mul_right P h1
  rwa [Nat.add_mul, Nat.one_mul] at h2
/-- The number of a plane, 0 for planes that are not there. -/
def pxc (W P : Nat) (xs : List Int) (x y p : Nat) : Int := (pxl W P xs x y).getD p 0
theorem Rds.part {k : IntKind} {w : World} {B b off : Nat} {xs : List Int} (hb : b < B) (hc : ∀ j, j < xs.length → w.cell? ⟨b, off + j, none⟩ = some (.int k (xs.getD j 0))) {W P x y : Nat} (h : (y * W + x) * P + P ≤ xs.length) : Rds k w B (some ⟨b, off + (y * W + x) * P, none⟩) (pxl W P xs x y) := by
  refine .inr ⟨b, off + (y * W + x) * P, rfl, hb, fun j hj => ?_⟩
  rw [pxl_len] at hj
  rw [Nat.add_assoc, hc _ (by omega), pxl_get _ _ _ _ _ _ hj]
  rfl
/-- The pixels of an image. -/
theorem img_pxc {W H P : Nat} {xs : List Int} {x y p : Nat} (hp : p < P) : pxc W P xs x y p = px W P xs x y p := pxl_get _ _ _ _ _ _ hp
end Go.Proofs.Ytolifmgkkkclkaa
