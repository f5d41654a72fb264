/- Plain mathematics of quarters of a turn. -/
import Derived.Test.YtfeldhhbnhdodaaGridE
namespace Go.Proofs.Ytfeldhhbnhdodaa
set_option linter.unusedSimpArgs false
set_option linter.unusedVariables false

/-- Width and height behind k quarters. -/
def tdim (W H : Nat) : Nat → Nat × Nat
  | 0 => (W, H)
  | k + 1 => ((tdim W H k).2, (tdim W H k).1)
/-- The cells behind k quarters. -/
def tfun (W H : Nat) (F : Nat → Nat → Nat → Int) : Nat → Nat → Nat → Nat → Int
  | 0 => F
  | k + 1 => fun x y => tfun W H F k y ((tdim W H k).2 - 1 - x)
/-- The numbers behind k quarters. -/
def turL (W H P : Nat) (xs : List Int) (k : Nat) : List Int := img (tdim W H k).1 (tdim W H k).2 P (tfun W H (pxc W P xs) k)
def inQ (k : Int) : Bool := decide (0 ≤ k ∧ k ≤ 3)
theorem tdim_or (W H k : Nat) : tdim W H k = (W, H) ∨ tdim W H k = (H, W) := by
  induction k with
  | zero => exact .inl rfl
  | succ k ih =>
    rcases ih with h | h
    · right; simp [tdim, h]
    · left; simp [tdim, h]
theorem tdim_bd {W H : Nat} (hW1 : 1 ≤ W) (hW : W ≤ 16) (hH1 : 1 ≤ H) (hH : H ≤ 16) (k : Nat) : 1 ≤ (tdim W H k).1 ∧ (tdim W H k).1 ≤ 16 ∧ 1 ≤ (tdim W H k).2 ∧ (tdim W H k).2 ≤ 16 := by
  rcases tdim_or W H k with h | h <;> rw [h] <;> omega
theorem img_pxc2 {W H P : Nat} (F : Nat → Nat → Nat → Int) {x y p : Nat} (hx : x < W) (hy : y < H) (hp : p < P) : pxc W P (img W H P F) x y p = F x y p := by
  rw [img_pxc (H := H) hp]; exact img_px F hx hy hp
theorem turL_zero {W H P : Nat} {xs : List Int} (hl : xs.length = W * H * P) : turL W H P xs 0 = xs := by
  show img W H P (pxc W P xs) = xs
  rw [img_ext (G := px W P xs) (fun x y p hx hy hp => img_pxc (H := H) hp)]
  exact img_of hl
theorem turL_len (W H P : Nat) (xs : List Int) (k : Nat) : (turL W H P xs k).length = (tdim W H k).1 * (tdim W H k).2 * P := img_len _ _ _ _
theorem turL_succ {W H P : Nat} (xs : List Int) (k : Nat) (hH1 : 1 ≤ (tdim W H k).2) :
    img (tdim W H k).2 (tdim W H k).1 P (fun x y => pxc (tdim W H k).1 P (turL W H P xs k) y ((tdim W H k).2 - 1 - x)) = turL W H P xs (k + 1) := by
  show _ = img (tdim W H k).2 (tdim W H k).1 P (fun x y => tfun W H (pxc W P xs) k y ((tdim W H k).2 - 1 - x))
  apply img_ext
  intro x y p hx hy hp
  exact img_pxc2 (tfun W H (pxc W P xs) k) hy (by omega) hp
end Go.Proofs.Ytfeldhhbnhdodaa
