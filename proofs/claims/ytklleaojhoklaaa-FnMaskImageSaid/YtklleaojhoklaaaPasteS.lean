/- Contract of paste in the model. -/
import Derived.Test.YtklleaojhoklaaaCropS
import Derived.Test.YtklleaojhoklaaaPixI
import Derived.Deep.Cut
namespace Go.Proofs.Ytklleaojhoklaaa
open Go.RowKit Go.Shelf
set_option linter.unusedSimpArgs false
set_option linter.unusedVariables false

/-- Which numbers stand where a part (its numbers: F) lies over an image (M), as far as the part's pixels before column x and row y reach. -/
def paF (F M : Nat → Nat → Nat → Int) (X Y : Int) (PW y x : Nat) (i j p : Nat) : Int :=
  if Y ≤ j ∧ X ≤ i ∧ (i : Int) - X < PW ∧ ((j : Int) - Y < y ∨ ((j : Int) - Y = y ∧ (i : Int) - X < x)) then F ((i : Int) - X).toNat ((j : Int) - Y).toNat p else M i j p
def Pst (W H P : Nat) (F M : Nat → Nat → Nat → Int) (X Y : Int) (PW y x : Nat) (ys : List Int) : Prop :=
  ys.length = W * H * P ∧ ∀ i j p, i < W → j < H → p < P → px W P ys i j p = paF F M X Y PW y x i j p
section
variable {W H P PW y x : Nat} {F M : Nat → Nat → Nat → Int} {X Y : Int} {ys q : List Int}
theorem Pst.start (hl : ys.length = W * H * P) : Pst W H P F (px W P ys) X Y PW 0 0 ys :=
  ⟨hl, fun i j p _ _ _ => by unfold paF; rw [if_neg (by omega)]⟩
theorem Pst.step (h : Pst W H P F M X Y PW y x ys) (hx : x < PW) {tx ty : Nat} (htx : tx < W) (hty : ty < H) (hX : X + x = tx) (hY : Y + y = ty) (hq : ∀ p, p < P → q.getD p 0 = F x y p) : Pst W H P F M X Y PW y (x + 1) (setk W P tx ty q ys P) := by
  refine ⟨by rw [setk_len, h.1], fun i j p hi hj hp => ?_⟩
  rw [setk_px (H := H) h.1 hi htx hty hp P (Nat.le_refl _), h.2 i j p hi hj hp]
  unfold paF
  by_cases e : i = tx ∧ j = ty
  · rw [if_pos ⟨e.1, e.2, hp⟩, if_pos (by omega), hq p hp]
    have e1 : ((i : Int) - X).toNat = x := by omega
    have e2 : ((j : Int) - Y).toNat = y := by omega
    rw [e1, e2]
  · rw [if_neg (fun h => e ⟨h.1, h.2.1⟩)]
    by_cases c : Y ≤ j ∧ X ≤ i ∧ (i : Int) - X < PW ∧ ((j : Int) - Y < y ∨ ((j : Int) - Y = y ∧ (i : Int) - X < x))
    · rw [if_pos c, if_pos (by omega)]
    · rw [if_neg c, if_neg (by omega)]
theorem Pst.skip (h : Pst W H P F M X Y PW y x ys) (ho : ¬ (0 ≤ X + x ∧ X + x < W ∧ 0 ≤ Y + y ∧ Y + y < H)) : Pst W H P F M X Y PW y (x + 1) ys := by
  refine ⟨h.1, fun i j p hi hj hp => ?_⟩
  rw [h.2 i j p hi hj hp]
  unfold paF
  by_cases c : Y ≤ j ∧ X ≤ i ∧ (i : Int) - X < PW ∧ ((j : Int) - Y < y ∨ ((j : Int) - Y = y ∧ (i : Int) - X < x))
  · rw [if_pos c, if_pos (by omega)]
  · rw [if_neg c, if_neg (by omega)]
theorem Pst.row (h : Pst W H P F M X Y PW y PW ys) : Pst W H P F M X Y PW (y + 1) 0 ys := by
  refine ⟨h.1, fun i j p hi hj hp => ?_⟩
  rw [h.2 i j p hi hj hp]
  unfold paF
  by_cases c : Y ≤ j ∧ X ≤ i ∧ (i : Int) - X < PW ∧ ((j : Int) - Y < y ∨ ((j : Int) - Y = y ∧ (i : Int) - X < PW))
  · rw [if_pos c, if_pos (by omega)]
  · rw [if_neg c, if_neg (by omega)]
theorem Pst.done (h : Pst W H P F M X Y PW y x ys) : ys = img W H P (paF F M X Y PW y x) := img_eq h.1 h.2
end
theorem grown_of_below {w w' : World} (h : Below w.heap.size w w') (row : Option Nat) : w.grownBy w' row := ⟨h.os, h.tape, h.output, h.size, fun i hi _ => h.block i hi⟩
end Go.Proofs.Ytklleaojhoklaaa
