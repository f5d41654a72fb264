/- Contracts of PixelAt in the program and in the model: the numbers of a pixel, as a slice that can be read. -/
import Derived.Test.YtolifmgkkkclkaaGridF
import Derived.Test.YtolifmgkkkclkaaSpecP
namespace Go.Proofs.Ytolifmgkkkclkaa
open Go.RowKit Go.Shelf
set_option linter.unusedSimpArgs false
set_option linter.unusedVariables false

/-- Whether a pixel is on an image. -/
def onIm (W H x y : Int) : Bool := decide (0 ≤ x ∧ x ≤ W - 1) && decide (0 ≤ y ∧ y ≤ H - 1)
/-- The numbers that PixelAt answers. -/
def pxv (W H P : Int) (xs : List Int) (x y : Int) : List Int := cond (vim W H P xs && onIm W H x y) (pxl W.toNat P.toNat xs x.toNat y.toNat) []
/-- The call answered a slice that reads as the numbers; nothing that existed has changed. -/
def Shows (xs : List Int) (w : World) (e : Ending) (w' : World) : Prop :=
  ∃ A c, e = .returned (.slice A xs.length c) ∧ xs.length ≤ c ∧ Rds .i64 w' w'.heap.size A xs ∧ Below w.heap.size w w'
theorem Shows.of_made {xs : List Int} {w : World} {e : Ending} {w' : World} (h : ∃ v, e = .returned v ∧ Own w' w.heap.size v xs ∧ Below w.heap.size w w') : Shows xs w e w' := by
  obtain ⟨v, rfl, hO, hB⟩ := h
  obtain ⟨A, c, rfl, hc⟩ := hO.slice
  exact ⟨A, c, rfl, hc, hO.rds.2, hB⟩
theorem Shows.nil {w w' : World} (h : Below w.heap.size w w') : Shows [] w (.returned (.slice none 0 0)) w' := ⟨none, 0, rfl, Nat.le_refl _, .inl rfl, h⟩
theorem pxc_row (W P : Nat) (xs : List Int) (x y : Nat) : (List.range P).map (pxc W P xs x y) = pxl W P xs x y := by
  unfold pxl
  apply List.map_congr_left
  intro p hp
  exact img_pxc (H := 0) (List.mem_range.1 hp)
theorem on_nat {W H : Nat} {x y : Int} (h : onIm W H x y = true) : ∃ a b : Nat, x = a ∧ y = b ∧ a < W ∧ b < H := by
  simp only [onIm, Bool.and_eq_true, decide_eq_true_eq] at h
  obtain ⟨⟨h1, h2⟩, h3, h4⟩ := h
  obtain ⟨a, rfl⟩ := Int.eq_ofNat_of_zero_le h1
  obtain ⟨b, rfl⟩ := Int.eq_ofNat_of_zero_le h3
  exact ⟨a, b, rfl, rfl, by omega, by omega⟩
end Go.Proofs.Ytolifmgkkkclkaa
