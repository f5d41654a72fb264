/- Contracts of PixelAt in the program and in the model: the numbers of a pixel, as a slice that can be read. -/
import Derived.Test.YtebfaomlljekiaaGridF
import Derived.Test.YtebfaomlljekiaaSpecP
namespace Go.Proofs.Ytebfaomlljekiaa
open Go.RowKit Go.Shelf
set_option linter.unusedSimpArgs false
set_option linter.unusedVariables false

/-- Whether a pixel is on an image. -/
def onIm (W H x y : Int) : Bool := decide (0 ≤ x ∧ x ≤ W - 1) && decide (0 ≤ y ∧ y ≤ H - 1)
/-- The numbers that PixelAt answers. -/
def pxv (W H P : Int) (xs : List Int) (x y : Int) : List Int := cond (vim W H P xs && onIm W H x y) (pxl W.toNat P.toNat xs x.toNat y.toNat) []
/-- The call answered a slice that reads as the numbers; nothing that existed has changed. -/
def Shows (xs : List Int) (w : World) (e : Ending) (w' : World) : Prop :=
  ∃ A c, e = .returned (.slice A xs.length c) ∧ xs.length ≤ c ∧ Rds .i64 w' w'.heap.size A xs ∧ Below w.heap.size w w'
theorem Shows.of_made {xs : List Int} {w : World} {e : Ending} {w' : World} (h : ∃ v, e = .returned v ∧ Own w' w.heap.size v xs ∧ Below w.heap.size w w') : Shows xs w e w' := by
  obtain ⟨v, rfl, hO, hB⟩ := h
  obtain ⟨A, c, rfl, hc⟩ := hO.slice
  exact ⟨A, c, rfl, hc, hO.rds.2, hB⟩
theorem Shows.nil {w w' : World} (h : Below w.heap.size w w') : Shows [] w (.returned (.slice none 0 0)) w' := ⟨none, 0, rfl, Nat.le_refl _, .inl rfl, h⟩
set_option maxHeartbeats 4000000 in
theorem sPlace_any (W H P : Int) (v : Value) (x y : Int) (hW : 0 ≤ W ∧ W ≤ 1000) (hH : 0 ≤ H ∧ H ≤ 1000) (w : World) :
    Calls Try.prog 102 #[.agg #[.int .i64 W, .int .i64 H, .int .i64 P, v], .int .i64 x, .int .i64 y] w fun e w' => e = .returned (.bool (onIm W H x y)) ∧ Below w.heap.size w w' := by
  have HB := Lib.hid ((Below.refl w.heap.size w).alloc (Nat.le_refl _) (.cells #[.int .i64 W, .int .i64 H, .int .i64 P, v] 25))
  obtain ⟨hW0, hW1⟩ := hW
  obtain ⟨hH0, hH1⟩ := hH
  have HV : Hid (onIm W H x y = (decide (0 ≤ x ∧ x ≤ W - 1) && decide (0 ≤ y ∧ y ≤ H - 1))) := Lib.hid rfl
  cases h1 : decide (0 ≤ x ∧ x ≤ W - 1) <;> cases h2 : decide (0 ≤ y ∧ y ≤ H - 1)
  all_goals
    have HR : Hid (onIm W H x y = _) := Lib.hid (show onIm W H x y = (decide (0 ≤ x ∧ x ≤ W - 1) && decide (0 ≤ y ∧ y ≤ H - 1)) from rfl)
    rw [h1, h2] at HR
    have H1 := Lib.hid h1
    have H2 := Lib.hid h2
    clear HV h1 h2
    go_enter Try.func102, Try.ntmps102
    go_wp2_with fail
    first | refine (iIn_any x 0 (W - 1) _).mono ?_ | refine (sIn_any x 0 (W - 1) _).mono ?_
    rintro e w' ⟨rfl, rfl⟩
    rw [H1.out]
    go_wp2_with fail
    try ((first | refine (iIn_any y 0 (H - 1) _).mono ?_ | refine (sIn_any y 0 (H - 1) _).mono ?_); rintro e w' ⟨rfl, rfl⟩; rw [H2.out]; go_wp2_with fail)
    go_ret
    exact ⟨ret_bool (by rw [HR.out] <;> rfl), HB.out⟩
theorem pxc_row (W P : Nat) (xs : List Int) (x y : Nat) : (List.range P).map (pxc W P xs x y) = pxl W P xs x y := by
  unfold pxl
  apply List.map_congr_left
  intro p hp
  exact img_pxc (H := 0) (List.mem_range.1 hp)
theorem on_nat {W H : Nat} {x y : Int} (h : onIm W H x y = true) : ∃ a b : Nat, x = a ∧ y = b ∧ a < W ∧ b < H := by
  simp only [onIm, Bool.and_eq_true, decide_eq_true_eq] at h
  obtain ⟨⟨h1, h2⟩, h3, h4⟩ := h
  obtain ⟨a, rfl⟩ := Int.eq_ofNat_of_zero_le h1
  obtain ⟨b, rfl⟩ := Int.eq_ofNat_of_zero_le h3
  exact ⟨a, b, rfl, rfl, by omega, by omega⟩
end Go.Proofs.Ytebfaomlljekiaa
