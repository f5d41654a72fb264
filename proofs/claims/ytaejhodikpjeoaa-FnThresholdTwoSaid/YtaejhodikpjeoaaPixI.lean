/- Contracts of PixelAt in the program and in the model: the numbers of a pixel, as a slice that can be read. -/
import Derived.Test.YtaejhodikpjeoaaGridF
import Derived.Test.YtaejhodikpjeoaaSpecP
namespace Go.Proofs.Ytaejhodikpjeoaa
open Go.RowKit Go.Shelf
set_option linter.unusedSimpArgs false
set_option linter.unusedVariables false

/-- Whether a pixel is on an image. -/
def onIm (W H x y : Int) : Bool := decide (0 ≤ x ∧ x ≤ W - 1) && decide (0 ≤ y ∧ y ≤ H - 1)
/-- The numbers that PixelAt answers. -/
def pxv (W H P : Int) (xs : List Int) (x y : Int) : List Int := cond (vim W H P xs && onIm W H x y) (pxl W.toNat P.toNat xs x.toNat y.toNat) []
/-- The call answered a slice that reads as the numbers; nothing that existed has changed. -/
def Shows (xs : List Int) (w : World) (e : Ending) (w' : World) : Prop :=
  ∃ A c, e = .returned (.slice A xs.length c) ∧ xs.length ≤ c ∧ Rds .i64 w' w'.heap.size A xs ∧ Below w.heap.size w w'
theorem Shows.of_made {xs : List Int} {w : World} {e : Ending} {w' : World} (h : ∃ v, e = .returned v ∧ Own w' w.heap.size v xs ∧ Below w.heap.size w w') : Shows xs w e w' := by
  obtain ⟨v, rfl, hO, hB⟩ := h
  obtain ⟨A, c, rfl, hc⟩ := hO.slice
  exact ⟨A, c, rfl, hc, hO.rds.2, hB⟩
theorem Shows.nil {w w' : World} (h : Below w.heap.size w w') : Shows [] w (.returned (.slice none 0 0)) w' := ⟨none, 0, rfl, Nat.le_refl _, .inl rfl, h⟩
theorem slice_col3 (P : Nat) (hP : P ≤ 4) (g : Nat) (W : World) : (Instr.sliceAt 62 (Value.pointer (some ⟨g, 0, none⟩)) none (some (Value.int .i64 (P : Int))) (some (Value.int .i64 (P : Int)))).run Try.prog W = .ok (.slice (some ⟨g, 0, none⟩) P P) W := by
  have h : P = 0 ∨ P = 1 ∨ P = 2 ∨ P = 3 ∨ P = 4 := by omega
  rcases h with rfl | rfl | rfl | rfl | rfl
  all_goals
    go_simp
set_option maxHeartbeats 2000000 in
theorem pixelOf_any (c : Nat → Int) (P : Nat) (hP : P ≤ 4) (w : World) :
    Calls Try.prog 29 #[colV c, .int .i64 (P : Int)] w fun e w' => e = .returned (.slice (some ⟨w.heap.size, 0, none⟩) P P) ∧ Bx w' w.heap.size 62 #[.int .i64 (c 0), .int .i64 (c 1), .int .i64 (c 2), .int .i64 (c 3)] ∧ Below w.heap.size w w' := by
  have HX := Lib.hid (Bx.new w 62 #[.int .i64 (c 0), .int .i64 (c 1), .int .i64 (c 2), .int .i64 (c 3)])
  have HB := Lib.hid ((Below.refl w.heap.size w).alloc (Nat.le_refl _) (.cells #[.int .i64 (c 0), .int .i64 (c 1), .int .i64 (c 2), .int .i64 (c 3)] 62))
  have hs := slice_col3 P hP w.heap.size
  unfold colV
  go_enter Try.func29, Try.ntmps29
  go_wp2
  go_ret
  exact ⟨rfl, HX.out, HB.out⟩
theorem bx_rds {w : World} {g : Nat} {c : Nat → Int} {P : Nat} (hP : P ≤ 4) (h : Bx w g 62 #[.int .i64 (c 0), .int .i64 (c 1), .int .i64 (c 2), .int .i64 (c 3)]) : Rds .i64 w w.heap.size (some ⟨g, 0, none⟩) ((List.range P).map c) := by
  refine .inr ⟨g, 0, rfl, h.lt, fun j hj => ?_⟩
  simp at hj
  obtain ⟨a0, a1, a2, a3⟩ := bx4 h
  have e : ((List.range P).map c).getD j 0 = c j := by simp [hj]
  rw [e, Nat.zero_add]
  have : j = 0 ∨ j = 1 ∨ j = 2 ∨ j = 3 := by omega
  rcases this with rfl | rfl | rfl | rfl
  · exact a0
  · exact a1
  · exact a2
  · exact a3
theorem pxc_row (W P : Nat) (xs : List Int) (x y : Nat) : (List.range P).map (pxc W P xs x y) = pxl W P xs x y := by
  unfold pxl
  apply List.map_congr_left
  intro p hp
  exact img_pxc (H := 0) (List.mem_range.1 hp)
theorem on_nat {W H : Nat} {x y : Int} (h : onIm W H x y = true) : ∃ a b : Nat, x = a ∧ y = b ∧ a < W ∧ b < H := by
  simp only [onIm, Bool.and_eq_true, decide_eq_true_eq] at h
  obtain ⟨⟨h1, h2⟩, h3, h4⟩ := h
  obtain ⟨a, rfl⟩ := Int.eq_ofNat_of_zero_le h1
  obtain ⟨b, rfl⟩ := Int.eq_ofNat_of_zero_le h3
  exact ⟨a, b, rfl, rfl, by omega, by omega⟩
end Go.Proofs.Ytaejhodikpjeoaa
