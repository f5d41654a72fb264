/- Rows of bits of a region; their rows. -/
import Derived.Test.YtbjgjjhfnaiocaaDoorBitR
import Derived.Test.YtbjgjjhfnaiocaaDoorHasS
import Derived.Test.YtbjgjjhfnaiocaaDoorBx
namespace Go.Proofs.YtbjgjjhfnaiocaaDoor
open Go.RowKit
set_option linter.unusedSimpArgs false
set_option linter.unusedVariables false
set_option maxRecDepth 100000

theorem b16 {w : World} {g : Nat} {T : TypeId} {B : Nat → Nat} (h : Bx w g T (btC B)) : w.cell? ⟨g, 0, none⟩ = some (.int .u16 (B 0 : Nat)) ∧ w.cell? ⟨g, 1, none⟩ = some (.int .u16 (B 1 : Nat)) ∧ w.cell? ⟨g, 2, none⟩ = some (.int .u16 (B 2 : Nat)) ∧ w.cell? ⟨g, 3, none⟩ = some (.int .u16 (B 3 : Nat)) ∧ w.cell? ⟨g, 4, none⟩ = some (.int .u16 (B 4 : Nat)) ∧ w.cell? ⟨g, 5, none⟩ = some (.int .u16 (B 5 : Nat)) ∧ w.cell? ⟨g, 6, none⟩ = some (.int .u16 (B 6 : Nat)) ∧ w.cell? ⟨g, 7, none⟩ = some (.int .u16 (B 7 : Nat)) ∧ w.cell? ⟨g, 8, none⟩ = some (.int .u16 (B 8 : Nat)) ∧ w.cell? ⟨g, 9, none⟩ = some (.int .u16 (B 9 : Nat)) ∧ w.cell? ⟨g, 10, none⟩ = some (.int .u16 (B 10 : Nat)) ∧ w.cell? ⟨g, 11, none⟩ = some (.int .u16 (B 11 : Nat)) ∧ w.cell? ⟨g, 12, none⟩ = some (.int .u16 (B 12 : Nat)) ∧ w.cell? ⟨g, 13, none⟩ = some (.int .u16 (B 13 : Nat)) ∧ w.cell? ⟨g, 14, none⟩ = some (.int .u16 (B 14 : Nat)) ∧ w.cell? ⟨g, 15, none⟩ = some (.int .u16 (B 15 : Nat)) :=
  ⟨(cell_of_row w g 0 _ _ _ h).trans rfl, (cell_of_row w g 1 _ _ _ h).trans rfl, (cell_of_row w g 2 _ _ _ h).trans rfl, (cell_of_row w g 3 _ _ _ h).trans rfl, (cell_of_row w g 4 _ _ _ h).trans rfl, (cell_of_row w g 5 _ _ _ h).trans rfl, (cell_of_row w g 6 _ _ _ h).trans rfl, (cell_of_row w g 7 _ _ _ h).trans rfl, (cell_of_row w g 8 _ _ _ h).trans rfl, (cell_of_row w g 9 _ _ _ h).trans rfl, (cell_of_row w g 10 _ _ _ h).trans rfl, (cell_of_row w g 11 _ _ _ h).trans rfl, (cell_of_row w g 12 _ _ _ h).trans rfl, (cell_of_row w g 13 _ _ _ h).trans rfl, (cell_of_row w g 14 _ _ _ h).trans rfl, (cell_of_row w g 15 _ _ _ h).trans rfl⟩
abbrev s16 (u : World) (r : Nat) (B : Nat → Nat) : World := ((((((((((((((((u.setCell ⟨r, 0, none⟩ (.int .u16 (B 0 : Nat))).setCell ⟨r, 1, none⟩ (.int .u16 (B 1 : Nat))).setCell ⟨r, 2, none⟩ (.int .u16 (B 2 : Nat))).setCell ⟨r, 3, none⟩ (.int .u16 (B 3 : Nat))).setCell ⟨r, 4, none⟩ (.int .u16 (B 4 : Nat))).setCell ⟨r, 5, none⟩ (.int .u16 (B 5 : Nat))).setCell ⟨r, 6, none⟩ (.int .u16 (B 6 : Nat))).setCell ⟨r, 7, none⟩ (.int .u16 (B 7 : Nat))).setCell ⟨r, 8, none⟩ (.int .u16 (B 8 : Nat))).setCell ⟨r, 9, none⟩ (.int .u16 (B 9 : Nat))).setCell ⟨r, 10, none⟩ (.int .u16 (B 10 : Nat))).setCell ⟨r, 11, none⟩ (.int .u16 (B 11 : Nat))).setCell ⟨r, 12, none⟩ (.int .u16 (B 12 : Nat))).setCell ⟨r, 13, none⟩ (.int .u16 (B 13 : Nat))).setCell ⟨r, 14, none⟩ (.int .u16 (B 14 : Nat))).setCell ⟨r, 15, none⟩ (.int .u16 (B 15 : Nat)))
theorem s16_box {u : World} {r : Nat} {T : TypeId} {Z : Nat → Nat} (h : Bx u r T (btC Z)) (B : Nat → Nat) : Bx (s16 u r B) r T (btC B) := by
  have h0 := heap_setCell_same _ r 0 _ T (.int .u16 (B 0 : Nat)) h
  have h1 := heap_setCell_same _ r 1 _ T (.int .u16 (B 1 : Nat)) h0
  have h2 := heap_setCell_same _ r 2 _ T (.int .u16 (B 2 : Nat)) h1
  have h3 := heap_setCell_same _ r 3 _ T (.int .u16 (B 3 : Nat)) h2
  have h4 := heap_setCell_same _ r 4 _ T (.int .u16 (B 4 : Nat)) h3
  have h5 := heap_setCell_same _ r 5 _ T (.int .u16 (B 5 : Nat)) h4
  have h6 := heap_setCell_same _ r 6 _ T (.int .u16 (B 6 : Nat)) h5
  have h7 := heap_setCell_same _ r 7 _ T (.int .u16 (B 7 : Nat)) h6
  have h8 := heap_setCell_same _ r 8 _ T (.int .u16 (B 8 : Nat)) h7
  have h9 := heap_setCell_same _ r 9 _ T (.int .u16 (B 9 : Nat)) h8
  have h10 := heap_setCell_same _ r 10 _ T (.int .u16 (B 10 : Nat)) h9
  have h11 := heap_setCell_same _ r 11 _ T (.int .u16 (B 11 : Nat)) h10
  have h12 := heap_setCell_same _ r 12 _ T (.int .u16 (B 12 : Nat)) h11
  have h13 := heap_setCell_same _ r 13 _ T (.int .u16 (B 13 : Nat)) h12
  have h14 := heap_setCell_same _ r 14 _ T (.int .u16 (B 14 : Nat)) h13
  have h15 := heap_setCell_same _ r 15 _ T (.int .u16 (B 15 : Nat)) h14
  simpa [Bx] using h15
theorem s16_below {a u : World} {K r : Nat} (h : Below K a u) (hr : K ≤ r) (B : Nat → Nat) : Below K a (s16 u r B) :=
  ((((((((((((((((h.setCell hr _).setCell hr _).setCell hr _).setCell hr _).setCell hr _).setCell hr _).setCell hr _).setCell hr _).setCell hr _).setCell hr _).setCell hr _).setCell hr _).setCell hr _).setCell hr _).setCell hr _).setCell hr _)
/-- One row is stored. -/
def upB (B : Nat → Nat) (y v : Nat) : Nat → Nat := fun q => if q = y then v else B q
theorem btC_set (B : Nat → Nat) (v : Nat) : ∀ y : Nat, y < 16 → (btC B).setIfInBounds y (.int .u16 (v : Nat)) = btC (upB B y v)
  | 0, _ => rfl | 1, _ => rfl | 2, _ => rfl | 3, _ => rfl | 4, _ => rfl | 5, _ => rfl | 6, _ => rfl | 7, _ => rfl
  | 8, _ => rfl | 9, _ => rfl | 10, _ => rfl | 11, _ => rfl | 12, _ => rfl | 13, _ => rfl | 14, _ => rfl | 15, _ => rfl
  | n + 16, h => by omega
theorem bx_up {u : World} {r : Nat} {T : TypeId} {B : Nat → Nat} (h : Bx u r T (btC B)) {y : Nat} (hy : y < 16) (v : Nat) : Bx (u.setCell ⟨r, y, none⟩ (.int .u16 (v : Nat))) r T (btC (upB B y v)) := by
  have h1 := heap_setCell_same u r y _ T (.int .u16 (v : Nat)) h
  rw [btC_set B v y hy] at h1
  exact h1
theorem bx_cell {u : World} {r : Nat} {T : TypeId} {B : Nat → Nat} (h : Bx u r T (btC B)) {y : Nat} (hy : y < 16) : u.cell? ⟨r, y, none⟩ = some (.int .u16 (B y : Nat)) := (cell_of_row u r y _ _ _ h).trans (btC_get B y hy)
/-- A row of rows of bits. -/
def bRow (B : Nat → Nat) (y : Int) : Nat := if 0 ≤ y ∧ y ≤ 15 then B y.toNat else 0
set_option maxHeartbeats 4000000 in
theorem i_row (B : Nat → Nat) (y : Int) (w : World) :
    Calls Tryd.prog 56 #[.agg (btC B), .int .i64 y] w fun e w' => e = .returned (.int .u16 (bRow B y : Nat)) ∧ Below w.heap.size w w' := by
  have HB : Hid (Below w.heap.size w (w.alloc (.cells (btC B) 56))) := Lib.hid ((Below.refl _ _).alloc (Nat.le_refl _) _)
  have HX : Hid (Bx (w.alloc (.cells (btC B) 56)) w.heap.size 56 (btC B)) := Lib.hid (Bx.new _ _ _)
  by_cases h : 0 ≤ y ∧ y ≤ 15
  · obtain ⟨q, rfl⟩ := Int.eq_ofNat_of_zero_le h.1
    have hq : q < 16 := by omega
    have hc := bx_cell HX.out hq
    have e : bRow B (q : Int) = B q := by unfold bRow; rw [if_pos h]; rfl
    rw [e]
    have hd : decide ((0 : Int) ≤ (q : Int) ∧ (q : Int) ≤ 15) = true := decide_eq_true h
    go_enter Tryd.func56, Tryd.ntmps56
    go_wp2_with fail
    refine (iIr_any (q : Int) 0 15 _).mono ?_
    rintro e w1 ⟨rfl, rfl⟩
    rw [hd]
    go_wp2
    go_ret
    exact ⟨rfl, HB.out⟩
  · have e : bRow B y = 0 := by unfold bRow; rw [if_neg h]
    rw [e]
    have hd : decide ((0 : Int) ≤ y ∧ y ≤ 15) = false := decide_eq_false h
    go_enter Tryd.func56, Tryd.ntmps56
    go_wp2_with fail
    refine (iIr_any y 0 15 _).mono ?_
    rintro e w1 ⟨rfl, rfl⟩
    rw [hd]
    go_wp2
    go_ret
    exact ⟨rfl, HB.out⟩
end Go.Proofs.YtbjgjjhfnaiocaaDoor
