/- Contracts of boxes that fit an image, in the program and in the model. -/
import Derived.Test.YtaejhodikpjeoaaSetI
namespace Go.Proofs.Ytaejhodikpjeoaa
open Go.RowKit Go.Shelf
set_option linter.unusedSimpArgs false
set_option linter.unusedVariables false

/-- Whether a box fits. -/
def fitB (bx by_ bw bh W H : Int) : Bool := decide (0 ≤ bx ∧ bx ≤ W - 1) && (decide (1 ≤ bw ∧ bw ≤ W - bx) && (decide (0 ≤ by_ ∧ by_ ≤ H - 1) && decide (1 ≤ bh ∧ bh ≤ H - by_)))
/-- A box that fits, in natural numbers. -/
theorem fit_nat {bx by_ bw bh : Int} {W H : Nat} (h : fitB bx by_ bw bh W H = true) : ∃ a b c d : Nat, bx = a ∧ by_ = b ∧ bw = c ∧ bh = d ∧ 1 ≤ c ∧ 1 ≤ d ∧ a + c ≤ W ∧ b + d ≤ H := by
  simp only [fitB, Bool.and_eq_true, decide_eq_true_eq] at h
  obtain ⟨⟨h1, h2⟩, ⟨h3, h4⟩, ⟨h5, h6⟩, h7, h8⟩ := h
  obtain ⟨a, rfl⟩ := Int.eq_ofNat_of_zero_le h1
  obtain ⟨b, rfl⟩ := Int.eq_ofNat_of_zero_le h5
  obtain ⟨c, rfl⟩ := Int.eq_ofNat_of_zero_le (show 0 ≤ bw by omega)
  obtain ⟨d, rfl⟩ := Int.eq_ofNat_of_zero_le (show 0 ≤ bh by omega)
  exact ⟨a, b, c, d, rfl, rfl, rfl, rfl, by omega, by omega, by omega, by omega⟩
def cropOk (W H P : Int) (xs : List Int) (bx by_ bw bh : Int) : Bool := vim W H P xs && fitB bx by_ bw bh W H
/-- The numbers of a part of an image. -/
def cropL (W P : Nat) (xs : List Int) (X0 Y0 bw bh : Nat) : List Int := img bw bh P (fun X Y => pxc W P xs (X0 + X) (Y0 + Y))
theorem SetR.noR {ok : Bool} {W H P : Int} {ys : List Int} {w u : World} {r : Nat} (h : ok = false) (hr : w.heap.size ≤ r) (hB : Below w.heap.size w u) (v0 v1 v2 v3 : Value) :
    SetR ok W H P ys w (.returned (.tuple #[.agg #[.int .i64 0, .int .i64 0, .int .i64 0, .slice none 0 0], .bool false])) ((((u.setCell ⟨r, 0, none⟩ v0).setCell ⟨r, 1, none⟩ v1).setCell ⟨r, 2, none⟩ v2).setCell ⟨r, 3, none⟩ v3) := by
  subst h
  have := im_end (w := w) (r := r) (base := r + 1) (show Own u (r + 1) (.slice none 0 0) [] from World.ownsRow_nil _ _ _ _) (by omega) hr hB v0 v1 v2 v3
  exact ⟨_, rfl, this.1, this.2⟩
theorem SetR.yesR {ok : Bool} {W H P : Int} {ys : List Int} {w u : World} {r base : Nat} {v : Value} (h : ok = true) (hr : w.heap.size ≤ r) (hO : Own u base v ys) (hb : r < base) (hB : Below w.heap.size w u) (v0 v1 v2 v3 : Value) :
    SetR ok W H P ys w (.returned (.tuple #[.agg #[.int .i64 W, .int .i64 H, .int .i64 P, v], .bool true])) ((((u.setCell ⟨r, 0, none⟩ v0).setCell ⟨r, 1, none⟩ v1).setCell ⟨r, 2, none⟩ v2).setCell ⟨r, 3, none⟩ v3) := by
  subst h
  have := im_end (w := w) (r := r) (base := base) hO hb hr hB v0 v1 v2 v3
  exact ⟨_, rfl, this.1, this.2⟩
theorem Bx.at2 {w : World} {c0 c1 c2 : Array Value} {T0 T1 T2 : TypeId} : Bx (((w.alloc (.cells c0 T0)).alloc (.cells c1 T1)).alloc (.cells c2 T2)) w.heap.size T0 c0 ∧ Bx (((w.alloc (.cells c0 T0)).alloc (.cells c1 T1)).alloc (.cells c2 T2)) (w.heap.size + 1) T1 c1 ∧ Bx (((w.alloc (.cells c0 T0)).alloc (.cells c1 T1)).alloc (.cells c2 T2)) (w.heap.size + 2) T2 c2 := by
  refine ⟨((Bx.new w T0 c0).alloc _).alloc _, ?_, ?_⟩
  · have := (Bx.new (w.alloc (.cells c0 T0)) T1 c1).alloc (.cells c2 T2); simpa using this
  · have := Bx.new ((w.alloc (.cells c0 T0)).alloc (.cells c1 T1)) T2 c2; simpa using this
end Go.Proofs.Ytaejhodikpjeoaa
