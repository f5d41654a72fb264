/- Mathematics of painting a region: which pixels the first runs have. -/
import Derived.Test.YtlmpkanlfhjijaaHas
import Derived.Test.YtlmpkanlfhjijaaSetI
import Derived.Test.YtlmpkanlfhjijaaGap
import Derived.Test.YtlmpkanlfhjijaaGenP
namespace Go.Proofs.Ytlmpkanlfhjijaa
open Go.RowKit Go.Shelf
set_option linter.unusedSimpArgs false
set_option linter.unusedVariables false

/-- The pixel is in one of the first k runs, or in run k before column c. -/
def inP (xs : List Int) (k : Nat) (c x y : Int) : Bool := rh xs x y k || (decide (y = gY xs k) && decide (gF xs k ≤ x ∧ x < c))
/-- What is painted so far. -/
def Pnt (W H P : Nat) (xs : List Int) (G F : Nat → Nat → Nat → Int) (k : Nat) (c : Int) (ys : List Int) : Prop :=
  ys.length = W * H * P ∧ ∀ x y p, x < W → y < H → p < P → px W P ys x y p = if inP xs k c x y = true then G x y p else F x y p
section
variable {W H P : Nat} {xs : List Int} {G F : Nat → Nat → Nat → Int} {k : Nat} {c : Int} {ys q : List Int}
theorem Pnt.start (hl : ys.length = W * H * P) (hF : ∀ x y p, x < W → y < H → p < P → px W P ys x y p = F x y p) : Pnt W H P xs G F 0 (gF xs 0) ys := by
  refine ⟨hl, fun x y p hx hy hp => ?_⟩
  rw [hF x y p hx hy hp, if_neg]
  unfold inP
  simp [rh] <;> omega
theorem Pnt.step (h : Pnt W H P xs G F k c ys) {x0 y0 : Nat} (hx0 : x0 < W) (hy0 : y0 < H) (hc : c = x0) (hy : gY xs k = y0) (hf : gF xs k ≤ c) (hq : ∀ p, p < P → q.getD p 0 = G x0 y0 p) : Pnt W H P xs G F k (c + 1) (setk W P x0 y0 q ys P) := by
  refine ⟨by rw [setk_len]; exact h.1, fun x y p hx hy' hp => ?_⟩
  rw [setk_px h.1 hx hx0 hy0 hp P (Nat.le_refl _)]
  by_cases e : x = x0 ∧ y = y0
  · obtain ⟨rfl, rfl⟩ := e
    rw [if_pos ⟨rfl, rfl, hp⟩, hq p hp, if_pos]
    unfold inP
    rw [Bool.or_eq_true, Bool.and_eq_true, decide_eq_true_eq, decide_eq_true_eq]
    exact .inr ⟨hy.symm, by omega, by omega⟩
  · rw [if_neg (fun h => e ⟨h.1, h.2.1⟩), h.2 x y p hx hy' hp]
    have : inP xs k (c + 1) x y = inP xs k c x y := by
      unfold inP
      congr 1
      rw [Bool.eq_iff_iff, Bool.and_eq_true, Bool.and_eq_true, decide_eq_true_eq, decide_eq_true_eq, decide_eq_true_eq]
      omega
    rw [this]
theorem Pnt.skip (h : Pnt W H P xs G F k c ys) (ho : ¬ (0 ≤ c ∧ c < W ∧ 0 ≤ gY xs k ∧ gY xs k < H)) : Pnt W H P xs G F k (c + 1) ys := by
  refine ⟨h.1, fun x y p hx hy hp => ?_⟩
  rw [h.2 x y p hx hy hp]
  have : inP xs k (c + 1) x y = inP xs k c x y := by
    unfold inP
    congr 1
    rw [Bool.eq_iff_iff, Bool.and_eq_true, Bool.and_eq_true, decide_eq_true_eq, decide_eq_true_eq, decide_eq_true_eq]
    omega
  rw [this]
/-- A run is done: at its end, or where the image ends. -/
theorem Pnt.next (h : Pnt W H P xs G F k c ys) (hct : c ≤ gT xs k) (hd : c = gT xs k ∨ (W : Int) ≤ c ∨ (H : Int) ≤ gY xs k) : Pnt W H P xs G F (k + 1) (gF xs (k + 1)) ys := by
  refine ⟨h.1, fun x y p hx hy hp => ?_⟩
  rw [h.2 x y p hx hy hp]
  have : inP xs (k + 1) (gF xs (k + 1)) x y = inP xs k c x y := by
    rw [Bool.eq_iff_iff, show inP xs (k + 1) (gF xs (k + 1)) x y = ((rh xs x y k || runB (gY xs k) (gF xs k) (gT xs k) x y) || (decide ((y : Int) = gY xs (k + 1)) && decide (gF xs (k + 1) ≤ x ∧ (x : Int) < gF xs (k + 1)))) from rfl]
    unfold inP runB
    simp only [Bool.or_eq_true, Bool.and_eq_true, decide_eq_true_eq]
    constructor
    · rintro ((h | h) | h)
      · exact .inl h
      · exact .inr ⟨h.1, by omega⟩
      · omega
    · rintro (h | h)
      · exact .inl (.inl h)
      · exact .inl (.inr ⟨h.1, by omega⟩)
  rw [this]
/-- The whole region is painted. -/
def pntF (xs : List Int) (n : Nat) (G F : Nat → Nat → Nat → Int) (x y p : Nat) : Int := if rh xs x y n = true then G x y p else F x y p
theorem Pnt.done {n : Nat} (h : Pnt W H P xs G F n (gF xs n) ys) : ys = img W H P (pntF xs n G F) := by
  refine img_eq h.1 fun x y p hx hy hp => ?_
  rw [h.2 x y p hx hy hp]
  have : inP xs n (gF xs n) x y = rh xs x y n := by
    rw [Bool.eq_iff_iff]
    unfold inP
    simp only [Bool.or_eq_true, Bool.and_eq_true, decide_eq_true_eq]
    constructor
    · rintro (h | h)
      · exact h
      · omega
    · exact .inl
  rw [this]
  rfl
end
/-- An image and whether there is one. -/
def MadeIc (b : Bool) (W H P : Int) (xs : List Int) (w : World) (e : Ending) (w' : World) : Prop :=
  ∃ v, e = .returned (.tuple #[.agg #[.int .i64 (cond b W 0), .int .i64 (cond b H 0), .int .i64 (cond b P 0), v], .bool b]) ∧ Own w' w.heap.size v (cond b xs []) ∧ Below w.heap.size w w'
theorem cellG {W W' : World} {b o g : Nat} {u : Option Value} (hG : W.grownBy W' (some g)) (hb : b < W.heap.size) (hne : b ≠ g) (h : W.cell? ⟨b, o, none⟩ = u) : W'.cell? ⟨b, o, none⟩ = u :=
  (World.cell?_of_block (hG.block b hb (by simpa using hne))).trans h
theorem cellB {W W' : World} {b o B : Nat} {u : Option Value} (hB : Below B W W') (hb : b < B) (h : W.cell? ⟨b, o, none⟩ = u) : W'.cell? ⟨b, o, none⟩ = u :=
  (hB.cell (p := ⟨b, o, none⟩) hb).trans h
/-- The numbers of an image with a painted region. -/
def mskOk (W H P : Int) (xs : List Int) (W' H' P' : Int) (ys : List Int) (rs : List Int) (n : Nat) : Bool := cmpB W H P xs W' H' P' ys && regB rs n
def mskL (W H P : Nat) (xs ys rs : List Int) (n : Nat) : List Int := img W H P (pntF rs n (px W P ys) (px W P xs))
def frgOk (W H P : Int) (xs rs : List Int) (n : Nat) (q : List Int) : Bool := vim W H P xs && (regB rs n && (decide ((q.length : Int) = P) && allB 0 255 q))
def frgL (W H P : Nat) (xs q rs : List Int) (n : Nat) : List Int := img W H P (pntF rs n (fun _ _ p => q.getD p 0) (px W P xs))
end Go.Proofs.Ytlmpkanlfhjijaa
