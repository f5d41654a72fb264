/- The state of a law over drawn images: slices that can be read, boxes; contracts of functions from images to images and pixels, as hypotheses. -/
import Derived.Test.YtolifmgkkkclkaaLEqImg
import Derived.Test.YtolifmgkkkclkaaPixI
import Derived.Deep.RegionHeld3
namespace Go.Proofs.Ytolifmgkkkclkaa
open Go.RowKit Go.Shelf
set_option linter.unusedSimpArgs false
set_option linter.unusedVariables false

/-- What a law knows: which slices read as which numbers, which boxes hold what. -/
def LSt (W0 w : World) (R : List (Option Addr × List Int)) (Bs : List Bxs) : Prop :=
  Below W0.heap.size W0 w ∧ (∀ r ∈ R, Rds .i64 w w.heap.size r.1 r.2) ∧ ∀ b ∈ Bs, Bx w b.g b.t b.cs
section
variable {W0 w w' : World} {R : List (Option Addr × List Int)} {Bs : List Bxs} {A : Option Addr} {xs : List Int}
theorem LSt.start (hb : Below W0.heap.size W0 w) : LSt W0 w [] [] := ⟨hb, by simp, by simp⟩
theorem LSt.add (h : LSt W0 w R Bs) (hr : Rds .i64 w w.heap.size A xs) : LSt W0 w ((A, xs) :: R) Bs :=
  ⟨h.1, fun r hm => by
    rcases List.mem_cons.1 hm with rfl | hm
    · exact hr
    · exact h.2.1 r hm, h.2.2⟩
theorem LSt.call (h : LSt W0 w R Bs) (hb : Below w.heap.size w w') : LSt W0 w' R Bs :=
  ⟨h.1.trans (hb.mono h.1.size), fun r hm => ((h.2.1 r hm).below hb).more hb.size, fun b hm => (h.2.2 b hm).below hb⟩
theorem LSt.box (h : LSt W0 w R Bs) (T : TypeId) (cs : Array Value) : LSt W0 (w.alloc (.cells cs T)) R (⟨w.heap.size, T, cs⟩ :: Bs) :=
  ⟨h.1.alloc h.1.size _, fun r hm => ((h.2.1 r hm).alloc (Nat.le_refl _) _).more (by simp), fun b hm => by
    rcases List.mem_cons.1 hm with rfl | hm
    · exact Bx.new w T cs
    · exact (h.2.2 b hm).alloc _⟩
theorem LSt.drew (h : LSt W0 w R Bs) : LSt W0 w.drew R Bs := ⟨⟨h.1.os, h.1.tape, h.1.output, h.1.size, h.1.block⟩, h.2⟩
theorem LSt.drewN (h : LSt W0 w R Bs) (n : Nat) : LSt W0 (w.drewN n) R Bs := ⟨⟨h.1.os, h.1.tape, h.1.output, h.1.size, h.1.block⟩, h.2⟩
theorem LSt.rds (h : LSt W0 w R Bs) (hm : (A, xs) ∈ R) : Rds .i64 w w.heap.size A xs := h.2.1 _ hm
theorem LSt.im (h : LSt W0 w R Bs) {g : Nat} {T : TypeId} {X Y Z : Int} {v : Value} (hm : ⟨g, T, imC X Y Z v⟩ ∈ Bs) : w.cell? ⟨g, 0, none⟩ = some (.int .i64 X) ∧ w.cell? ⟨g, 1, none⟩ = some (.int .i64 Y) ∧ w.cell? ⟨g, 2, none⟩ = some (.int .i64 Z) ∧ w.cell? ⟨g, 3, none⟩ = some v := (h.2.2 _ hm).im
theorem LSt.lt (h : LSt W0 w R Bs) {g : Nat} {T : TypeId} {cs : Array Value} (hm : ⟨g, T, cs⟩ ∈ Bs) : g < w.heap.size := (h.2.2 _ hm).lt
end
/-- The call answered an image that can be read. -/
def ShI (X Y Z : Int) (ys : List Int) (w : World) (e : Ending) (w' : World) : Prop :=
  ∃ A c, e = .returned (.agg #[.int .i64 X, .int .i64 Y, .int .i64 Z, .slice A ys.length c]) ∧ ys.length ≤ c ∧ Rds .i64 w' w'.heap.size A ys ∧ Below w.heap.size w w'
theorem ShI.of {X Y Z : Int} {ys : List Int} {w : World} {e : Ending} {w' : World} (h : MadeI X Y Z ys w e w') : ShI X Y Z ys w e w' := by
  obtain ⟨v, rfl, hO, hB⟩ := h
  obtain ⟨A, c, rfl, hc⟩ := hO.slice
  exact ⟨A, c, rfl, hc, hO.rds.2, hB⟩
/-- An image and whether it is one. -/
def ShIB (X Y Z : Int) (ys : List Int) (ok : Bool) (w : World) (e : Ending) (w' : World) : Prop :=
  ∃ A c, e = .returned (.tuple #[.agg #[.int .i64 X, .int .i64 Y, .int .i64 Z, .slice A ys.length c], .bool ok]) ∧ ys.length ≤ c ∧ Rds .i64 w' w'.heap.size A ys ∧ Below w.heap.size w w'
def ImC0 (f : FuncId) (W H P : Int) (xs : List Int) (X Y Z : Int) (ys : List Int) : Prop :=
  ∀ (A : Option Addr) (c : Nat) (w : World), Rds .i64 w w.heap.size A xs → xs.length ≤ c → Calls Try.prog f #[.agg #[.int .i64 W, .int .i64 H, .int .i64 P, .slice A xs.length c]] w (ShI X Y Z ys w)
def ImC1 (f : FuncId) (k : Int) (W H P : Int) (xs : List Int) (X Y Z : Int) (ys : List Int) : Prop :=
  ∀ (A : Option Addr) (c : Nat) (w : World), Rds .i64 w w.heap.size A xs → xs.length ≤ c → Calls Try.prog f #[.agg #[.int .i64 W, .int .i64 H, .int .i64 P, .slice A xs.length c], .int .i64 k] w (ShI X Y Z ys w)
def PxC (f : FuncId) (W H P : Int) (xs : List Int) (x y : Int) (q : List Int) : Prop :=
  ∀ (A : Option Addr) (c : Nat) (w : World), Rds .i64 w w.heap.size A xs → xs.length ≤ c → Calls Try.prog f #[.agg #[.int .i64 W, .int .i64 H, .int .i64 P, .slice A xs.length c], .int .i64 x, .int .i64 y] w (Shows q w)
def SetC (f : FuncId) (W H P : Int) (xs : List Int) (x y : Int) (q : List Int) (X Y Z : Int) (ys : List Int) (ok : Bool) : Prop :=
  ∀ (A : Option Addr) (c : Nat) (A' : Option Addr) (c' : Nat) (w : World), Rds .i64 w w.heap.size A xs → xs.length ≤ c → Rds .i64 w w.heap.size A' q → q.length ≤ c' → Calls Try.prog f #[.agg #[.int .i64 W, .int .i64 H, .int .i64 P, .slice A xs.length c], .int .i64 x, .int .i64 y, .slice A' q.length c'] w (ShIB X Y Z ys ok w)
def FillC (f : FuncId) (W H : Int) (q : List Int) (X Y Z : Int) (ys : List Int) : Prop :=
  ∀ (A : Option Addr) (c : Nat) (w : World), Rds .i64 w w.heap.size A q → q.length ≤ c → Calls Try.prog f #[.int .i64 W, .int .i64 H, .slice A q.length c] w (ShI X Y Z ys w)
theorem ImC0.use {f : FuncId} {W H P : Int} {xs : List Int} {X Y Z : Int} {ys : List Int} (h : Hid (ImC0 f W H P xs X Y Z ys)) (A : Option Addr) (c : Nat) (w : World) (hr : Rds .i64 w w.heap.size A xs) (hc : xs.length ≤ c) : Calls Try.prog f #[.agg #[.int .i64 W, .int .i64 H, .int .i64 P, .slice A xs.length c]] w (ShI X Y Z ys w) := h.out A c w hr hc
theorem ImC1.use {f : FuncId} {k W H P : Int} {xs : List Int} {X Y Z : Int} {ys : List Int} (h : Hid (ImC1 f k W H P xs X Y Z ys)) (A : Option Addr) (c : Nat) (w : World) (hr : Rds .i64 w w.heap.size A xs) (hc : xs.length ≤ c) : Calls Try.prog f #[.agg #[.int .i64 W, .int .i64 H, .int .i64 P, .slice A xs.length c], .int .i64 k] w (ShI X Y Z ys w) := h.out A c w hr hc
theorem PxC.use {f : FuncId} {W H P : Int} {xs : List Int} {x y : Int} {q : List Int} (h : Hid (PxC f W H P xs x y q)) (A : Option Addr) (c : Nat) (w : World) (hr : Rds .i64 w w.heap.size A xs) (hc : xs.length ≤ c) : Calls Try.prog f #[.agg #[.int .i64 W, .int .i64 H, .int .i64 P, .slice A xs.length c], .int .i64 x, .int .i64 y] w (Shows q w) := h.out A c w hr hc
theorem SetC.use {f : FuncId} {W H P : Int} {xs : List Int} {x y : Int} {q : List Int} {X Y Z : Int} {ys : List Int} {ok : Bool} (h : Hid (SetC f W H P xs x y q X Y Z ys ok)) (A : Option Addr) (c : Nat) (A' : Option Addr) (c' : Nat) (w : World) (hr : Rds .i64 w w.heap.size A xs) (hc : xs.length ≤ c) (hr' : Rds .i64 w w.heap.size A' q) (hc' : q.length ≤ c') : Calls Try.prog f #[.agg #[.int .i64 W, .int .i64 H, .int .i64 P, .slice A xs.length c], .int .i64 x, .int .i64 y, .slice A' q.length c'] w (ShIB X Y Z ys ok w) := h.out A c A' c' w hr hc hr' hc'
theorem FillC.use {f : FuncId} {W H : Int} {q : List Int} {X Y Z : Int} {ys : List Int} (h : Hid (FillC f W H q X Y Z ys)) (A : Option Addr) (c : Nat) (w : World) (hr : Rds .i64 w w.heap.size A q) (hc : q.length ≤ c) : Calls Try.prog f #[.int .i64 W, .int .i64 H, .slice A q.length c] w (ShI X Y Z ys w) := h.out A c w hr hc
theorem lEqInts_same (A A' : Option Addr) (c c' : Nat) (q : List Int) (w : World) (hx : Rds .i64 w w.heap.size A q) (hy : Rds .i64 w w.heap.size A' q) (hl : q.length ≤ 2000000) :
    Calls Try.prog 9 #[.slice A q.length c, .slice A' q.length c'] w fun e w' => e = .returned (.bool true) ∧ Below w.heap.size w w' :=
  (lEqualInts_any A A' c c' q q _ _ w hx hy (by omega) (by omega)).mono fun e w' ⟨he, n, hw⟩ => ⟨by rw [he]; simp, by subst hw; exact below_dm (Below.refl _ _) n⟩
theorem lEqIm (X Y Z : Int) (ys : List Int) (A A' : Option Addr) (c c' : Nat) (w : World) (hx : Rds .i64 w w.heap.size A ys) (hy : Rds .i64 w w.heap.size A' ys) (hl : ys.length ≤ 2000000) :
    Calls Try.prog 12 #[.agg #[.int .i64 X, .int .i64 Y, .int .i64 Z, .slice A ys.length c], .agg #[.int .i64 X, .int .i64 Y, .int .i64 Z, .slice A' ys.length c']] w fun e w' => e = .returned (.bool true) ∧ Below w.heap.size w w' :=
  lEqImg_same X Y Z A A' c c' _ _ ys w rfl rfl hx hy hl
/-! ### Images as functions of the place. -/
theorem img_self {W H P : Nat} {xs : List Int} (hl : xs.length = W * H * P) : img W H P (pxc W P xs) = xs := by
  rw [img_ext (G := px W P xs) (fun x y p hx hy hp => img_pxc (H := H) hp)]
  exact img_of hl
theorem vim_img {W H P : Nat} {F : Nat → Nat → Nat → Int} (hW1 : 1 ≤ W) (hW : W ≤ 16) (hH1 : 1 ≤ H) (hH : H ≤ 16) (hP1 : 1 ≤ P) (hP : P ≤ 4) (hF : ∀ x y p, x < W → y < H → p < P → 0 ≤ F x y p ∧ F x y p ≤ 255) : vim W H P (img W H P F) = true := by
  show (vsh W H P && (decide (((img W H P F).length : Int) = W * H * P) && allB 0 255 (img W H P F))) = true
  simp only [Bool.and_eq_true, decide_eq_true_eq, img_len]
  refine ⟨?_, by simp, ?_⟩
  · simp only [vsh, Bool.and_eq_true, decide_eq_true_eq]; omega
  · refine decide_eq_true ?_
    intro n hn
    obtain ⟨i, hi, rfl⟩ := List.mem_map.1 hn
    obtain ⟨h1, h2, h3, _⟩ := pix_of (List.mem_range.1 hi)
    exact hF _ _ _ h1 h2 h3
theorem pxc_bytes {W H P : Nat} {xs : List Int} (hl : xs.length = W * H * P) (hb : ∀ j, j < xs.length → 0 ≤ xs.getD j 0 ∧ xs.getD j 0 ≤ 255) : ∀ x y p, x < W → y < H → p < P → 0 ≤ pxc W P xs x y p ∧ pxc W P xs x y p ≤ 255 := by
  intro x y p hx hy hp
  rw [img_pxc (H := H) hp]
  exact hb _ (by rw [hl]; exact pix_lt hx hy hp)
theorem img_bd {W H P : Nat} (F : Nat → Nat → Nat → Int) (hW : W ≤ 16) (hH : H ≤ 16) (hP : P ≤ 4) : (img W H P F).length ≤ 1024 := by
  rw [img_len]; have h1 := Nat.mul_le_mul hW hH; have := Nat.mul_le_mul h1 hP; omega
theorem pxv_img {W H P a b : Nat} {F : Nat → Nat → Nat → Int} (hv : vim W H P (img W H P F) = true) (ha : a < W) (hb : b < H) : pxv W H P (img W H P F) a b = (List.range P).map (F a b) := by
  have ho : onIm W H a b = true := by simp only [onIm, Bool.and_eq_true, decide_eq_true_eq]; omega
  show cond (vim W H P (img W H P F) && onIm W H a b) (pxl W P (img W H P F) a b) [] = _
  rw [hv, ho]
  show pxl W P (img W H P F) a b = _
  unfold pxl
  apply List.map_congr_left
  intro p hp
  exact img_px F ha hb (List.mem_range.1 hp)
theorem img_pxc2' {W H P : Nat} (F : Nat → Nat → Nat → Int) {x y p : Nat} (hx : x < W) (hy : y < H) (hp : p < P) : pxc W P (img W H P F) x y p = F x y p := by
  rw [img_pxc (H := H) hp]; exact img_px F hx hy hp
end Go.Proofs.Ytolifmgkkkclkaa
