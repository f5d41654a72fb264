/- Grids of numbers that are arranged anew. -/
import Derived.Test.YtjgcondkoaegnaaGridN
import Derived.Deep.QuietTactic
import Derived.BigQuiet
import Derived.IntWalk
namespace Go.Proofs.Ytjgcondkoaegnaa
open Go.RowKit Go.Shelf
set_option linter.unusedSimpArgs false
set_option linter.unusedVariables false
set_option maxRecDepth 20000

/-- The row of a grid of numbers. -/
def grN (W H : Nat) (f : Nat → Nat → Int) : List Int := img W H 1 (fun x y _ => f x y)
theorem grN_len (W H : Nat) (f : Nat → Nat → Int) : (grN W H f).length = W * H := by unfold grN; rw [img_len, Nat.mul_one]
theorem grN_get {W H x y : Nat} (f : Nat → Nat → Int) (hx : x < W) (hy : y < H) : (grN W H f).getD (y * W + x) 0 = f x y := by
  have := img_at (P := 1) (fun x y _ => f x y) (row_lt hx hy) (show 0 < 1 by omega)
  unfold grN
  rw [row_mod hx, row_div hx] at this
  simpa using this
theorem grN_ext {W H : Nat} {f g : Nat → Nat → Int} (h : ∀ x y, x < W → y < H → f x y = g x y) : grN W H f = grN W H g := img_ext (fun x y p hx hy _ => h x y hx hy)
set_option maxHeartbeats 8000000 in
theorem atN_any (W H n : Nat) (hn : W * H = n) (hW : W ≤ 16) (hH : H ≤ 16) (A : Option Addr) (c : Nat) (f : Nat → Nat → Int) (x y : Nat) (hx : x < W) (hy : y < H) (w : World) (hr : Rds .i64 w w.heap.size A (grN W H f)) (hc : n ≤ c) :
    Calls Try.prog 67 #[.agg #[.int .i64 (W : Int), .int .i64 (H : Int), .slice A n c], .int .i64 (x : Int), .int .i64 (y : Int)] w fun e w' => e = .returned (.int .i64 (f x y)) ∧ Below w.heap.size w w' := by
  subst hn
  have hWH : W * H ≤ 256 := by have := Nat.mul_le_mul hW hH; omega
  have hlt := row_lt hx hy
  have hi : (y : Int) * (W : Int) + (x : Int) = ((y * W + x : Nat) : Int) := by simp
  have i0 : 0 ≤ (y : Int) * (W : Int) ∧ (y : Int) * (W : Int) ≤ 256 := by rw [← Int.natCast_mul]; omega
  have i1 : 0 ≤ (y : Int) * (W : Int) + (x : Int) := by rw [hi]; omega
  have i2 : (y : Int) * (W : Int) + (x : Int) < ((W * H : Nat) : Int) := by rw [hi]; omega
  obtain ⟨b, off, rfl, hb, hcl⟩ := hr.cells_ (j := y * W + x) (by rw [grN_len]; exact hlt)
  have q0 := hcl (y * W + x) (by rw [grN_len]; exact hlt)
  rw [grN_get f hx hy] at q0
  obtain ⟨i0, i0'⟩ := i0
  have HB := Lib.hid ((Below.refl w.heap.size w).alloc (Nat.le_refl _) (.cells #[.int .i64 (W : Int), .int .i64 (H : Int), .slice (some ⟨b, off, none⟩) (W * H) c] 59))
  clear hcl hr hi
  generalize W * H = n at *
  go_enter Try.func67, Try.ntmps67
  go_wp2
  go_ret
  exact ⟨rfl, by first | exact Below.refl _ _ | exact HB.out | (repeat' (first | (exact Below.refl _ _) | (refine Below.setCell ?_ (by first | omega | (simp; done) | (simp; omega)) _) | (refine below_dn ?_ _) | (refine Below.drew ?_) | (refine Below.alloc ?_ (by first | omega | (simp; done) | (simp; omega)) _) | (exact Below.refl _ _)))⟩
end Go.Proofs.Ytjgcondkoaegnaa
