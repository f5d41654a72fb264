/- Contracts of pixels in the model: reading and writing one. -/
import Derived.Test.YtmchpkbdadikkaaDoorGridB
import Derived.Test.YtmchpkbdadikkaaDoorInvI
import Derived.RegionTactic
import Derived.BigRegion
namespace Go.Proofs.YtmchpkbdadikkaaDoor
open Go.RowKit
set_option linter.unusedSimpArgs false
set_option linter.unusedVariables false

theorem copyInts_at (A : Option Addr) (c n : Nat) (q : List Int) (hn : n = q.length) (w : World) (h : Rds .i64 w w.heap.size A q) (hl : n ≤ 2000000) :
    Calls Tryd.prog 48 #[.slice A n c] w (Made q w) := by
  subst hn
  exact copyInts_any A c q w h hl
set_option maxRecDepth 20000 in
set_option maxHeartbeats 8000000 in
theorem pixelAt_any (W H P : Nat) (hW : W ≤ 16) (hH : H ≤ 16) (hP : 1 ≤ P) (hP4 : P ≤ 4) (A : Option Addr) (c : Nat) (xs : List Int) (hl : xs.length = W * H * P) (hlc : xs.length ≤ c) (x y : Nat) (hx : x < W) (hy : y < H) (w : World) (hr : Rds .i64 w w.heap.size A xs) :
    Calls Tryd.prog 40 #[.agg #[.int .i64 (W : Int), .int .i64 (H : Int), .int .i64 (P : Int), .slice A xs.length c], .int .i64 (x : Int), .int .i64 (y : Int)] w (Made (pxl W P xs x y) w) := by
  have hs := pxl_slice hl hx hy
  obtain ⟨b, off, rfl, hb, hc⟩ := hr.cells_ (j := 0) (by omega)
  have hyW : y * W ≤ 256 := by have := Nat.mul_le_mul (Nat.le_of_lt hy) (Nat.le_refl W); have := Nat.mul_le_mul hH hW; omega
  have hxs : xs.length ≤ 1024 := by rw [hl]; have h1 := Nat.mul_le_mul hW hH; have := Nat.mul_le_mul h1 hP4; omega
  have i1 : 0 ≤ (y : Int) * (W : Int) ∧ (y : Int) * (W : Int) ≤ 256 := by rw [← Int.natCast_mul]; omega
  have i2 : 0 ≤ ((y : Int) * (W : Int) + (x : Int)) * (P : Int) ∧ ((y : Int) * (W : Int) + (x : Int)) * (P : Int) + (P : Int) ≤ (xs.length : Int) := by
    rw [← Int.natCast_mul, ← Int.natCast_add, ← Int.natCast_mul]; omega
  obtain ⟨i1, i1'⟩ := i1
  obtain ⟨i2, i2'⟩ := i2
  have HR := Lib.hid ((Rds.part (w := w) (B := w.heap.size) hb hc hs).alloc (Nat.le_refl _) (.cells #[.int .i64 (W : Int), .int .i64 (H : Int), .int .i64 (P : Int), .slice (some ⟨b, off, none⟩) xs.length c] 27))
  have HB := Lib.hid ((Below.refl w.heap.size w).alloc (Nat.le_refl _) (.cells #[.int .i64 (W : Int), .int .i64 (H : Int), .int .i64 (P : Int), .slice (some ⟨b, off, none⟩) xs.length c] 27))
  clear hc hr hl
  go_enter Tryd.func40, Tryd.ntmps40
  go_wp2_with fail
  refine (copyInts_at _ _ _ (pxl W P xs x y) (pxl_len W P xs x y).symm _ (HR.out.more (by simp)) (by omega)).mono ?_
  rintro e w2 ⟨v2, rfl, hO2, hB2⟩
  have HZ := Lib.hid (show Own w2 w.heap.size v2 (pxl W P xs x y) ∧ Below w.heap.size w w2 from ⟨hO2.base_le (by simp), HB.out.trans (hB2.mono (by simp))⟩)
  clear hO2 hB2
  go_wp2
  go_ret
  exact ⟨v2, rfl, HZ.out.1, HZ.out.2⟩
end Go.Proofs.YtmchpkbdadikkaaDoor
