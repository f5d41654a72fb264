/- Contract of crop and CropImage in the model. -/
import Derived.Test.YtlkacohbfgcokaaDoorBoxI
namespace Go.Proofs.YtlkacohbfgcokaaDoor
open Go.RowKit Go.Shelf
set_option linter.unusedSimpArgs false
set_option linter.unusedVariables false

theorem pixelAt_at (W H P : Nat) (hW : W ≤ 16) (hH : H ≤ 16) (hP : 1 ≤ P) (hP4 : P ≤ 4) (A : Option Addr) (c : Nat) (xs : List Int) (hl : xs.length = W * H * P) (hlc : xs.length ≤ c) (x y : Nat) (hx : x < W) (hy : y < H) (X Y : Int) (hX : X = (x : Int)) (hY : Y = (y : Int)) (w : World) (hr : Rds .i64 w w.heap.size A xs) :
    Calls Tryd.prog 65 #[.agg #[.int .i64 (W : Int), .int .i64 (H : Int), .int .i64 (P : Int), .slice A xs.length c], .int .i64 X, .int .i64 Y] w (Made (pxl W P xs x y) w) := by
  subst hX hY
  exact pixelAt_any W H P hW hH hP hP4 A c xs hl hlc x y hx hy w hr
end Go.Proofs.YtlkacohbfgcokaaDoor
