/- Contract of FillImage in the program. -/
import Derived.Test.YtlmpkanlfhjijaaGridF
namespace Go.Proofs.Ytlmpkanlfhjijaa
open Go.RowKit Go.Shelf
set_option linter.unusedSimpArgs false
set_option linter.unusedVariables false

/-- The numbers of an image with one color. -/
def fillL (W H : Nat) (q : List Int) : List Int := img W H q.length (fun x y p => q.getD p 0)
def fillOk (W H : Int) (q : List Int) : Bool := vsh W H q.length && allB 0 255 q
set_option maxHeartbeats 1000000 in
theorem iVpx_any (A : Option Addr) (c B : Nat) (xs : List Int) (w : World) (h : Rds .i64 w B A xs) (hl : xs.length ≤ 2000000) :
    Calls Try.prog 65 #[.slice A xs.length c, .int .i64 (xs.length : Int)] w fun e w' => e = .returned (.bool (allB 0 255 xs)) ∧ w = w' := by
  have Hh := Lib.hid h
  clear h
  go_enter Try.func65, Try.ntmps65
  go_wp2_with fail
  refine (areBytes_any A c B xs w Hh.out (by omega)).mono ?_
  rintro e w' ⟨rfl, rfl⟩
  go_wp2
  go_ret
  exact ⟨rfl, rfl⟩
end Go.Proofs.Ytlmpkanlfhjijaa
