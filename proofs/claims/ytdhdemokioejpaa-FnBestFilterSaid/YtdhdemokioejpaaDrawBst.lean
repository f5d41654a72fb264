/- Contract of the drawing of the arguments of BestFilter. -/
import Derived.Test.YtdhdemokioejpaaDrawFilter
namespace Go.Proofs.Ytdhdemokioejpaa
open Go.RowKit
set_option linter.unusedSimpArgs false
set_option linter.unusedVariables false
set_option maxRecDepth 20000

/-- Drawn: two rows, a step. -/
def DrawnB (w : World) (e : Ending) (w' : World) : Prop :=
  ∃ (st : Int) (A A' : Option Addr) (c c' : Nat) (xs bs : List Int), e = .returned (.tuple #[.slice A xs.length c, .slice A' bs.length c', .int .i64 st]) ∧ xs.length ≤ 13 ∧ bs.length ≤ 12 ∧ Rds .i64 w' w'.heap.size A xs ∧ Rds .i64 w' w'.heap.size A' bs ∧ Below w.heap.size w w'
set_option maxHeartbeats 4000000 in
theorem drawBst_any (A : Option Addr) (c : Nat) (bs : List Int) (w : World) (hc : bs.length ≤ c) (h : Rdw .u8 w w.heap.size A bs) :
    Calls Try.prog 7 #[.slice A bs.length c] w (DrawnB w) := by
  have Hh := Lib.hid h
  clear h
  go_enter Try.func7, Try.ntmps7
  go_wp2_with fail
  refine (drawFilterRow_any A c bs w hc Hh.out).mono ?_
  rintro e w' ⟨k, st, A1, A2, c1, c2, xs, ys, rfl, h1, h2, h3, h4, h5⟩
  have HE : Hid (DrawnB w (.returned (.tuple #[.slice A1 xs.length c1, .slice A2 ys.length c2, .int .i64 st])) w') := Lib.hid ⟨st, A1, A2, c1, c2, xs, ys, rfl, h1, h2, h3, h4, h5⟩
  clear h1 h2 h3 h4 h5
  go_wp2
  exact bodyPost_ret (v := .tuple #[.slice A1 xs.length c1, .slice A2 ys.length c2, .int .i64 st]) (by simp [results, Try.results7, go_sem]) rfl HE.out
end Go.Proofs.Ytdhdemokioejpaa
