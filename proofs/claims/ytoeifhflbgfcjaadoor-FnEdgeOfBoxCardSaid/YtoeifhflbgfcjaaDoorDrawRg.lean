/- Contracts of the drawing of arguments that are regions. -/
import Derived.Test.YtoeifhflbgfcjaaDoorDrawReg
namespace Go.Proofs.YtoeifhflbgfcjaaDoor
open Go.RowKit
set_option linter.unusedSimpArgs false
set_option linter.unusedVariables false
set_option maxRecDepth 20000

/-- Drawn: a list of runs. -/
def DrawnL (w : World) (e : Ending) (w' : World) : Prop :=
  ∃ v n xs, e = .returned v ∧ n ≤ 300 ∧ OwnT 51 3 w' w.heap.size v n xs ∧ Below w.heap.size w w'
set_option maxHeartbeats 4000000 in
theorem drawEdge_any (A : Option Addr) (c : Nat) (bs : List Int) (w : World) (hc : bs.length ≤ c) (h : Rdw .u8 w w.heap.size A bs) :
    Calls Tryd.prog 14 #[.slice A bs.length c] w (DrawnL w) := by
  go_enter Tryd.func14, Tryd.ntmps14
  go_wp2_with fail
  refine (newReader_any A c bs w hc h).mono ?_
  rintro e w1 ⟨rfl, hr1, hb1, hs1⟩
  clear hs1
  go_wp2_with fail
  refine (anyRegion_any _ 0 w1 hr1 (by omega)).mono ?_
  rintro e w2 ⟨v, n, xs, rfl, hn, hO, hr2, hg2⟩
  have HE : Hid (OwnT 51 3 w2 w.heap.size v n xs ∧ Below w.heap.size w w2) := Lib.hid ⟨hO.base_le hb1.size, hb1.trans (hr1.trans hg2)⟩
  clear hO hg2 hb1 hr1 hr2
  go_wp2
  go_ret
  exact ⟨v, n, xs, rfl, hn, HE.out.1, HE.out.2⟩
end Go.Proofs.YtoeifhflbgfcjaaDoor
