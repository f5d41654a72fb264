/- Contract of the drawing of PassSize's input. -/
import Derived.Test.YtbikdgnefibcdaaDoorSpoil
namespace Go.Proofs.YtbikdgnefibcdaaDoor
open Go.RowKit
set_option linter.unusedSimpArgs false
set_option linter.unusedVariables false
def DrawnWHP (w : World) (e : Ending) (w' : World) : Prop :=
  ∃ (x y : Nat) (d : Int), e = .returned (.tuple #[.int .i64 (x : Int), .int .i64 (y : Int), .int .i64 d]) ∧ x ≤ 18 ∧ y ≤ 18 ∧ -1 ≤ d ∧ d ≤ 9 ∧ Below w.heap.size w w'
set_option maxHeartbeats 2000000 in
theorem drawPsz_any (A : Option Addr) (c : Nat) (bs : List Int) (w : World) (hc : bs.length ≤ c) (h : Rdw .u8 w w.heap.size A bs) :
    Calls Tryd.prog 12 #[.slice A bs.length c] w (DrawnWHP w) := by
  go_enter Tryd.func12, Tryd.ntmps12
  go_wp2_with fail
  refine (newReader_any A c bs w hc h).mono ?_
  rintro e w1 ⟨rfl, hr1, hb1, hs1⟩
  clear hs1
  go_wp2_with fail
  refine (pick_any _ _ 0 _ hr1 (by omega) (by omega)).mono ?_
  intro e w2 hp
  obtain ⟨k, rfl, hk, hr2, hg2, hs2⟩ := picked_nat hp (by omega)
  have hb2 := hb1.trans (hr1.trans hg2)
  clear hp hs2 hb1
  go_wp2_with fail
  refine (pick_any _ _ 1 _ hr2 (by omega) (by omega)).mono ?_
  intro e w3 hp
  obtain ⟨j, rfl, hj, hr3, hg3, hs3⟩ := picked_nat hp (by omega)
  have hb3 := hb2.trans (hr2.trans hg3)
  clear hp hs3 hb2
  go_wp2_with fail
  refine (pick_any _ _ 2 _ hr3 (by omega) (by omega)).mono ?_
  intro e w4 hp
  obtain ⟨m, rfl, hm, hr4, hg4, hs4⟩ := picked_nat hp (by omega)
  have hb4 := hb3.trans (hr3.trans hg4)
  clear hp hs4 hb3
  go_wp2
  exact bodyPost_ret (v := .tuple #[.int .i64 (k : Int), .int .i64 (j : Int), .int .i64 ((m : Int) - 1)]) (by simp [results, Tryd.results12, go_sem]) rfl ⟨k, j, (m : Int) - 1, rfl, by omega, by omega, by omega, by omega, hb4⟩
end Go.Proofs.YtbikdgnefibcdaaDoor
