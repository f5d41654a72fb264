/- Drawn: four numbers of a line; what the laws of lines call. -/
import Derived.Test.YtbjgjjhfnaiocaaDoorLnR
import Derived.Test.YtbjgjjhfnaiocaaDoorLnS
import Derived.Test.YtbjgjjhfnaiocaaDoorReader
import Derived.Test.YtbjgjjhfnaiocaaDoorSftL
namespace Go.Proofs.YtbjgjjhfnaiocaaDoor
open Go.RowKit
set_option linter.unusedSimpArgs false
set_option linter.unusedVariables false

def DrawnLin (w : World) (e : Ending) (w' : World) : Prop :=
  ∃ p q r s : Int, e = .returned (.tuple #[.int .i64 p, .int .i64 q, .int .i64 r, .int .i64 s]) ∧ ((-1 ≤ p ∧ p ≤ 16) ∧ (-1 ≤ q ∧ q ≤ 16) ∧ (-1 ≤ r ∧ r ≤ 16) ∧ -1 ≤ s ∧ s ≤ 16) ∧ Below w.heap.size w w'
set_option maxHeartbeats 4000000 in
theorem drawLin_any (A : Option Addr) (c : Nat) (bs : List Int) (w : World) (hc : bs.length ≤ c) (h : Rdw .u8 w w.heap.size A bs) :
    Calls Tryd.prog 13 #[.slice A bs.length c] w (DrawnLin w) := by
  go_enter Tryd.func13, Tryd.ntmps13
  go_wp2_with fail
  refine (newReader_any A c bs w hc h).mono ?_
  rintro e w1 ⟨rfl, hr1, hb1, hs1⟩
  clear hs1
  go_wp2_with fail
  refine (pick_any _ _ 0 _ hr1 (by omega) (by omega)).mono ?_
  intro e w2 hp
  obtain ⟨k1, rfl, hk1, hr2, hg2, hs2⟩ := picked_nat hp (by omega)
  have hb2 := hb1.trans (hr1.trans hg2)
  clear hp hs2 hb1 hr1 hg2
  go_wp2_with fail
  refine (pick_any _ _ 1 _ hr2 (by omega) (by omega)).mono ?_
  intro e w3 hp
  obtain ⟨k2, rfl, hk2, hr3, hg3, hs3⟩ := picked_nat hp (by omega)
  have hb3 := hb2.trans (hr2.trans hg3)
  clear hp hs3 hb2 hr2 hg3
  go_wp2_with fail
  refine (pick_any _ _ 2 _ hr3 (by omega) (by omega)).mono ?_
  intro e w4 hp
  obtain ⟨k3, rfl, hk3, hr4, hg4, hs4⟩ := picked_nat hp (by omega)
  have hb4 := hb3.trans (hr3.trans hg4)
  clear hp hs4 hb3 hr3 hg4
  go_wp2_with fail
  refine (pick_any _ _ 3 _ hr4 (by omega) (by omega)).mono ?_
  intro e w5 hp
  obtain ⟨k4, rfl, hk4, hr5, hg5, hs5⟩ := picked_nat hp (by omega)
  have hb5 := hb4.trans (hr4.trans hg5)
  clear hp hs5 hb4 hr4 hg5
  by_cases h0 : k4 = 0
  · subst h0
    go_wp2_with fail
    refine (pick_any _ _ 4 _ hr5 (by omega) (by omega)).mono ?_
    intro e w6 hp
    obtain ⟨k5, rfl, hk5, hr6, hg6, hs6⟩ := picked_nat hp (by omega)
    have hb6 := hb5.trans (hr5.trans hg6)
    clear hp hs6 hb5 hr5 hg6 hr6
    go_wp2
    exact bodyPost_ret (v := .tuple #[.int .i64 (-1), .int .i64 (k2 : Int), .int .i64 (k3 : Int), .int .i64 (k5 : Int)]) (by simp [results, Tryd.results13, go_sem]) rfl ⟨_, _, _, _, rfl, by omega, hb6⟩
  · have h0I : ¬ (k4 : Int) = 0 := by omega
    go_wp2_with fail
    refine (pick_any _ _ 4 _ hr5 (by omega) (by omega)).mono ?_
    intro e w6 hp
    obtain ⟨k5, rfl, hk5, hr6, hg6, hs6⟩ := picked_nat hp (by omega)
    have hb6 := hb5.trans (hr5.trans hg6)
    clear hp hs6 hb5 hr5 hg6 hr6
    go_wp2
    exact bodyPost_ret (v := .tuple #[.int .i64 (k1 : Int), .int .i64 (k2 : Int), .int .i64 (k3 : Int), .int .i64 (k5 : Int)]) (by simp [results, Tryd.results13, go_sem]) rfl ⟨_, _, _, _, rfl, by omega, hb6⟩
set_option maxHeartbeats 1000000 in
theorem l_abs (z : Int) (w : World) (h0 : -100 ≤ z) (h1 : z ≤ 100) : Calls Tryd.prog 17 #[.int .i64 z] w fun e w' => e = .returned (.int .i64 ((z.natAbs : Nat) : Int)) ∧ w = w' := by
  by_cases h : z < 0
  all_goals
    go_enter Tryd.func17, Tryd.ntmps17
    go_wp2
    go_ret
    exact ⟨ret_int (by omega), rfl⟩
end Go.Proofs.YtbjgjjhfnaiocaaDoor
