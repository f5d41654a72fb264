/- Contract of the drawing of LevelOf's input. -/
import Derived.Test.YtpkeliinnkhpoaaSpoil
namespace Go.Proofs.Ytpkeliinnkhpoaa
open Go.RowKit
set_option linter.unusedSimpArgs false
set_option linter.unusedVariables false

set_option maxHeartbeats 1000000 in
theorem anyLevels_any (g N : Nat) (w : World) (h : Rdr w g N) (hN : N ≤ 1000000000) :
    Calls Try.prog 47 #[.pointer (some ⟨g, 0, none⟩)] w (Drawn1 (fun d => 0 ≤ d ∧ d ≤ 100) g (N + 1) w) := by
  go_enter Try.func47, Try.ntmps47
  go_wp2_with fail
  refine (one_lit _ [2, 3, 4, 8, 16, 17, 1, 2] _ _ g N w h hN (by simp) (by simp) rfl rfl).mono ?_
  rintro e w' ⟨k, rfl, hk, hr, hg⟩
  have hk' : 0 ≤ k ∧ k ≤ 100 := by simp at hk; omega
  clear hk h
  go_wp2
  go_ret
  exact ⟨k, rfl, hk', hr, hg⟩
def DrawnNL (w : World) (e : Ending) (w' : World) : Prop :=
  ∃ n d : Int, e = .returned (.tuple #[.int .i64 n, .int .i64 d]) ∧ -100000 ≤ n ∧ n ≤ 100000 ∧ 0 ≤ d ∧ d ≤ 100 ∧ Below w.heap.size w w'
set_option maxHeartbeats 2000000 in
theorem drawLevelOf_any (A : Option Addr) (c : Nat) (bs : List Int) (w : World) (hc : bs.length ≤ c) (h : Rdw .u8 w w.heap.size A bs) :
    Calls Try.prog 15 #[.slice A bs.length c] w (DrawnNL w) := by
  go_enter Try.func15, Try.ntmps15
  go_wp2_with fail
  refine (newReader_any A c bs w hc h).mono ?_
  rintro e w1 ⟨rfl, hr1, hb1, hs1⟩
  have Hs := Lib.hid hs1
  clear hs1
  go_wp2_with fail
  refine (pick_any _ _ 0 _ hr1 (by omega) (by omega)).mono ?_
  intro e w2 hp
  obtain ⟨k, rfl, hk, hr2, hg2, hs2⟩ := picked_nat hp (by omega)
  have hb2 := hb1.trans (hr1.trans hg2)
  clear hp hs2 hb1
  go_wp2_with fail
  refine (pick_any _ _ 1 _ hr2 (by omega) (by omega)).mono ?_
  intro e w3 hp
  obtain ⟨j, rfl, hj, hr3, hg3, hs3⟩ := picked_nat hp (by omega)
  have hb3 := hb2.trans (hr2.trans hg3)
  clear hp hs3 hb2
  by_cases h0 : j = 0
  · have h0' : ((j : Int) == 0) = true := by rw [h0]; rfl
    clear h0
    go_wp2_with fail
    refine (one_lit _ [9999, 10000, -9999, -10000] _ _ w.heap.size 2 w3 hr3 (by omega) (by simp) (by simp) rfl rfl).mono ?_
    rintro e w4 ⟨n, rfl, hn, hr4, hg4⟩
    have hn' : -10000 ≤ n ∧ n ≤ 10000 := by simp at hn; omega
    have hb4 := hb3.trans (hr3.trans hg4)
    clear hn
    go_wp2_with fail
    refine (anyLevels_any _ 3 _ hr4 (by omega)).mono ?_
    rintro e w5 ⟨d, rfl, ⟨hd1, hd2⟩, hr5, hg5⟩
    have hb5 := hb4.trans (hr4.trans hg5)
    go_wp2
    go_ret2
    exact ⟨_, _, rfl, by omega, by omega, hd1, hd2, hb5⟩
  · have h0' : ((j : Int) == 0) = false := beq_eq_false_iff_ne.2 (by omega)
    clear h0
    go_wp2_with fail
    refine (anyLevels_any _ 2 _ hr3 (by omega)).mono ?_
    rintro e w5 ⟨d, rfl, ⟨hd1, hd2⟩, hr5, hg5⟩
    have hb5 := hb3.trans (hr3.trans hg5)
    go_wp2
    go_ret2
    exact ⟨_, _, rfl, by omega, by omega, hd1, hd2, hb5⟩
end Go.Proofs.Ytpkeliinnkhpoaa
