/- Contract of the drawing of BlendNumber's input. -/
import Derived.Test.YtakloadpmpffdaaSpoil
namespace Go.Proofs.Ytakloadpmpffdaa
open Go.RowKit
set_option linter.unusedSimpArgs false
set_option linter.unusedVariables false

set_option maxHeartbeats 1000000 in
theorem anyMode_any (g N : Nat) (w : World) (h : Rdr w g N) (hN : N ≤ 1000000000) :
    Calls Try.prog 20 #[.pointer (some ⟨g, 0, none⟩)] w (Drawn1 (fun d => -1 ≤ d ∧ d ≤ 5) g (N + 1) w) := by
  go_enter Try.func20, Try.ntmps20
  go_wp2_with fail
  refine (one_lit _ [0, 1, 2, 3, 4, 0, 5, -1] _ _ g N w h hN (by simp) (by simp) rfl rfl).mono ?_
  rintro e w' ⟨k, rfl, hk, hr, hg⟩
  have hk' : -1 ≤ k ∧ k ≤ 5 := by simp at hk; omega
  clear hk h
  go_wp2
  go_ret
  exact ⟨k, rfl, hk', hr, hg⟩
set_option maxHeartbeats 1000000 in
theorem anyAlpha_any (g N : Nat) (w : World) (h : Rdr w g N) (hN : N ≤ 1000000000) :
    Calls Try.prog 22 #[.pointer (some ⟨g, 0, none⟩)] w (Drawn1 (fun d => -1 ≤ d ∧ d ≤ 256) g (N + 1) w) := by
  go_enter Try.func22, Try.ntmps22
  go_wp2_with fail
  refine (one_lit _ [255, 0, 128, 77, 255, 256, -1] _ _ g N w h hN (by simp) (by simp) rfl rfl).mono ?_
  rintro e w' ⟨k, rfl, hk, hr, hg⟩
  have hk' : -1 ≤ k ∧ k ≤ 256 := by simp at hk; omega
  clear hk h
  go_wp2
  go_ret
  exact ⟨k, rfl, hk', hr, hg⟩
def DrawnBl (w : World) (e : Ending) (w' : World) : Prop :=
  ∃ m a b al : Int, e = .returned (.tuple #[.int .i64 m, .int .i64 a, .int .i64 b, .int .i64 al]) ∧ (-1 ≤ m ∧ m ≤ 5) ∧ (-1 ≤ a ∧ a ≤ 256) ∧ (-1 ≤ b ∧ b ≤ 256) ∧ (-1 ≤ al ∧ al ≤ 256) ∧ Below w.heap.size w w'
set_option maxHeartbeats 2000000 in
theorem drawBlend_any (A : Option Addr) (c : Nat) (bs : List Int) (w : World) (hc : bs.length ≤ c) (h : Rdw .u8 w w.heap.size A bs) :
    Calls Try.prog 9 #[.slice A bs.length c] w (DrawnBl w) := by
  go_enter Try.func9, Try.ntmps9
  go_wp2_with fail
  refine (newReader_any A c bs w hc h).mono ?_
  rintro e w1 ⟨rfl, hr1, hb1, hs1⟩
  have Hs := Lib.hid hs1
  clear hs1
  go_wp2_with fail
  refine (anyMode_any _ 0 _ hr1 (by omega)).mono ?_
  rintro e w2 ⟨m, rfl, ⟨hm1, hm2⟩, hr2, hg2⟩
  have hb2 := hb1.trans (hr1.trans hg2)
  clear hb1
  go_wp2_with fail
  refine (pick_any _ _ (0 + 1) _ hr2 (by omega) (by omega)).mono ?_
  intro e w3 hp
  obtain ⟨k, rfl, hk, hr3, hg3, hs3⟩ := picked_nat hp (by omega)
  have hb3 := hb2.trans (hr2.trans hg3)
  clear hp hs3 hb2
  go_wp2_with fail
  refine (pick_any _ _ (0 + 1 + 1) _ hr3 (by omega) (by omega)).mono ?_
  intro e w4 hp
  obtain ⟨j, rfl, hj, hr4, hg4, hs4⟩ := picked_nat hp (by omega)
  have hb4 := hb3.trans (hr3.trans hg4)
  clear hp hs4 hb3
  go_wp2_with fail
  refine (anyAlpha_any _ (0 + 1 + 1 + 1) _ hr4 (by omega)).mono ?_
  rintro e w5 ⟨al, rfl, ⟨hl1, hl2⟩, hr5, hg5⟩
  have hb5 := hb4.trans (hr4.trans hg5)
  clear hb4
  go_wp2
  refine bodyPost_ret (v := .tuple #[.int .i64 m, .int .i64 ((k : Int) - 1), .int .i64 ((j : Int) - 1), .int .i64 al]) (by simp [results, Try.results9, go_sem]) rfl ⟨_, _, _, _, rfl, ⟨hm1, hm2⟩, ⟨by omega, by omega⟩, ⟨by omega, by omega⟩, ⟨hl1, hl2⟩, hb5⟩
end Go.Proofs.Ytakloadpmpffdaa
