/- Contracts of the drawing of chapter 3's inputs. -/
import Derived.Test.YtpkeliinnkhpoaaSpoil
namespace Go.Proofs.Ytpkeliinnkhpoaa
open Go.RowKit
set_option linter.unusedSimpArgs false
set_option linter.unusedVariables false

set_option maxHeartbeats 1000000 in
theorem anyDepth_any (g N : Nat) (w : World) (h : Rdr w g N) (hN : N ≤ 1000000000) :
    Calls Try.prog 62 #[.pointer (some ⟨g, 0, none⟩)] w (Drawn1 (fun d => 0 ≤ d ∧ d ≤ 8) g (N + 1) w) := by
  go_enter Try.func62, Try.ntmps62
  go_wp2_with fail
  refine (one_lit _ [1, 2, 4, 8, 1, 4, 3, 0] _ _ g N w h hN (by simp) (by simp) rfl rfl).mono ?_
  rintro e w' ⟨k, rfl, hk, hr, hg⟩
  have hk' : 0 ≤ k ∧ k ≤ 8 := by simp at hk; omega
  clear hk h
  go_wp2
  go_ret
  exact ⟨k, rfl, hk', hr, hg⟩

def Drawn2 (w : World) (e : Ending) (w' : World) : Prop :=
  ∃ n d : Int, e = .returned (.tuple #[.int .i64 n, .int .i64 d]) ∧ -1 ≤ n ∧ n ≤ 1000 ∧ 0 ≤ d ∧ d ≤ 8 ∧ Below w.heap.size w w'
set_option maxHeartbeats 1000000 in
theorem drawReduceDepth_any (A : Option Addr) (c : Nat) (bs : List Int) (w : World) (hc : bs.length ≤ c) (h : Rdw .u8 w w.heap.size A bs) :
    Calls Try.prog 29 #[.slice A bs.length c] w (Drawn2 w) := by
  go_enter Try.func29, Try.ntmps29
  go_wp2_with fail
  refine (newReader_any A c bs w hc h).mono ?_
  rintro e w1 ⟨rfl, hr1, hb1, hs1⟩
  have Hs := Lib.hid hs1
  clear hs1
  go_wp2_with fail
  refine (pick_any _ _ 0 _ hr1 (by omega) (by omega)).mono ?_
  intro e w2 hp
  obtain ⟨k, rfl, hk, hr2, hg2, hs2⟩ := picked_nat hp (by omega)
  have hb2 := hr1.trans hg2
  clear hp hs2
  go_wp2_with fail
  refine (anyDepth_any _ 1 _ hr2 (by omega)).mono ?_
  rintro e w3 ⟨d, rfl, ⟨hd1, hd2⟩, hr3, hg3⟩
  have hb3 := hr2.trans hg3
  go_wp2
  go_ret2
  exact ⟨_, _, rfl, by omega, by omega, hd1, hd2, (hb1.trans hb2).trans hb3⟩
end Go.Proofs.Ytpkeliinnkhpoaa
