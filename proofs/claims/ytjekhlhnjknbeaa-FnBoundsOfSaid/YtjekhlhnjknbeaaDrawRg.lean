/- Contracts of the drawing of arguments that are regions. -/
import Derived.Test.YtjekhlhnjknbeaaDrawReg
namespace Go.Proofs.Ytjekhlhnjknbeaa
open Go.RowKit
set_option linter.unusedSimpArgs false
set_option linter.unusedVariables false
set_option maxRecDepth 20000

/-- Drawn: a list of runs. -/
def DrawnL (w : World) (e : Ending) (w' : World) : Prop :=
  ∃ v n xs, e = .returned v ∧ n ≤ 300 ∧ OwnT 75 3 w' w.heap.size v n xs ∧ Below w.heap.size w w'
set_option maxHeartbeats 4000000 in
theorem drawArea_any (A : Option Addr) (c : Nat) (bs : List Int) (w : World) (hc : bs.length ≤ c) (h : Rdw .u8 w w.heap.size A bs) :
    Calls Try.prog 29 #[.slice A bs.length c] w (DrawnL w) := by
  go_enter Try.func29, Try.ntmps29
  go_wp2_with fail
  refine (newReader_any A c bs w hc h).mono ?_
  rintro e w1 ⟨rfl, hr1, hb1, hs1⟩
  clear hs1
  go_wp2_with fail
  refine (anyRegion_any _ 0 w1 hr1 (by omega)).mono ?_
  rintro e w2 ⟨v, n, xs, rfl, hn, hO, hr2, hg2⟩
  have HE : Hid (OwnT 75 3 w2 w.heap.size v n xs ∧ Below w.heap.size w w2) := Lib.hid ⟨hO.base_le hb1.size, hb1.trans (hr1.trans hg2)⟩
  clear hO hg2 hb1 hr1 hr2
  go_wp2
  go_ret
  exact ⟨v, n, xs, rfl, hn, HE.out.1, HE.out.2⟩
set_option maxHeartbeats 4000000 in
theorem drawValid_any (A : Option Addr) (c : Nat) (bs : List Int) (w : World) (hc : bs.length ≤ c) (h : Rdw .u8 w w.heap.size A bs) :
    Calls Try.prog 37 #[.slice A bs.length c] w (DrawnL w) := by
  go_enter Try.func37, Try.ntmps37
  go_wp2_with fail
  refine (newReader_any A c bs w hc h).mono ?_
  rintro e w1 ⟨rfl, hr1, hb1, hs1⟩
  clear hs1
  go_wp2_with fail
  refine (anyRegion_any _ 0 w1 hr1 (by omega)).mono ?_
  rintro e w2 ⟨v, n, xs, rfl, hn, hO, hr2, hg2⟩
  have HE : Hid (OwnT 75 3 w2 w.heap.size v n xs ∧ Below w.heap.size w w2) := Lib.hid ⟨hO.base_le hb1.size, hb1.trans (hr1.trans hg2)⟩
  clear hO hg2 hb1 hr1 hr2
  go_wp2
  go_ret
  exact ⟨v, n, xs, rfl, hn, HE.out.1, HE.out.2⟩
set_option maxHeartbeats 4000000 in
theorem drawBounds_any (A : Option Addr) (c : Nat) (bs : List Int) (w : World) (hc : bs.length ≤ c) (h : Rdw .u8 w w.heap.size A bs) :
    Calls Try.prog 42 #[.slice A bs.length c] w (DrawnL w) := by
  go_enter Try.func42, Try.ntmps42
  go_wp2_with fail
  refine (newReader_any A c bs w hc h).mono ?_
  rintro e w1 ⟨rfl, hr1, hb1, hs1⟩
  clear hs1
  go_wp2_with fail
  refine (anyRegion_any _ 0 w1 hr1 (by omega)).mono ?_
  rintro e w2 ⟨v, n, xs, rfl, hn, hO, hr2, hg2⟩
  have HE : Hid (OwnT 75 3 w2 w.heap.size v n xs ∧ Below w.heap.size w w2) := Lib.hid ⟨hO.base_le hb1.size, hb1.trans (hr1.trans hg2)⟩
  clear hO hg2 hb1 hr1 hr2
  go_wp2
  go_ret
  exact ⟨v, n, xs, rfl, hn, HE.out.1, HE.out.2⟩
def DrawnL2 (w : World) (e : Ending) (w' : World) : Prop :=
  ∃ v n xs, ∃ x y : Int, e = .returned (.tuple #[v, .int .i64 x, .int .i64 y]) ∧ (n ≤ 300 ∧ -1 ≤ x ∧ x ≤ 100 ∧ -1 ≤ y ∧ y ≤ 100) ∧ OwnT 75 3 w' w.heap.size v n xs ∧ Below w.heap.size w w'
set_option maxHeartbeats 4000000 in
theorem anyPlR_any (g N : Nat) (w : World) (h : Rdr w g N) (hN : N ≤ 1000000000) :
    Calls Try.prog 74 #[.pointer (some ⟨g, 0, none⟩)] w (Drawn1 (fun d => -1 ≤ d ∧ d ≤ 100) g (N + 1) w) := by
  go_enter Try.func74, Try.ntmps74
  go_wp2_with fail
  refine (one_lit _ [0, 1, 2, 3, 5, 7, -1, 15, 16] _ _ g N w h hN (by simp) (by simp) rfl rfl).mono ?_
  rintro e w' ⟨k, rfl, hk, hr, hg⟩
  have hk' : -1 ≤ k ∧ k ≤ 100 := by simp at hk; omega
  clear hk h
  go_wp2
  go_ret
  exact ⟨k, rfl, hk', hr, hg⟩
set_option maxHeartbeats 4000000 in
theorem drawHas_any (A : Option Addr) (c : Nat) (bs : List Int) (w : World) (hc : bs.length ≤ c) (h : Rdw .u8 w w.heap.size A bs) :
    Calls Try.prog 33 #[.slice A bs.length c] w (DrawnL2 w) := by
  go_enter Try.func33, Try.ntmps33
  go_wp2_with fail
  refine (newReader_any A c bs w hc h).mono ?_
  rintro e w1 ⟨rfl, hr1, hb1, hs1⟩
  clear hs1
  go_wp2_with fail
  refine (anyRegion_any _ 0 w1 hr1 (by omega)).mono ?_
  rintro e w2 ⟨v, n, xs, rfl, hn, hO, hr2, hg2⟩
  have hown : v.ownBlock ≠ some w.heap.size := fun e => by have := (hO.lt _ e).1; have := hr1.lt; omega
  have HB2 := Lib.hid (hb1.trans (hr1.trans hg2))
  have HO2 := Lib.hid (hO.base_le hb1.size)
  have HR1 := Lib.hid hr1
  clear hO hg2 hb1 hr1
  go_wp2_with fail
  refine (anyPlR_any _ (0 + 300) w2 hr2 (by omega)).mono ?_
  rintro e w3 ⟨x, rfl, hx, hr3, hg3⟩
  have HO3 := Lib.hid (HO2.out.kept hg3 (.inr hown))
  have HB3 := Lib.hid (HB2.out.trans (hr2.trans hg3))
  clear HO2 HB2 hr2 hg3
  go_wp2_with fail
  refine (anyPlR_any _ (0 + 300 + 1) w3 hr3 (by omega)).mono ?_
  rintro e w4 ⟨y, rfl, hy, hr4, hg4⟩
  have HO4 := Lib.hid (HO3.out.kept hg4 (.inr hown))
  have HB4 := Lib.hid (HB3.out.trans (hr3.trans hg4))
  clear HO3 HB3 hr3 hg4 hr4
  go_wp2
  exact bodyPost_ret (v := .tuple #[v, .int .i64 x, .int .i64 y]) (by simp [results, Try.results33, go_sem]) rfl ⟨v, n, xs, x, y, rfl, by omega, HO4.out, HB4.out⟩
end Go.Proofs.Ytjekhlhnjknbeaa
