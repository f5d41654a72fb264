/- Contracts of the drawing of a filter's arguments. -/
import Derived.Test.YtfplmegpkhlhfaaDrawRows
namespace Go.Proofs.Ytfplmegpkhlhfaa
open Go.RowKit
set_option linter.unusedSimpArgs false
set_option linter.unusedVariables false

theorem res4 {fn : Func} {t u v x : Tmp} (h : fn.results = #[.tmp t, .tmp u, .tmp v, .tmp x]) (tmps : Array Value) (P : Program) (w : World) :
    (results fn tmps).run P w = .ok (.tuple #[tmps.getD t undef, tmps.getD u undef, tmps.getD v undef, tmps.getD x undef]) w := by simp [results, h]
set_option maxHeartbeats 1000000 in
theorem anyKind_any (g N : Nat) (w : World) (h : Rdr w g N) (hN : N ≤ 10000000) :
    Calls Try.prog 9 #[.pointer (some ⟨g, 0, none⟩)] w (Drawn1 (fun _ => True) g (N + 1) w) := by
  go_enter Try.func9, Try.ntmps9
  go_wp2_with fail
  refine (one_lit _ [0, 1, 2, 3, 4, 4, 3, 5, -1] 9 9 g N w h (by omega) (by simp) (by simp) rfl rfl).mono ?_
  rintro e w3 ⟨m, rfl, hm, hR3, hG3⟩
  clear hm
  go_wp2
  go_ret
  exact ⟨m, rfl, trivial, hR3, hG3⟩
/-- Drawn: a kind, two rows, a step. -/
def DrawnF (w : World) (e : Ending) (w' : World) : Prop :=
  ∃ (k st : Int) (A A' : Option Addr) (c c' : Nat) (xs bs : List Int), e = .returned (.tuple #[.int .i64 k, .slice A xs.length c, .slice A' bs.length c', .int .i64 st]) ∧ xs.length ≤ 13 ∧ bs.length ≤ 12 ∧ Rds .i64 w' w'.heap.size A xs ∧ Rds .i64 w' w'.heap.size A' bs ∧ Below w.heap.size w w'
set_option maxHeartbeats 2000000 in
theorem drawFilterRow_any (A : Option Addr) (c : Nat) (bs : List Int) (w : World) (hc : bs.length ≤ c) (h : Rdw .u8 w w.heap.size A bs) :
    Calls Try.prog 4 #[.slice A bs.length c] w (DrawnF w) := by
  go_enter Try.func4, Try.ntmps4
  go_wp2_with fail
  refine (newReader_any A c bs w hc h).mono ?_
  rintro e w1 ⟨rfl, hr1, hb1, hs1⟩
  have Hs := Lib.hid hs1
  clear hs1 h
  go_wp2_with fail
  refine (anyKind_any _ 0 _ hr1 (by omega)).mono ?_
  rintro e w2 ⟨k, rfl, _, hr2, hg2⟩
  have hb2 := hb1.trans (hr1.trans hg2)
  have hgl := hr2.lt
  clear hb1 hr1 hg2 Hs
  go_wp2_with fail
  refine (anyRows_any _ (0 + 1) _ hr2 (by omega)).mono ?_
  rintro e w3 ⟨A3, A4, c3, c4, xs, ys, rfl, hx, hy, hX, hY, hr3, hg3, hge3, hge4⟩
  have hb3 := hb2.trans (hr2.trans hg3)
  have HX := Lib.hid hX
  have HY := Lib.hid hY
  have Hg3 := Lib.hid hge3
  have Hg4 := Lib.hid hge4
  clear hX hY hge3 hge4 hr2 hb2 hg3
  go_wp2_with fail
  refine (one_lit _ [1, 3, 4, 2, 0, 5] 6 6 w.heap.size _ w3 hr3 (by omega) (by simp) (by simp) rfl rfl).mono ?_
  rintro e w4 ⟨st, rfl, _, hr4, hg4⟩
  have hb4 := hb3.trans (hr3.trans hg4)
  have HX4 := Lib.hid ((HX.out.offG (Nat.le_refl _) Hg3.out hg4 (by omega)).more hg4.size)
  have HY4 := Lib.hid ((HY.out.offG (Nat.le_refl _) Hg4.out hg4 (by omega)).more hg4.size)
  clear HX HY Hg3 Hg4 hr3 hb3 hg4 hr4
  go_wp2
  refine bodyPost_ret (res4 rfl _ _ _) rfl ?_
  exact ⟨k, st, A3, A4, c3, c4, xs, ys, rfl, hx, hy, HX4.out, HY4.out, hb4⟩
end Go.Proofs.Ytfplmegpkhlhfaa
