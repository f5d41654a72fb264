/- Drawn: a list of tokens. -/
import Derived.Test.YtkfgcpoobbejkaaGrd
import Derived.Test.YtkfgcpoobbejkaaSpoil
namespace Go.Proofs.Ytkfgcpoobbejkaa
open Go.RowKit
set_option linter.unusedSimpArgs false
set_option linter.unusedVariables false
set_option maxRecDepth 20000

theorem gsetT (r : Nat) (u : World) (i : Nat) (x : Value) : u.grownBy (u.setCell ⟨r, i, none⟩ x) (some r) := ⟨rfl, rfl, rfl, by simp [World.setCell], fun k _ hk => heap_setCell_other u ⟨r, i, none⟩ k x (fun e => hk (by simp [e]))⟩
theorem gr_belT {w wr w' : World} {g : Nat} (h : w.grownBy wr (some g)) (hb : Below wr.heap.size wr w') : w.grownBy w' (some g) :=
  ⟨hb.os.trans h.os, hb.tape.trans h.tape, hb.output.trans h.output, Nat.le_trans h.size hb.size, fun i hi hne => (hb.block i (by have := h.size; omega)).trans (h.block i hi hne)⟩
theorem gr_setT {w wr : World} {g b j : Nat} {u : Value} (h : w.grownBy wr (some g)) (hb : w.heap.size ≤ b) : w.grownBy (wr.setCell ⟨b, j, none⟩ u) (some g) :=
  ⟨h.os, h.tape, h.output, by have := h.size; simp [World.setCell]; omega, fun i hi hne => (heap_setCell_other wr ⟨b, j, none⟩ i u (fun e => by have : i = b := e; omega)).trans (h.block i hi hne)⟩
/-- A drawn list of tokens: a row of the call's own, and the reader. -/
def DrT (g N : Nat) (w w' : World) (v : Value) : Prop := ∃ n ys, OwnT 31 3 w' w.heap.size v n ys ∧ n ≤ 300 ∧ Rdr w' g N ∧ w.grownBy w' (some g)
set_option maxHeartbeats 8000000 in
theorem anyTokens_any (g N : Nat) (w : World) (h : Rdr w g N) (hN : N ≤ 10000000) :
    Calls Try.prog 7 #[.pointer (some ⟨g, 0, none⟩)] w fun e w' => ∃ v, e = .returned v ∧ DrT g (N + 500) w w' v := by
  have hgl := h.lt
  have HB := Lib.hid (anyBytes_any g N w h hN)
  clear h
  go_enter Try.func7, Try.ntmps7
  go_wp2_with fail
  refine HB.out.mono ?_
  rintro e w1 ⟨A1, c1, xs, rfl, hxc, hxl, hx, hR1, hG1, hA1⟩
  have HR1 := Lib.hid hR1
  have HG1 := Lib.hid hG1
  have HX1 := Lib.hid hx
  clear hx hR1 hG1 hA1 HB
  go_wp2_with fail
  refine (s_GreedyTokens A1 c1 xs w1 HX1.out (by omega)).mono ?_
  rintro e w2 ⟨v, rfl, n, ys, hO, hn, hb2⟩
  have hg1 := HR1.out.lt
  have HR2 := Lib.hid (HR1.out.below hb2 hg1)
  have HG2 := Lib.hid (gr_belT HG1.out hb2)
  have HO2 : Hid (OwnT 31 3 w2 w.heap.size v n ys) := Lib.hid (hO.base_le HG1.out.size)
  have hn3 : n ≤ 300 := by omega
  by_cases hn0 : 0 < n
  · obtain ⟨gb, cap, rfl, hbg, hlt⟩ := hO.form hn0
    have hgb : gb ≠ g := by omega
    have Hgg : Hid (g < gb) := Lib.hid (by omega)
    have hown : (Value.slice (some ⟨gb, 0, none⟩) n cap).ownBlock ≠ some g := fun e => hgb (by simpa [Value.ownBlock] using e)
    have Hown := Lib.hid hown
    have HwB : Hid (w.heap.size ≤ gb) := Lib.hid (by have := HG1.out.size; omega)
    have hnI : (0 : Int) < (n : Int) := by omega
    clear hO hb2 HR1 HG1 HX1 hbg hlt hown hxc hxl
    go_wp2_with fail
    refine (pick_any 8 g _ w2 HR2.out (by omega) (by omega)).mono ?_
    intro e w3 hp
    obtain ⟨k, rfl, hk, hr3, hg3, hs3⟩ := picked_nat hp (by omega)
    have HO3 := Lib.hid (HO2.out.kept hg3 (.inr Hown.out))
    have HG3 := Lib.hid (gtrans HG2.out hg3)
    have HR3 := Lib.hid hr3
    clear hp hs3 hg3 hr3 HO2 HG2 HR2
    by_cases hk0 : k = 0
    · have hk0' : ((k : Int) == 0) = true := by rw [hk0]; rfl
      clear hk0 hk
      go_wp2_with fail
      refine (pick_any (n : Int) g _ w3 HR3.out (by omega) (by omega)).mono ?_
      intro e w4 hp
      obtain ⟨j, rfl, hj, hr4, hg4, hs4⟩ := picked_nat hp (by omega)
      have HO4 := Lib.hid (HO3.out.kept hg4 (.inr Hown.out))
      have HG4 := Lib.hid (gtrans HG3.out hg4)
      have HR4 := Lib.hid hr4
      clear hp hs4 hg4 hr4 HO3 HG3 HR3
      go_wp2_with fail
      refine (one_lit _ [0, 5, 255, 256, -1] _ _ g _ w4 HR4.out (by omega) (by simp) (by simp) rfl rfl).mono ?_
      rintro e w5 ⟨a, rfl, _, hr5, hg5⟩
      have HO5 := Lib.hid (HO4.out.kept hg5 (.inr Hown.out))
      have HG5 := Lib.hid (gtrans HG4.out hg5)
      have HR5 := Lib.hid hr5
      clear hg5 hr5 HO4 HG4 HR4
      go_wp2_with fail
      refine (one_lit _ [0, 2, 3, 18, 19] _ _ g _ w5 HR5.out (by omega) (by simp) (by simp) rfl rfl).mono ?_
      rintro e w6 ⟨b, rfl, _, hr6, hg6⟩
      have HO6 := Lib.hid (HO5.out.kept hg6 (.inr Hown.out))
      have HG6 := Lib.hid (gtrans HG5.out hg6)
      have HR6 := Lib.hid hr6
      clear hg6 hr6 HO5 HG5 HR5
      go_wp2_with fail
      refine (one_lit _ [0, 1, 64, 65] _ _ g _ w6 HR6.out (by omega) (by simp) (by simp) rfl rfl).mono ?_
      rintro e w7 ⟨d, rfl, _, hr7, hg7⟩
      have HO7 := Lib.hid (HO6.out.kept hg7 (.inr Hown.out))
      have HG7 := Lib.hid (gtrans HG6.out hg7)
      have HR7 := Lib.hid hr7
      clear hg7 hr7 HO6 HG6 HR6
      have hjn : j < n := by omega
      have hln := HO7.out.len
      have c0 := HO7.out.cell (j := j * 3) (by omega)
      have c1 := HO7.out.cell (j := j * 3 + 1) (by omega)
      have c2 := HO7.out.cell (j := j * 3 + 2) (by omega)
      have f0 := HO7.out.frozen (j * 3)
      have f1 := HO7.out.frozen (j * 3 + 1)
      have f2 := HO7.out.frozen (j * 3 + 2)
      have hlb := (HO7.out.lt gb rfl).2
      generalize ys.getD (j * 3) 0 = y0 at c0
      generalize ys.getD (j * 3 + 1) 0 = y1 at c1
      generalize ys.getD (j * 3 + 2) 0 = y2 at c2
      have HE : Hid (DrT g (N + 500) w (((w7.setCell ⟨gb, j * 3, none⟩ (.int .i64 a)).setCell ⟨gb, j * 3 + 1, none⟩ (.int .i64 b)).setCell ⟨gb, j * 3 + 2, none⟩ (.int .i64 d)) (.slice (some ⟨gb, 0, none⟩) n cap)) := Lib.hid (by
        obtain ⟨o1, _⟩ := HO7.out.put (j * 3) a
        obtain ⟨o2, _⟩ := o1.put (j * 3 + 1) b
        obtain ⟨o3, _⟩ := o2.put (j * 3 + 2) d
        refine ⟨n, _, o3, hn3, ?_, gr_setT (gr_setT (gr_setT HG7.out HwB.out) HwB.out) HwB.out⟩
        exact (((HR7.out.more (show _ ≤ N + 500 by omega)).grown (gsetT gb _ (j * 3) _) (fun k hk => by cases hk; exact Hgg.out)).grown (gsetT gb _ (j * 3 + 1) _) (fun k hk => by cases hk; exact Hgg.out)).grown (gsetT gb _ (j * 3 + 2) _) (fun k hk => by cases hk; exact Hgg.out))
      clear HO7 HG7 HR7 hln hj
      go_wp2
      go_ret
      exact ⟨_, rfl, HE.out⟩
    · have hk0' : ((k : Int) == 0) = false := beq_eq_false_iff_ne.2 (by omega)
      have HE : Hid (DrT g (N + 500) w w3 (.slice (some ⟨gb, 0, none⟩) n cap)) := Lib.hid ⟨n, _, HO3.out, hn3, HR3.out.more (by omega), HG3.out⟩
      clear HO3 HG3 HR3
      go_wp2
      go_ret
      exact ⟨_, rfl, HE.out⟩
  · have e0 : n = 0 := by omega
    subst e0
    obtain ⟨A2, c2, rfl, hc2⟩ := hO.slice
    have HE : Hid (DrT g (N + 500) w w2 (.slice A2 0 c2)) := Lib.hid ⟨0, _, HO2.out, by omega, HR2.out.more (by omega), HG2.out⟩
    clear hO hb2 HO2 HR2 HG2 HR1 HG1 HX1
    go_wp2
    go_ret
    exact ⟨_, rfl, HE.out⟩
def DrawnTk (w : World) (e : Ending) (w' : World) : Prop := ∃ v n ys, e = .returned v ∧ n ≤ 300 ∧ OwnT 31 3 w' w.heap.size v n ys ∧ Below w.heap.size w w'
set_option maxHeartbeats 4000000 in
theorem drawTok_any (A : Option Addr) (c : Nat) (bs : List Int) (w : World) (hc : bs.length ≤ c) (h : Rdw .u8 w w.heap.size A bs) :
    Calls Try.prog 4 #[.slice A bs.length c] w (DrawnTk w) := by
  go_enter Try.func4, Try.ntmps4
  go_wp2_with fail
  refine (newReader_any A c bs w hc h).mono ?_
  rintro e w1 ⟨rfl, hr1, hb1, hs1⟩
  clear hs1
  go_wp2_with fail
  refine (anyTokens_any _ 0 w1 hr1 (by omega)).mono ?_
  rintro e w2 ⟨v, rfl, n, ys, hO, hn, hr2, hg2⟩
  have HE : Hid (DrawnTk w (.returned v) w2) := Lib.hid ⟨v, n, ys, rfl, hn, hO.base_le hb1.size, hb1.trans (hr1.trans hg2)⟩
  clear hO hg2 hb1 hr1 hr2
  go_wp2
  go_ret
  exact HE.out
end Go.Proofs.Ytkfgcpoobbejkaa
