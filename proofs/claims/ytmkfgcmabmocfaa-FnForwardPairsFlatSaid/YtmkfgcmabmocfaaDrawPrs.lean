/- Contracts of the drawing of lists of pairs. -/
import Derived.Test.YtmkfgcmabmocfaaSpoil
namespace Go.Proofs.Ytmkfgcmabmocfaa
open Go.RowKit
set_option linter.unusedSimpArgs false
set_option linter.unusedVariables false

/-- Drawn: a list of few numbers. -/
def DrawnPr (w : World) (e : Ending) (w' : World) : Prop :=
  ∃ (A : Option Addr) (c : Nat) (xs : List Int), e = .returned (.slice A xs.length c) ∧ xs.length ≤ c ∧ xs.length ≤ 100 ∧ Rds .i64 w' w'.heap.size A xs ∧ Below w.heap.size w w'
theorem one_litP (cs : Array Value) (xs : List Int) (n c p : Nat) (g N : Nat) (w : World) (hp : p = w.heap.size) (h : Rdr w g N) (hN : N ≤ 1000000000) (hx : 0 < xs.length) (hl : xs.length ≤ 1000) (hn : n = xs.length) (hcs : cs.toList = xs.map (.int .i64)) :
    Calls Try.prog 91 #[.pointer (some ⟨g, 0, none⟩), .slice (some ⟨p, 0, none⟩) n c] (w.alloc (.cells cs 3)) fun e w' => ∃ k : Int, e = .returned (.int .i64 k) ∧ k ∈ xs ∧ Rdr w' g (N + 1) ∧ w.grownBy w' (some g) := by
  subst hp
  exact one_lit cs xs n c g N w h hN hx hl hn hcs
/-- What the drawing keeps: a row of its own, the reader. -/
def Prd (g N : Nat) (w wr : World) (v : Value) (ys : List Int) : Prop := Own wr w.heap.size v ys ∧ Rdr wr g N ∧ w.grownBy wr (some g)
theorem Prd.pick {g N : Nat} {w wr w2 : World} {v : Value} {ys : List Int} (h : Prd g N w wr v ys) (hgl : g < w.heap.size) (hR : Rdr w2 g (N + 1)) (hG : wr.grownBy w2 (some g)) : Prd g (N + 1) w w2 v ys := ⟨h.1.off hG hgl, hR, gtrans h.2.2 hG⟩
theorem Prd.app {g N : Nat} {w wr w3 : World} {v v3 : Value} {ys : List Int} {x : Int} (h : Prd g N w wr v ys) (hgl : g < w.heap.size) (hO : Own w3 w.heap.size v3 (ys ++ [x])) (hG : (wr.alloc (.cells #[.int .i64 x] 3)).grownBy w3 v.ownBlock) : Prd g N w w3 v3 (ys ++ [x]) :=
  ⟨hO, (h.2.1.alloc _).grown hG (fun j hj => by have := (h.1.lt j hj).1; omega), gmix (gtrans h.2.2 (World.grownBy_alloc wr _ (some g))) hG (fun j hj => (h.1.lt j hj).1)⟩
theorem Prd.more {g N N' : Nat} {w wr : World} {v : Value} {ys : List Int} (h : Prd g N w wr v ys) (hN : N ≤ N') : Prd g N' w wr v ys := ⟨h.1, h.2.1.more hN, h.2.2⟩
set_option maxHeartbeats 8000000 in
theorem anyPairs_any (g N : Nat) (w : World) (h : Rdr w g N) (hN : N ≤ 10000000) :
    Calls Try.prog 45 #[.pointer (some ⟨g, 0, none⟩)] w fun e w' => ∃ (A : Option Addr) (c : Nat) (ys : List Int), e = .returned (.slice A ys.length c) ∧ ys.length ≤ c ∧ ys.length ≤ 100 ∧ Rds .i64 w' w'.heap.size A ys ∧ w.grownBy w' (some g) := by
  have hgl := h.lt
  have HO0 : Hid (Own (w.alloc (.cells #[] 3)) w.heap.size (.slice (some ⟨w.heap.size, 0, none⟩) 0 0) []) := Lib.hid (own_none w)
  have HR0 : Hid (Rdr (w.alloc (.cells #[] 3)) g N) := Lib.hid (h.alloc _)
  have HG0 : Hid (w.grownBy (w.alloc (.cells #[] 3)) (some g)) := Lib.hid (World.grownBy_alloc w _ _)
  clear h
  go_enter Try.func45, Try.ntmps45
  go_wp2_with fail
  refine (one_litP _ [4, 5, 8, 1, 0, 2, 64, 65] 8 8 _ g N _ (by simp) HR0.out (by omega) (by simp) (by simp) rfl rfl).mono ?_
  rintro e w1 ⟨n0, rfl, hn0, hR1, hG1⟩
  have hnb : 0 ≤ n0 ∧ n0 ≤ 65 := by simp at hn0; omega
  obtain ⟨r0, rfl⟩ := Int.eq_ofNat_of_zero_le hnb.1
  have hr65 : r0 ≤ 65 := by omega
  have HI0 : Hid (Prd g (N + 1) w w1 (.slice (some ⟨w.heap.size, 0, none⟩) 0 0) []) := Lib.hid ⟨HO0.out.off hG1 hgl, hR1, gtrans HG0.out hG1⟩
  clear hn0 hnb hR1 hG1 HO0 HR0 HG0
  go_wp2
  go_loopw [3, 4] (fun v i wr => ∃ (r : Nat) (ys : List Int), r ≤ 65 ∧ i = .int .i64 (r : Int) ∧ ys.length ≤ 65 - r ∧ Hid (Prd g (N + 1 + (65 - r)) w wr v ys)) (fun _ i _ => (intOf i).toNat)
  case atStart => exact ⟨r0, [], hr65, rfl, by simp, Lib.hid (HI0.out.more (by omega))⟩
  case round =>
    obtain ⟨r, ys, hr, rfl, hyl, hI⟩ := hrel
    obtain ⟨A1, c1, rfl, hc1⟩ := hI.out.1.slice
    by_cases hr0 : (r : Int) > 0
    · have hr1 : 1 ≤ r := by omega
      have Hr1 := Lib.hid (show ((r : Int) - 1) = ((r - 1 : Nat) : Int) by omega)
      obtain ⟨N1, hN1⟩ : ∃ N1, N1 = N + 1 + (65 - r) := ⟨_, rfl⟩
      rw [← hN1] at hI
      have hNN : Hid (N1 + 1 = N + 1 + (65 - (r - 1))) := Lib.hid (by omega)
      have hN1b : N1 ≤ 20000000 := by omega
      clear hN1 HI0
      go_wp2_with fail
      refine (pick_any 40 g N1 wr hI.out.2.1 (by omega) (by omega)).mono ?_
      intro e w2 hp
      obtain ⟨t, rfl, ht, hR2, hG2, hss⟩ := picked_nat hp (by omega)
      clear hss
      have HI2 := Lib.hid (hI.out.pick hgl hR2 hG2)
      obtain ⟨x, hx⟩ : ∃ x, x = (t : Int) - 20 := ⟨_, rfl⟩
      have hxw : IntKind.i64.wrap ((t : Int) - 20) = x := by rw [hx]; exact IntWalk.i64_in _ (by omega)
      have hxe : (t : Int) - 20 = x := hx.symm
      have HA := Lib.hid (show Own (w2.alloc (.cells #[.int .i64 x] 3)) w.heap.size (.slice A1 ys.length c1) ys from HI2.out.1.alloc _)
      have HQ := Lib.hid (rds_one w2 x)
      have hzw : w.heap.size ≤ w2.heap.size := HI2.out.2.2.size
      clear hp hR2 hG2 hI hx
      go_wp2_with (at_builtin; refine wpList_app rfl (.tmp 13) (.tmp 17) rfl w.heap.size (.slice A1 ys.length c1) ys rfl HA.out (some ⟨w2.heap.size, 0, none⟩) 1 1 _ [x] rfl rfl HQ.out (by simp; omega) (by simp; omega) ?_; intro v3 w5 hO5 hG5)
      have HN : Hid (Prd g (N + 1 + (65 - (r - 1))) w w5 v3 (ys ++ [x])) := Lib.hid ((HI2.out.app hgl hO5 hG5).more (by have := hNN.out; omega))
      have HL : Hid ((ys ++ [x]).length = ys.length + 1) := Lib.hid (by simp)
      clear hO5 hG5 HA HQ HI2 hxw hxe
      go_roundw
      case rel => exact ⟨r - 1, ys ++ [x], by omega, by first | rw [Hr1.out] | go_num, by rw [HL.out]; omega, HN⟩
      case measure => simp [intOf]; omega
    · have HG := Lib.hid hI.out.2.2
      have HZ : Hid (∀ {u : World}, wr.grownBy u (some g) → w.grownBy u (some g)) := Lib.hid (fun h => gtrans HG.out h)
      clear HI0
      go_wp2_with fail
      refine (spoil_any A1 c1 ys 1000 g (N + 1 + (65 - r)) wr hI.out.2.1 (by omega) hI.out.1.rds.2 (by omega)).mono ?_
      rintro e w2 ⟨A2, c2, zs, rfl, hz1, hz2, hr2, hR2, hG2, hA2⟩
      have HE := Lib.hid (show Rds .i64 w2 w2.heap.size A2 zs ∧ w.grownBy w2 (some g) from ⟨hr2, HZ.out hG2⟩)
      clear hr2 hR2 hG2 hA2 hI
      go_wp2
      go_ret
      exact ⟨A2, c2, zs, rfl, hz1, by omega, HE.out.1, HE.out.2⟩
set_option maxHeartbeats 4000000 in
theorem dFw_any (A : Option Addr) (c : Nat) (bs : List Int) (w : World) (hc : bs.length ≤ c) (h : Rdw .u8 w w.heap.size A bs) :
    Calls Try.prog 15 #[.slice A bs.length c] w (DrawnPr w) := by
  go_enter Try.func15, Try.ntmps15
  go_wp2_with fail
  refine (newReader_any A c bs w hc h).mono ?_
  rintro e w1 ⟨rfl, hr1, hb1, hs1⟩
  have Hs := Lib.hid hs1
  clear hs1
  go_wp2_with fail
  refine (anyPairs_any w.heap.size 0 w1 hr1 (by omega)).mono ?_
  rintro e w2 ⟨A2, c2, ys, rfl, hyc, hyl, hr, hG2⟩
  have HZ := Lib.hid (show Below w.heap.size w w2 from hb1.trans (hr1.trans hG2))
  have Hr := Lib.hid hr
  clear hr hG2 hb1 hr1
  go_wp2
  go_ret
  exact ⟨A2, c2, ys, rfl, hyc, hyl, Hr.out, HZ.out⟩
set_option maxHeartbeats 4000000 in
theorem dBk_any (A : Option Addr) (c : Nat) (bs : List Int) (w : World) (hc : bs.length ≤ c) (h : Rdw .u8 w w.heap.size A bs) :
    Calls Try.prog 20 #[.slice A bs.length c] w (DrawnPr w) := by
  go_enter Try.func20, Try.ntmps20
  go_wp2_with fail
  refine (newReader_any A c bs w hc h).mono ?_
  rintro e w1 ⟨rfl, hr1, hb1, hs1⟩
  have Hs := Lib.hid hs1
  clear hs1
  go_wp2_with fail
  refine (anyPairs_any w.heap.size 0 w1 hr1 (by omega)).mono ?_
  rintro e w2 ⟨A2, c2, ys, rfl, hyc, hyl, hr, hG2⟩
  have HZ := Lib.hid (show Below w.heap.size w w2 from hb1.trans (hr1.trans hG2))
  have Hr := Lib.hid hr
  clear hr hG2 hb1 hr1
  go_wp2
  go_ret
  exact ⟨A2, c2, ys, rfl, hyc, hyl, Hr.out, HZ.out⟩
end Go.Proofs.Ytmkfgcmabmocfaa
