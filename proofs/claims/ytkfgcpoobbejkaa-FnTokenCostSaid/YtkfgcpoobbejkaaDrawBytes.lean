/- Contracts of the drawing of bytes with repetitions. -/
import Derived.Test.YtkfgcpoobbejkaaDrawFill
namespace Go.Proofs.Ytkfgcpoobbejkaa
open Go.RowKit
set_option linter.unusedSimpArgs false
set_option linter.unusedVariables false

theorem one_litY (cs : Array Value) (xs : List Int) (n c p : Nat) (g N : Nat) (w : World) (hp : p = w.heap.size) (h : Rdr w g N) (hN : N ≤ 1000000000) (hx : 0 < xs.length) (hl : xs.length ≤ 1000) (hn : n = xs.length) (hcs : cs.toList = xs.map (.int .i64)) :
    Calls Try.prog 13 #[.pointer (some ⟨g, 0, none⟩), .slice (some ⟨p, 0, none⟩) n c] (w.alloc (.cells cs 3)) fun e w' => ∃ k : Int, e = .returned (.int .i64 k) ∧ k ∈ xs ∧ Rdr w' g (N + 1) ∧ w.grownBy w' (some g) := by
  subst hp
  exact one_lit cs xs n c g N w h hN hx hl hn hcs
/-- What the drawing keeps: a row of its own, the reader. -/
def Byd (g N : Nat) (w wr : World) (v : Value) (ys : List Int) : Prop := Own wr w.heap.size v ys ∧ Rdr wr g N ∧ w.grownBy wr (some g)
theorem Byd.pick {g N : Nat} {w wr w2 : World} {v : Value} {ys : List Int} (h : Byd g N w wr v ys) (hgl : g < w.heap.size) (hR : Rdr w2 g (N + 1)) (hG : wr.grownBy w2 (some g)) : Byd g (N + 1) w w2 v ys := ⟨h.1.off hG hgl, hR, gtrans h.2.2 hG⟩
theorem Byd.app {g N : Nat} {w wr w3 : World} {v v3 : Value} {ys : List Int} {x : Int} (h : Byd g N w wr v ys) (hgl : g < w.heap.size) (hO : Own w3 w.heap.size v3 (ys ++ [x])) (hG : (wr.alloc (.cells #[.int .i64 x] 3)).grownBy w3 v.ownBlock) : Byd g N w w3 v3 (ys ++ [x]) :=
  ⟨hO, (h.2.1.alloc _).grown hG (fun j hj => by have := (h.1.lt j hj).1; omega), gmix (gtrans h.2.2 (World.grownBy_alloc wr _ (some g))) hG (fun j hj => (h.1.lt j hj).1)⟩
theorem Byd.more {g N N' : Nat} {w wr : World} {v : Value} {ys : List Int} (h : Byd g N w wr v ys) (hN : N ≤ N') : Byd g N' w wr v ys := ⟨h.1, h.2.1.more hN, h.2.2⟩
set_option maxHeartbeats 8000000 in
theorem anyBytes_any (g N : Nat) (w : World) (h : Rdr w g N) (hN : N ≤ 10000000) :
    Calls Try.prog 11 #[.pointer (some ⟨g, 0, none⟩)] w (DrawnL 300 g (N + 400) w) := by
  have hgl := h.lt
  have HO0 : Hid (Own (w.alloc (.cells #[] 3)) w.heap.size (.slice (some ⟨w.heap.size, 0, none⟩) 0 0) []) := Lib.hid (own_none w)
  have HR0 : Hid (Rdr (w.alloc (.cells #[] 3)) g N) := Lib.hid (h.alloc _)
  have HG0 : Hid (w.grownBy (w.alloc (.cells #[] 3)) (some g)) := Lib.hid (World.grownBy_alloc w _ _)
  clear h
  go_enter Try.func11, Try.ntmps11
  go_wp2_with fail
  refine (one_litY _ [6, 12, 20, 3, 1, 0, 30] 7 7 _ g N _ (by simp) HR0.out (by omega) (by simp) (by simp) rfl rfl).mono ?_
  rintro e w1 ⟨n0, rfl, hn0, hR1, hG1⟩
  have hnb : 0 ≤ n0 ∧ n0 ≤ 30 := by simp at hn0; omega
  obtain ⟨r0, rfl⟩ := Int.eq_ofNat_of_zero_le hnb.1
  have hr30 : r0 ≤ 30 := by omega
  have HI0 : Hid (Byd g (N + 1) w w1 (.slice (some ⟨w.heap.size, 0, none⟩) 0 0) []) := Lib.hid ⟨HO0.out.off hG1 hgl, hR1, gtrans HG0.out hG1⟩
  clear hn0 hnb hR1 hG1 HO0 HR0 HG0
  go_wp2
  go_loopw [3, 4] (fun v i wr => ∃ (r : Nat) (ys : List Int), r ≤ 30 ∧ i = .int .i64 (r : Int) ∧ ys.length ≤ (30 - r) * 9 ∧ Hid (Byd g (N + 1 + (30 - r) * 12) w wr v ys)) (fun _ i _ => (intOf i).toNat)
  case atStart => exact ⟨r0, [], hr30, rfl, by simp, Lib.hid (HI0.out.more (by omega))⟩
  case round =>
    obtain ⟨r, ys, hr, rfl, hyl, hI⟩ := hrel
    obtain ⟨A1, c1, rfl, hc1⟩ := hI.out.1.slice
    have hy270 : ys.length ≤ 270 := by omega
    by_cases hr0 : (r : Int) > 0
    · have hr1 : 1 ≤ r := by omega
      have hrn : r - 1 ≤ 30 := by omega
      have hstep : ys.length + 9 ≤ (30 - (r - 1)) * 9 := by omega
      have Hst := Lib.hid (show (30 - (r - 1)) * 12 = (30 - r) * 12 + 12 by omega)
      have Hr1 := Lib.hid (show ((r : Int) - 1) = ((r - 1 : Nat) : Int) by omega)
      obtain ⟨N1, hN1⟩ : ∃ N1, N1 = N + 1 + (30 - r) * 12 := ⟨_, rfl⟩
      rw [← hN1] at hI
      have hN1b : N1 ≤ 20000000 := by omega
      have HN1 := Lib.hid hN1
      have hNN : Hid (N1 + 12 = N + 1 + (30 - (r - 1)) * 12) := Lib.hid (by rw [Hst.out]; omega)
      clear hN1 HI0 Hst
      by_cases h3 : 3 < ys.length
      · have h3' : (3 : Int) < (ys.length : Int) := by omega
        go_wp2_with fail
        refine (pick_any 3 g N1 wr hI.out.2.1 (by omega) (by omega)).mono ?_
        intro e w2 hp
        obtain ⟨t, rfl, ht, hR2, hG2, hss⟩ := picked_nat hp (by omega)
        clear hss
        have HI2 := Lib.hid (hI.out.pick hgl hR2 hG2)
        clear hp hR2 hG2 hI
        generalize hT : (t : Int) = T at ht ⊢
        clear hT
        by_cases ht0 : T = 0
        · subst ht0
          go_wp2_with fail
          refine (pick_any (ys.length : Int) g (N1 + 1) w2 HI2.out.2.1 (by omega) (by omega)).mono ?_
          intro e w3 hp
          obtain ⟨b, rfl, hb, hR3, hG3, hss⟩ := picked_nat hp (by omega)
          clear hss
          have HI3 := Lib.hid (HI2.out.pick hgl hR3 hG3)
          have hb2 : b < ys.length := by omega
          clear hp hR3 hG3 HI2
          go_wp2_with fail
          refine (pick_any 6 g (N1 + 1 + 1) w3 HI3.out.2.1 (by omega) (by omega)).mono ?_
          intro e w4 hp
          obtain ⟨k0, rfl, hk0, hR4, hG4, hss⟩ := picked_nat hp (by omega)
          clear hss
          have HI4 := Lib.hid (HI3.out.pick hgl hR4 hG4)
          obtain ⟨K3, hK3⟩ : ∃ K3 : Nat, K3 = k0 + 3 := ⟨_, rfl⟩
          have hk8 : K3 ≤ 8 := by omega
          have hk5 : (k0 : Int) ≤ 5 := by omega
          have hk50 : 0 ≤ (k0 : Int) := by omega
          have Hk := Lib.hid (show (3 : Int) + (k0 : Int) = (K3 : Int) by omega)
          clear hK3
          clear hp hR4 hG4 HI3 hk0
          go_wp2
          (try rw [Hk.out])
          go_loopw [3, 6] (fun v i wr => ∃ (s : Nat) (zs : List Int), s ≤ 8 ∧ i = .int .i64 (s : Int) ∧ zs.length ≤ ys.length + (8 - s) ∧ ys.length ≤ zs.length ∧ Hid (Byd g (N1 + 1 + 1 + 1) w wr v zs)) (fun _ i _ => (intOf i).toNat)
          case atStart => exact ⟨K3, ys, hk8, by first | rfl | exact congrArg (Value.int .i64) (by have := Hk.out; omega), by omega, Nat.le_refl _, HI4⟩
          case round =>
            obtain ⟨s, zs, hs, rfl, hzl, hyz, hJ⟩ := hrel
            by_cases hs0 : (s : Int) > 0
            · obtain ⟨gb, c2, rfl, _, _⟩ := hJ.out.1.form (by omega)
              obtain ⟨n2, hn2⟩ : ∃ n2, n2 = zs.length := ⟨_, rfl⟩
              obtain ⟨j, hj⟩ : ∃ j, j = n2 - 1 - b := ⟨_, rfl⟩
              have hjl : j < zs.length := by omega
              have hcell := hJ.out.1.cell rfl hjl
              have hJn : Hid (Byd g (N1 + 1 + 1 + 1) w wr (.slice (some ⟨gb, 0, none⟩) n2 c2) zs) := Lib.hid (by rw [hn2]; exact hJ.out)
              rw [← hn2] at hjl hzl hyz ⊢
              have Hn2 := Lib.hid hn2
              have hsub1 : IntKind.i64.wrap ((n2 : Int) - (1 + (b : Int))) = (j : Int) := by rw [IntWalk.i64_in _ (by omega)]; omega
              have hsub2 : (n2 : Int) - (1 + (b : Int)) = (j : Int) := by omega
              have hs1 : 1 ≤ s := by omega
              have Hs1 := Lib.hid (show ((s : Int) - 1) = ((s - 1 : Nat) : Int) by omega)
              have hjn : (j : Int) < (n2 : Int) := by omega
              have hz300 : n2 ≤ 300 := by omega
              clear hn2 hj HI4 hJ
              generalize zs.getD j 0 = x at *
              have HA := Lib.hid (show Own (wr.alloc (.cells #[.int .i64 x] 3)) w.heap.size (.slice (some ⟨gb, 0, none⟩) n2 c2) zs from hJn.out.1.alloc _)
              have HQ := Lib.hid (rds_one wr x)
              have hzw : w.heap.size ≤ wr.heap.size := hJn.out.2.2.size
              go_wp2_with (at_builtin; refine wpList_app rfl (.tmp 43) (.tmp 45) rfl w.heap.size (.slice (some ⟨gb, 0, none⟩) n2 c2) zs rfl HA.out (some ⟨wr.heap.size, 0, none⟩) 1 1 _ [x] rfl rfl HQ.out (by simp; have := Hn2.out; omega) (by simp; omega) ?_; intro v3 w5 hO5 hG5)
              have HN : Hid (Byd g (N1 + 1 + 1 + 1) w w5 v3 (zs ++ [x])) := Lib.hid (hJn.out.app hgl hO5 hG5)
              have hlen : (zs ++ [x]).length = n2 + 1 := by simp; exact Hn2.out.symm
              have HL := Lib.hid hlen
              clear hO5 hG5 HA HQ hJn hcell hsub1 hsub2 hlen
              go_roundw
              case rel => exact ⟨s - 1, zs ++ [x], by omega, by first | rw [Hs1.out] | go_num, by rw [HL.out]; omega, by rw [HL.out]; omega, HN⟩
              case measure => simp [intOf]; omega
            · have HN : Hid (Byd g (N + 1 + (30 - (r - 1)) * 12) w wr _ zs) := Lib.hid (hJ.out.more (by have := hNN.out; omega))
              have hzb : zs.length ≤ (30 - (r - 1)) * 9 := by omega
              clear hJ HI4
              go_wp2
              go_roundw
              case rel => exact ⟨r - 1, zs, hrn, by first | rw [Hr1.out] | go_num, hzb, HN⟩
              case measure => simp [intOf]; omega
        · have ht0' : (T == 0) = false := beq_eq_false_iff_ne.2 ht0
          go_wp2_with fail
          refine (pick_any 4 g (N1 + 1) w2 HI2.out.2.1 (by omega) (by omega)).mono ?_
          intro e w3 hp
          obtain ⟨b, rfl, hb, hR3, hG3, hss⟩ := picked_nat hp (by omega)
          clear hss
          have HI3 := Lib.hid (HI2.out.pick hgl hR3 hG3)
          obtain ⟨x, hx⟩ : ∃ x, x = (b : Int) * 80 := ⟨_, rfl⟩
          have hxw : IntKind.i64.wrap ((b : Int) * 80) = x := by rw [hx]; exact IntWalk.i64_in _ (by omega)
          have hxe : (b : Int) * 80 = x := hx.symm
          have HA := Lib.hid (show Own (w3.alloc (.cells #[.int .i64 x] 3)) w.heap.size (.slice A1 ys.length c1) ys from HI3.out.1.alloc _)
          have HQ := Lib.hid (rds_one w3 x)
          have hzw : w.heap.size ≤ w3.heap.size := HI3.out.2.2.size
          clear hp hR3 hG3 HI2 hx
          go_wp2_with (at_builtin; refine wpList_app rfl (.tmp 47) (.tmp 51) rfl w.heap.size (.slice A1 ys.length c1) ys rfl HA.out (some ⟨w3.heap.size, 0, none⟩) 1 1 _ [x] rfl rfl HQ.out (by simp; omega) (by simp; omega) ?_; intro v3 w5 hO5 hG5)
          have HN : Hid (Byd g (N + 1 + (30 - (r - 1)) * 12) w w5 v3 (ys ++ [x])) := Lib.hid ((HI3.out.app hgl hO5 hG5).more (by have := hNN.out; omega))
          have HL : Hid ((ys ++ [x]).length = ys.length + 1) := Lib.hid (by simp)
          clear hO5 hG5 HA HQ HI3 hxw hxe
          go_roundw
          case rel => exact ⟨r - 1, ys ++ [x], hrn, by first | rw [Hr1.out] | go_num, by rw [HL.out]; omega, HN⟩
          case measure => simp [intOf]; omega
      · have h3' : ¬ ((3 : Int) < (ys.length : Int)) := by omega
        go_wp2_with fail
        refine (pick_any 4 g N1 wr hI.out.2.1 (by omega) (by omega)).mono ?_
        intro e w3 hp
        obtain ⟨b, rfl, hb, hR3, hG3, hss⟩ := picked_nat hp (by omega)
        clear hss
        have HI3 := Lib.hid (hI.out.pick hgl hR3 hG3)
        obtain ⟨x, hx⟩ : ∃ x, x = (b : Int) * 80 := ⟨_, rfl⟩
        have hxw : IntKind.i64.wrap ((b : Int) * 80) = x := by rw [hx]; exact IntWalk.i64_in _ (by omega)
        have hxe : (b : Int) * 80 = x := hx.symm
        have HA := Lib.hid (show Own (w3.alloc (.cells #[.int .i64 x] 3)) w.heap.size (.slice A1 ys.length c1) ys from HI3.out.1.alloc _)
        have HQ := Lib.hid (rds_one w3 x)
        have hzw : w.heap.size ≤ w3.heap.size := HI3.out.2.2.size
        clear hp hR3 hG3 hI hx
        go_wp2_with (at_builtin; refine wpList_app rfl (.tmp 47) (.tmp 51) rfl w.heap.size (.slice A1 ys.length c1) ys rfl HA.out (some ⟨w3.heap.size, 0, none⟩) 1 1 _ [x] rfl rfl HQ.out (by simp; omega) (by simp; omega) ?_; intro v3 w5 hO5 hG5)
        have HN : Hid (Byd g (N + 1 + (30 - (r - 1)) * 12) w w5 v3 (ys ++ [x])) := Lib.hid ((HI3.out.app hgl hO5 hG5).more (by have := hNN.out; omega))
        have HL : Hid ((ys ++ [x]).length = ys.length + 1) := Lib.hid (by simp)
        clear hO5 hG5 HA HQ HI3 hxw hxe
        go_roundw
        case rel => exact ⟨r - 1, ys ++ [x], hrn, by first | rw [Hr1.out] | go_num, by rw [HL.out]; omega, HN⟩
        case measure => simp [intOf]; omega
    · go_wp2_with fail
      refine (spoil_any A1 c1 ys 256 g (N + 1 + (30 - r) * 12) wr hI.out.2.1 (by omega) hI.out.1.rds.2 (by omega)).mono ?_
      rintro e w2 ⟨A2, c2, zs, rfl, hzc, hzl, hz, hR2, hG2, hA2⟩
      have hsz := hI.out.2.2.size
      have HE : Hid (DrawnL 300 g (N + 400) w (.returned (.slice A2 zs.length c2)) w2) := Lib.hid ⟨A2, c2, zs, rfl, hzc, by omega, hz, hR2.more (by omega), gtrans hI.out.2.2 hG2, fun b hb => by have := hA2 b hb; omega⟩
      clear hz hR2 hG2 hA2 hI hzc hzl HI0
      go_wp2
      go_ret
      exact HE.out
/-- Drawn from a code: a short list. -/
def DrawnBs (w : World) (e : Ending) (w' : World) : Prop := ∃ (A : Option Addr) (c : Nat) (ys : List Int), e = .returned (.slice A ys.length c) ∧ ys.length ≤ c ∧ ys.length ≤ 300 ∧ Rds .i64 w' w'.heap.size A ys ∧ Below w.heap.size w w'
end Go.Proofs.Ytkfgcpoobbejkaa
