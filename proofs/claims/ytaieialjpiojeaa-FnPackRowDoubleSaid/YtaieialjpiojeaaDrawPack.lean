/- Contracts of the drawing of packed rows. -/
import Derived.Test.YtaieialjpiojeaaDraw3
import Derived.Test.YtaieialjpiojeaaPackS
import Derived.Deep.RegionHeld3
import Derived.Deep.RegionLaw
namespace Go.Proofs.Ytaieialjpiojeaa
open Go.RowKit
set_option linter.unusedSimpArgs false
set_option linter.unusedVariables false

/-- Drawn: a list of few numbers and a depth. -/
def DrawnL (m : Nat) (w : World) (e : Ending) (w' : World) : Prop :=
  ∃ (A : Option Addr) (c : Nat) (xs : List Int) (d : Int), e = .returned (.tuple #[.slice A xs.length c, .int .i64 d]) ∧ xs.length ≤ m ∧ 0 ≤ d ∧ d ≤ 8 ∧ Rds .i64 w' w'.heap.size A xs ∧ Below w.heap.size w w'

theorem one_litAt (cs : Array Value) (xs : List Int) (n c p : Nat) (g N : Nat) (w : World) (hp : p = w.heap.size) (h : Rdr w g N) (hN : N ≤ 1000000000) (hx : 0 < xs.length) (hl : xs.length ≤ 1000) (hn : n = xs.length) (hcs : cs.toList = xs.map (.int .i64)) :
    Calls Try.prog 51 #[.pointer (some ⟨g, 0, none⟩), .slice (some ⟨p, 0, none⟩) n c] (w.alloc (.cells cs 3)) fun e w' => ∃ k : Int, e = .returned (.int .i64 k) ∧ k ∈ xs ∧ Rdr w' g (N + 1) ∧ w.grownBy w' (some g) := by
  subst hp
  exact one_lit cs xs n c g N w h hN hx hl hn hcs
theorem picked_step {g N : Nat} {w w' : World} {e : Ending} {v : Value} {xs : List Int} (h : Picked 256 g N w e w') (hO : Own w (g + 1) v xs) :
    ∃ k : Nat, e = .returned (.int .i64 (k : Int)) ∧ (k : Int) < 256 ∧ Hid (Rdr w' g (N + 1)) ∧ Hid (Own w' (g + 1) v xs) ∧ Hid (w.grownBy w' (some g)) ∧ Hid (g + 1 ≤ w'.heap.size) := by
  obtain ⟨k, h1, h2, h3, h4, h5⟩ := picked_nat h (by omega)
  exact ⟨k, h1, h2, h3, hO.off h4 (by omega), h4, by have := h3.lt; show g + 1 ≤ _; omega⟩
theorem draw_rdr {g N N' : Nat} {w5 w6 : World} {v : Value} {xs : List Int} {o : Obj} (h : Hid (Rdr w5 g N)) (hG : (w5.alloc o).grownBy w6 v.ownBlock) (hO : Own w5 (g + 1) v xs) (hN : N ≤ N') : Rdr w6 g N' :=
  ((h.out.alloc o).grown hG (fun k hk => by have := (hO.lt k hk).1; omega)).more hN
theorem draw_below {W w w5 w6 : World} {N : Nat} {v : Value} {xs : List Int} {o : Obj} (hb : Below W.heap.size W w) (hr : Rdr w W.heap.size N) (h5 : Hid (w.grownBy w5 (some W.heap.size))) (hG : (w5.alloc o).grownBy w6 v.ownBlock) (hO : Own w5 (W.heap.size + 1) v xs) : Below W.heap.size W w6 := by
  have h1 := hb.trans (hr.trans h5.out)
  exact (h1.alloc h1.size o).grown hG (by have := h1.size; simp; omega) (fun k hk => by have := (hO.lt k hk).1; omega)
set_option maxHeartbeats 8000000 in
theorem drawPackRow_any (A : Option Addr) (c : Nat) (bs : List Int) (w : World) (hc : bs.length ≤ c) (h : Rdw .u8 w w.heap.size A bs) :
    Calls Try.prog 32 #[.slice A bs.length c] w (DrawnL 66 w) := by
  go_enter Try.func32, Try.ntmps32
  go_wp2_with fail
  refine (newReader_any A c bs w hc h).mono ?_
  rintro e w1 ⟨rfl, hr1, hb1, hs1⟩
  have Hs := Lib.hid hs1
  clear hs1
  go_wp2_with fail
  refine (anyDepth_any _ 0 _ hr1 (by omega)).mono ?_
  rintro e w2 ⟨d, rfl, ⟨hd1, hd2⟩, hr2, hg2⟩
  have hb := hb1.trans (hr1.trans hg2)
  have hO2 := own_none w2
  have hr2' := hr2.alloc (.cells #[] 3)
  have hb2 := hb.alloc hb.size (.cells #[] 3)
  have hlt := hr2.lt
  clear hg2 hb1 hr1 Hs h hr2 hb
  go_wp2_with fail
  refine (one_litAt _ [3, 8, 5, 1, 0, 64, 65] 7 7 (w2.heap.size + 1) w.heap.size 1 (w2.alloc (.cells #[] 3)) (by simp) hr2' (by omega) (by simp) (by simp) rfl rfl).mono ?_
  rintro e w3 ⟨m, rfl, hm, hr3, hg3⟩
  have hm' : 0 ≤ m ∧ m ≤ 65 := by simp at hm; omega
  have hO3 := hO2.off hg3 hlt
  have hb3 := hb2.trans (hr2'.trans hg3)
  obtain ⟨M, rfl⟩ := Int.eq_ofNat_of_zero_le hm'.1
  have hM : M ≤ 65 := by omega
  have H0 := Lib.hid (show Own w3 (w.heap.size + 1) _ [] from hO3.base_le (by omega))
  clear hm hm' hO2 hr2' hb2 hO3 hg3
  go_wp2
  go_loopw [6, 7] (fun v n wr => ∃ (r : Nat) (xs : List Int), r ≤ M ∧ n = .int .i64 r ∧ Hid (xs.length + r = M) ∧ Own wr (w.heap.size + 1) v xs ∧ Rdr wr w.heap.size (2 + xs.length) ∧ Below w.heap.size w wr) (fun _ n _ => (intOf n).toNat)
  case atStart => exact ⟨M, [], Nat.le_refl _, rfl, Lib.hid (by simp), H0.out, hr3, hb3⟩
  case round =>
    obtain ⟨r, xs, hr, rfl, hX, hO, hR, hbel⟩ := hrel
    obtain ⟨A1, c1, rfl, hc1⟩ := hO.slice
    by_cases hpos : 0 < r
    · have hdd : d = 0 ∨ d = 1 ∨ d = 2 ∨ d = 3 ∨ d = 4 ∨ d = 5 ∨ d = 6 ∨ d = 7 ∨ d = 8 := by omega
      have HR := Lib.hid hR
      have HO := Lib.hid hO
      have HN : Hid (2 + xs.length ≤ 1000000000) := Lib.hid (by have := hX.out; omega)
      have HL : Hid (xs.length + [(0 : Int)].length ≤ 10000000) := Lib.hid (by have := hX.out; simp; omega)
      clear hR hO hd1 hd2
      rcases hdd with rfl | rfl | rfl | rfl | rfl | rfl | rfl | rfl | rfl
      · go_wp2
        have rw2 : IntKind.i64.wrap 2 = 2 := IntWalk.i64_in _ (by omega)
        go_region_law (first | (refine step_app rfl (.tmp 20) (.tmp 27) rfl (w.heap.size + 1) (.slice A1 xs.length c1) xs (by simp [Act.eval, Act.put]) (by exact hO5.out.alloc _) (some ⟨w5.heap.size, 0, none⟩) 1 1 _ [(k : Int) % 2] (by simp [Act.eval, Act.put]) rfl (by exact rds_one w5 _) HL.out (by exact Nat.le_trans HZ5.out (by simp)) ?_; intro v6 w6 hO6 hG6) | (go_simp; go_at_call 57; refine (pick_any 256 w.heap.size (2 + xs.length) _ (by exact HR.out) (by exact HN.out) (by omega)).mono ?_; intro e w5 hp; obtain ⟨k, rfl, hk5, hR5, hO5, hG5, HZ5⟩ := picked_step hp HO.out; have rk : (k : Int).tmod 2 = (k : Int) % 2 := IntWalk.rem_in _ _ (by omega)))
        all_goals
          clear rw2 rk
          have hX' : xs.length + r = M := hX.out
          have HX6 : Hid ((xs ++ [(k : Int) % 2]).length + (r - 1) = M) := Lib.hid (by simp; omega)
          have HR6 : Hid (Rdr w6 w.heap.size (2 + (xs ++ [(k : Int) % 2]).length)) := Lib.hid (draw_rdr hR5 hG6 hO5.out (by simp; omega))
          have HB6 : Hid (Below w.heap.size w w6) := Lib.hid (draw_below (w := wr.drew) hbel.drew HR.out hG5 hG6 hO5.out)
          have Hr : Hid (r - 1 ≤ M) := Lib.hid (by omega)
          have Hc : Hid (((r : Int) - 1) = ((r - 1 : Nat) : Int)) := Lib.hid (by omega)
          have HO6 := Lib.hid hO6
          clear hX' hO6 hG6
          (try go_wp2)
          go_roundw
          case rel => exact ⟨r - 1, xs ++ [(k : Int) % 2], Hr.out, by rw [← Hc.out], HX6, HO6.out, HR6.out, HB6.out⟩
          case measure => simp [intOf]; omega
      · go_wp2
        have rw2 : IntKind.i64.wrap 2 = 2 := IntWalk.i64_in _ (by omega)
        go_region_law (first | (refine step_app rfl (.tmp 20) (.tmp 27) rfl (w.heap.size + 1) (.slice A1 xs.length c1) xs (by simp [Act.eval, Act.put]) (by exact hO5.out.alloc _) (some ⟨w5.heap.size, 0, none⟩) 1 1 _ [(k : Int) % 2] (by simp [Act.eval, Act.put]) rfl (by exact rds_one w5 _) HL.out (by exact Nat.le_trans HZ5.out (by simp)) ?_; intro v6 w6 hO6 hG6) | (go_simp; go_at_call 57; refine (pick_any 256 w.heap.size (2 + xs.length) _ (by exact HR.out) (by exact HN.out) (by omega)).mono ?_; intro e w5 hp; obtain ⟨k, rfl, hk5, hR5, hO5, hG5, HZ5⟩ := picked_step hp HO.out; have rk : (k : Int).tmod 2 = (k : Int) % 2 := IntWalk.rem_in _ _ (by omega)))
        all_goals
          clear rw2 rk
          have hX' : xs.length + r = M := hX.out
          have HX6 : Hid ((xs ++ [(k : Int) % 2]).length + (r - 1) = M) := Lib.hid (by simp; omega)
          have HR6 : Hid (Rdr w6 w.heap.size (2 + (xs ++ [(k : Int) % 2]).length)) := Lib.hid (draw_rdr hR5 hG6 hO5.out (by simp; omega))
          have HB6 : Hid (Below w.heap.size w w6) := Lib.hid (draw_below (w := wr.drew) hbel.drew HR.out hG5 hG6 hO5.out)
          have Hr : Hid (r - 1 ≤ M) := Lib.hid (by omega)
          have Hc : Hid (((r : Int) - 1) = ((r - 1 : Nat) : Int)) := Lib.hid (by omega)
          have HO6 := Lib.hid hO6
          clear hX' hO6 hG6
          (try go_wp2)
          go_roundw
          case rel => exact ⟨r - 1, xs ++ [(k : Int) % 2], Hr.out, by rw [← Hc.out], HX6, HO6.out, HR6.out, HB6.out⟩
          case measure => simp [intOf]; omega
      · go_wp2
        have rw2 : IntKind.i64.wrap 4 = 4 := IntWalk.i64_in _ (by omega)
        go_region_law (first | (refine step_app rfl (.tmp 20) (.tmp 27) rfl (w.heap.size + 1) (.slice A1 xs.length c1) xs (by simp [Act.eval, Act.put]) (by exact hO5.out.alloc _) (some ⟨w5.heap.size, 0, none⟩) 1 1 _ [(k : Int) % 4] (by simp [Act.eval, Act.put]) rfl (by exact rds_one w5 _) HL.out (by exact Nat.le_trans HZ5.out (by simp)) ?_; intro v6 w6 hO6 hG6) | (go_simp; go_at_call 57; refine (pick_any 256 w.heap.size (2 + xs.length) _ (by exact HR.out) (by exact HN.out) (by omega)).mono ?_; intro e w5 hp; obtain ⟨k, rfl, hk5, hR5, hO5, hG5, HZ5⟩ := picked_step hp HO.out; have rk : (k : Int).tmod 4 = (k : Int) % 4 := IntWalk.rem_in _ _ (by omega)))
        all_goals
          clear rw2 rk
          have hX' : xs.length + r = M := hX.out
          have HX6 : Hid ((xs ++ [(k : Int) % 4]).length + (r - 1) = M) := Lib.hid (by simp; omega)
          have HR6 : Hid (Rdr w6 w.heap.size (2 + (xs ++ [(k : Int) % 4]).length)) := Lib.hid (draw_rdr hR5 hG6 hO5.out (by simp; omega))
          have HB6 : Hid (Below w.heap.size w w6) := Lib.hid (draw_below (w := wr.drew) hbel.drew HR.out hG5 hG6 hO5.out)
          have Hr : Hid (r - 1 ≤ M) := Lib.hid (by omega)
          have Hc : Hid (((r : Int) - 1) = ((r - 1 : Nat) : Int)) := Lib.hid (by omega)
          have HO6 := Lib.hid hO6
          clear hX' hO6 hG6
          (try go_wp2)
          go_roundw
          case rel => exact ⟨r - 1, xs ++ [(k : Int) % 4], Hr.out, by rw [← Hc.out], HX6, HO6.out, HR6.out, HB6.out⟩
          case measure => simp [intOf]; omega
      · go_wp2
        have rw2 : IntKind.i64.wrap 8 = 8 := IntWalk.i64_in _ (by omega)
        go_region_law (first | (refine step_app rfl (.tmp 20) (.tmp 27) rfl (w.heap.size + 1) (.slice A1 xs.length c1) xs (by simp [Act.eval, Act.put]) (by exact hO5.out.alloc _) (some ⟨w5.heap.size, 0, none⟩) 1 1 _ [(k : Int) % 8] (by simp [Act.eval, Act.put]) rfl (by exact rds_one w5 _) HL.out (by exact Nat.le_trans HZ5.out (by simp)) ?_; intro v6 w6 hO6 hG6) | (go_simp; go_at_call 57; refine (pick_any 256 w.heap.size (2 + xs.length) _ (by exact HR.out) (by exact HN.out) (by omega)).mono ?_; intro e w5 hp; obtain ⟨k, rfl, hk5, hR5, hO5, hG5, HZ5⟩ := picked_step hp HO.out; have rk : (k : Int).tmod 8 = (k : Int) % 8 := IntWalk.rem_in _ _ (by omega)))
        all_goals
          clear rw2 rk
          have hX' : xs.length + r = M := hX.out
          have HX6 : Hid ((xs ++ [(k : Int) % 8]).length + (r - 1) = M) := Lib.hid (by simp; omega)
          have HR6 : Hid (Rdr w6 w.heap.size (2 + (xs ++ [(k : Int) % 8]).length)) := Lib.hid (draw_rdr hR5 hG6 hO5.out (by simp; omega))
          have HB6 : Hid (Below w.heap.size w w6) := Lib.hid (draw_below (w := wr.drew) hbel.drew HR.out hG5 hG6 hO5.out)
          have Hr : Hid (r - 1 ≤ M) := Lib.hid (by omega)
          have Hc : Hid (((r : Int) - 1) = ((r - 1 : Nat) : Int)) := Lib.hid (by omega)
          have HO6 := Lib.hid hO6
          clear hX' hO6 hG6
          (try go_wp2)
          go_roundw
          case rel => exact ⟨r - 1, xs ++ [(k : Int) % 8], Hr.out, by rw [← Hc.out], HX6, HO6.out, HR6.out, HB6.out⟩
          case measure => simp [intOf]; omega
      · go_wp2
        have rw2 : IntKind.i64.wrap 16 = 16 := IntWalk.i64_in _ (by omega)
        go_region_law (first | (refine step_app rfl (.tmp 20) (.tmp 27) rfl (w.heap.size + 1) (.slice A1 xs.length c1) xs (by simp [Act.eval, Act.put]) (by exact hO5.out.alloc _) (some ⟨w5.heap.size, 0, none⟩) 1 1 _ [(k : Int) % 16] (by simp [Act.eval, Act.put]) rfl (by exact rds_one w5 _) HL.out (by exact Nat.le_trans HZ5.out (by simp)) ?_; intro v6 w6 hO6 hG6) | (go_simp; go_at_call 57; refine (pick_any 256 w.heap.size (2 + xs.length) _ (by exact HR.out) (by exact HN.out) (by omega)).mono ?_; intro e w5 hp; obtain ⟨k, rfl, hk5, hR5, hO5, hG5, HZ5⟩ := picked_step hp HO.out; have rk : (k : Int).tmod 16 = (k : Int) % 16 := IntWalk.rem_in _ _ (by omega)))
        all_goals
          clear rw2 rk
          have hX' : xs.length + r = M := hX.out
          have HX6 : Hid ((xs ++ [(k : Int) % 16]).length + (r - 1) = M) := Lib.hid (by simp; omega)
          have HR6 : Hid (Rdr w6 w.heap.size (2 + (xs ++ [(k : Int) % 16]).length)) := Lib.hid (draw_rdr hR5 hG6 hO5.out (by simp; omega))
          have HB6 : Hid (Below w.heap.size w w6) := Lib.hid (draw_below (w := wr.drew) hbel.drew HR.out hG5 hG6 hO5.out)
          have Hr : Hid (r - 1 ≤ M) := Lib.hid (by omega)
          have Hc : Hid (((r : Int) - 1) = ((r - 1 : Nat) : Int)) := Lib.hid (by omega)
          have HO6 := Lib.hid hO6
          clear hX' hO6 hG6
          (try go_wp2)
          go_roundw
          case rel => exact ⟨r - 1, xs ++ [(k : Int) % 16], Hr.out, by rw [← Hc.out], HX6, HO6.out, HR6.out, HB6.out⟩
          case measure => simp [intOf]; omega
      · go_wp2
        have rw2 : IntKind.i64.wrap 32 = 32 := IntWalk.i64_in _ (by omega)
        go_region_law (first | (refine step_app rfl (.tmp 20) (.tmp 27) rfl (w.heap.size + 1) (.slice A1 xs.length c1) xs (by simp [Act.eval, Act.put]) (by exact hO5.out.alloc _) (some ⟨w5.heap.size, 0, none⟩) 1 1 _ [(k : Int) % 32] (by simp [Act.eval, Act.put]) rfl (by exact rds_one w5 _) HL.out (by exact Nat.le_trans HZ5.out (by simp)) ?_; intro v6 w6 hO6 hG6) | (go_simp; go_at_call 57; refine (pick_any 256 w.heap.size (2 + xs.length) _ (by exact HR.out) (by exact HN.out) (by omega)).mono ?_; intro e w5 hp; obtain ⟨k, rfl, hk5, hR5, hO5, hG5, HZ5⟩ := picked_step hp HO.out; have rk : (k : Int).tmod 32 = (k : Int) % 32 := IntWalk.rem_in _ _ (by omega)))
        all_goals
          clear rw2 rk
          have hX' : xs.length + r = M := hX.out
          have HX6 : Hid ((xs ++ [(k : Int) % 32]).length + (r - 1) = M) := Lib.hid (by simp; omega)
          have HR6 : Hid (Rdr w6 w.heap.size (2 + (xs ++ [(k : Int) % 32]).length)) := Lib.hid (draw_rdr hR5 hG6 hO5.out (by simp; omega))
          have HB6 : Hid (Below w.heap.size w w6) := Lib.hid (draw_below (w := wr.drew) hbel.drew HR.out hG5 hG6 hO5.out)
          have Hr : Hid (r - 1 ≤ M) := Lib.hid (by omega)
          have Hc : Hid (((r : Int) - 1) = ((r - 1 : Nat) : Int)) := Lib.hid (by omega)
          have HO6 := Lib.hid hO6
          clear hX' hO6 hG6
          (try go_wp2)
          go_roundw
          case rel => exact ⟨r - 1, xs ++ [(k : Int) % 32], Hr.out, by rw [← Hc.out], HX6, HO6.out, HR6.out, HB6.out⟩
          case measure => simp [intOf]; omega
      · go_wp2
        have rw2 : IntKind.i64.wrap 64 = 64 := IntWalk.i64_in _ (by omega)
        go_region_law (first | (refine step_app rfl (.tmp 20) (.tmp 27) rfl (w.heap.size + 1) (.slice A1 xs.length c1) xs (by simp [Act.eval, Act.put]) (by exact hO5.out.alloc _) (some ⟨w5.heap.size, 0, none⟩) 1 1 _ [(k : Int) % 64] (by simp [Act.eval, Act.put]) rfl (by exact rds_one w5 _) HL.out (by exact Nat.le_trans HZ5.out (by simp)) ?_; intro v6 w6 hO6 hG6) | (go_simp; go_at_call 57; refine (pick_any 256 w.heap.size (2 + xs.length) _ (by exact HR.out) (by exact HN.out) (by omega)).mono ?_; intro e w5 hp; obtain ⟨k, rfl, hk5, hR5, hO5, hG5, HZ5⟩ := picked_step hp HO.out; have rk : (k : Int).tmod 64 = (k : Int) % 64 := IntWalk.rem_in _ _ (by omega)))
        all_goals
          clear rw2 rk
          have hX' : xs.length + r = M := hX.out
          have HX6 : Hid ((xs ++ [(k : Int) % 64]).length + (r - 1) = M) := Lib.hid (by simp; omega)
          have HR6 : Hid (Rdr w6 w.heap.size (2 + (xs ++ [(k : Int) % 64]).length)) := Lib.hid (draw_rdr hR5 hG6 hO5.out (by simp; omega))
          have HB6 : Hid (Below w.heap.size w w6) := Lib.hid (draw_below (w := wr.drew) hbel.drew HR.out hG5 hG6 hO5.out)
          have Hr : Hid (r - 1 ≤ M) := Lib.hid (by omega)
          have Hc : Hid (((r : Int) - 1) = ((r - 1 : Nat) : Int)) := Lib.hid (by omega)
          have HO6 := Lib.hid hO6
          clear hX' hO6 hG6
          (try go_wp2)
          go_roundw
          case rel => exact ⟨r - 1, xs ++ [(k : Int) % 64], Hr.out, by rw [← Hc.out], HX6, HO6.out, HR6.out, HB6.out⟩
          case measure => simp [intOf]; omega
      · go_wp2
        have rw2 : IntKind.i64.wrap 128 = 128 := IntWalk.i64_in _ (by omega)
        go_region_law (first | (refine step_app rfl (.tmp 20) (.tmp 27) rfl (w.heap.size + 1) (.slice A1 xs.length c1) xs (by simp [Act.eval, Act.put]) (by exact hO5.out.alloc _) (some ⟨w5.heap.size, 0, none⟩) 1 1 _ [(k : Int) % 128] (by simp [Act.eval, Act.put]) rfl (by exact rds_one w5 _) HL.out (by exact Nat.le_trans HZ5.out (by simp)) ?_; intro v6 w6 hO6 hG6) | (go_simp; go_at_call 57; refine (pick_any 256 w.heap.size (2 + xs.length) _ (by exact HR.out) (by exact HN.out) (by omega)).mono ?_; intro e w5 hp; obtain ⟨k, rfl, hk5, hR5, hO5, hG5, HZ5⟩ := picked_step hp HO.out; have rk : (k : Int).tmod 128 = (k : Int) % 128 := IntWalk.rem_in _ _ (by omega)))
        all_goals
          clear rw2 rk
          have hX' : xs.length + r = M := hX.out
          have HX6 : Hid ((xs ++ [(k : Int) % 128]).length + (r - 1) = M) := Lib.hid (by simp; omega)
          have HR6 : Hid (Rdr w6 w.heap.size (2 + (xs ++ [(k : Int) % 128]).length)) := Lib.hid (draw_rdr hR5 hG6 hO5.out (by simp; omega))
          have HB6 : Hid (Below w.heap.size w w6) := Lib.hid (draw_below (w := wr.drew) hbel.drew HR.out hG5 hG6 hO5.out)
          have Hr : Hid (r - 1 ≤ M) := Lib.hid (by omega)
          have Hc : Hid (((r : Int) - 1) = ((r - 1 : Nat) : Int)) := Lib.hid (by omega)
          have HO6 := Lib.hid hO6
          clear hX' hO6 hG6
          (try go_wp2)
          go_roundw
          case rel => exact ⟨r - 1, xs ++ [(k : Int) % 128], Hr.out, by rw [← Hc.out], HX6, HO6.out, HR6.out, HB6.out⟩
          case measure => simp [intOf]; omega
      · go_wp2
        have rw2 : IntKind.i64.wrap 256 = 256 := IntWalk.i64_in _ (by omega)
        go_region_law (first | (refine step_app rfl (.tmp 20) (.tmp 27) rfl (w.heap.size + 1) (.slice A1 xs.length c1) xs (by simp [Act.eval, Act.put]) (by exact hO5.out.alloc _) (some ⟨w5.heap.size, 0, none⟩) 1 1 _ [(k : Int) % 256] (by simp [Act.eval, Act.put]) rfl (by exact rds_one w5 _) HL.out (by exact Nat.le_trans HZ5.out (by simp)) ?_; intro v6 w6 hO6 hG6) | (go_simp; go_at_call 57; refine (pick_any 256 w.heap.size (2 + xs.length) _ (by exact HR.out) (by exact HN.out) (by omega)).mono ?_; intro e w5 hp; obtain ⟨k, rfl, hk5, hR5, hO5, hG5, HZ5⟩ := picked_step hp HO.out; have rk : (k : Int).tmod 256 = (k : Int) % 256 := IntWalk.rem_in _ _ (by omega)))
        all_goals
          clear rw2 rk
          have hX' : xs.length + r = M := hX.out
          have HX6 : Hid ((xs ++ [(k : Int) % 256]).length + (r - 1) = M) := Lib.hid (by simp; omega)
          have HR6 : Hid (Rdr w6 w.heap.size (2 + (xs ++ [(k : Int) % 256]).length)) := Lib.hid (draw_rdr hR5 hG6 hO5.out (by simp; omega))
          have HB6 : Hid (Below w.heap.size w w6) := Lib.hid (draw_below (w := wr.drew) hbel.drew HR.out hG5 hG6 hO5.out)
          have Hr : Hid (r - 1 ≤ M) := Lib.hid (by omega)
          have Hc : Hid (((r : Int) - 1) = ((r - 1 : Nat) : Int)) := Lib.hid (by omega)
          have HO6 := Lib.hid hO6
          clear hX' hO6 hG6
          (try go_wp2)
          go_roundw
          case rel => exact ⟨r - 1, xs ++ [(k : Int) % 256], Hr.out, by rw [← Hc.out], HX6, HO6.out, HR6.out, HB6.out⟩
          case measure => simp [intOf]; omega
    · have hX' : xs.length + r = M := hX.out
      have hx : xs.length ≤ 65 := by omega
      have hdd : d = 0 ∨ d = 1 ∨ d = 2 ∨ d = 3 ∨ d = 4 ∨ d = 5 ∨ d = 6 ∨ d = 7 ∨ d = 8 := by omega
      have HR := Lib.hid hR
      have HO := Lib.hid hO.rds.2
      clear hR hO hd1 hd2 hX'
      rcases hdd with rfl | rfl | rfl | rfl | rfl | rfl | rfl | rfl | rfl
      all_goals
        go_wp2_with fail
        refine (spoil_any A1 c1 xs _ w.heap.size (2 + xs.length) wr HR.out (by omega) HO.out (by omega)).mono ?_
        rintro e w5 ⟨A5, c5, ys, rfl, _, hy, hR5, hRd, hG5, _⟩
        have hb5 := hbel.trans (HR.out.trans hG5)
        go_wp2
        go_ret2
        exact ⟨A5, c5, ys, _, rfl, by omega, by omega, by omega, hR5, hb5⟩
end Go.Proofs.Ytaieialjpiojeaa
