/- Contracts of the drawing of a disc and of a region. -/
import Derived.Test.YtbjgjjhfnaiocaaDoorDsc
import Derived.Test.YtbjgjjhfnaiocaaDoorSpoil
namespace Go.Proofs.YtbjgjjhfnaiocaaDoor
open Go.RowKit
set_option linter.unusedSimpArgs false
set_option linter.unusedVariables false
set_option maxRecDepth 20000

theorem one_litR (cs : Array Value) (xs : List Int) (n c p : Nat) (g N : Nat) (w : World) (hp : p = w.heap.size) (h : Rdr w g N) (hN : N ≤ 1000000000) (hx : 0 < xs.length) (hl : xs.length ≤ 1000) (hn : n = xs.length) (hcs : cs.toList = xs.map (.int .i64)) :
    Calls Tryd.prog 40 #[.pointer (some ⟨g, 0, none⟩), .slice (some ⟨p, 0, none⟩) n c] (w.alloc (.cells cs 3)) fun e w' => ∃ k : Int, e = .returned (.int .i64 k) ∧ k ∈ xs ∧ Rdr w' g (N + 1) ∧ w.grownBy w' (some g) := by
  subst hp
  exact one_lit cs xs n c g N w h hN hx hl hn hcs
/-- While a region is drawn: the reader, and the grid in block b. -/
def RR (w wr : World) (g N b : Nat) : Prop := Rdr wr g N ∧ w.grownBy wr (some g) ∧ ∃ F, GridFn wr b F
theorem grown_set_new {w wr : World} {g b j : Nat} {u : Value} (h : w.grownBy wr (some g)) (hb : w.heap.size ≤ b) : w.grownBy (wr.setCell ⟨b, j, none⟩ u) (some g) :=
  ⟨h.os, h.tape, h.output, by have := h.size; simp [World.setCell]; omega, fun i hi hne => (heap_setCell_other wr ⟨b, j, none⟩ i u (fun e => by have : i = b := e; omega)).trans (h.block i hi hne)⟩
theorem grown_below {w wr w' : World} {g : Nat} (h : w.grownBy wr (some g)) (hb : Below wr.heap.size wr w') : w.grownBy w' (some g) :=
  ⟨hb.os.trans h.os, hb.tape.trans h.tape, hb.output.trans h.output, Nat.le_trans h.size hb.size, fun i hi hne => (hb.block i (by have := h.size; omega)).trans (h.block i hi hne)⟩
theorem RR.pick {w wr w' : World} {g N b : Nat} (h : RR w wr g N b) (hbg : b ≠ g) (hr : Rdr w' g (N + 1)) (hg : wr.grownBy w' (some g)) : RR w w' g (N + 1) b := by
  obtain ⟨h1, h2, F, h3⟩ := h
  exact ⟨hr, gtrans h2 hg, F, h3.keep (hg.block b h3.lt (by simpa using hbg))⟩
theorem RR.set {w wr : World} {g N b j : Nat} (h : RR w wr g N b) (hgb : g < b) (hb : w.heap.size ≤ b) (hj : j < 256) (v : Bool) : RR w (wr.setCell ⟨b, j, none⟩ (.bool v)) g N b := by
  obtain ⟨h1, h2, F, h3⟩ := h
  exact ⟨h1.grown (row := some b) ⟨rfl, rfl, rfl, by simp [World.setCell], fun k _ hk => heap_setCell_other wr ⟨b, j, none⟩ k _ (fun e => hk (by simp [e]))⟩ (fun k hk => by cases hk; exact hgb), grown_set_new h2 hb, _, h3.put hj v⟩
theorem RR.more {w wr : World} {g N N' b : Nat} (h : RR w wr g N b) (hN : N ≤ N') : RR w wr g N' b := ⟨h.1.more hN, h.2⟩
theorem RR.cell {w wr : World} {g N b j : Nat} (h : RR w wr g N b) (hj : j < 256) : ∃ v, wr.cell? ⟨b, j, none⟩ = some (.bool v) ∧ wr.frozen? ⟨b, j, none⟩ = false ∧ b < wr.heap.size := by
  obtain ⟨h1, h2, F, h3⟩ := h
  exact ⟨_, h3.cell hj, h3.frozen j, h3.lt⟩
/-- Drawn: a list of runs in memory of the call's own. -/
def DrawnR (g N : Nat) (w : World) (e : Ending) (w' : World) : Prop :=
  ∃ v n xs, e = .returned v ∧ n ≤ 300 ∧ OwnT 35 3 w' w.heap.size v n xs ∧ Rdr w' g N ∧ w.grownBy w' (some g)
theorem DrawnR.of_runs {G : Nat → Nat → Bool} {w u w' : World} {g N b : Nat} {e : Ending} (h : RR w u g N b) (hgl : g < u.heap.size) (hr : RunsI G u e w') : DrawnR g N w e w' := by
  obtain ⟨v, rfl, hO, hB⟩ := hr
  have hl := rnL_len G
  exact ⟨v, _, _, rfl, by omega, hO.base_le h.2.1.size, h.1.below hB hgl, grown_below h.2.1 hB⟩
theorem DrawnR.of_if {ok : Bool} {G : Nat → Nat → Bool} {w u w' : World} {g N b : Nat} {e : Ending} (h : RR w u g N b) (hgl : g < u.heap.size) (hr : RunsIf ok G u e w') : DrawnR g N w e w' := by
  obtain ⟨v, rfl, hO, hB⟩ := hr
  have hl := rnL_len G
  exact ⟨v, _, _, rfl, by cases ok <;> simp <;> omega, hO.base_le h.2.1.size, h.1.below hB hgl, grown_below h.2.1 hB⟩
theorem DrawnR.more {g N N' : Nat} {w w' : World} {e : Ending} (h : DrawnR g N w e w') (hN : N ≤ N') : DrawnR g N' w e w' := by
  obtain ⟨v, n, xs, h1, h2, h3, h4, h5⟩ := h
  exact ⟨v, n, xs, h1, h2, h3, h4.more hN, h5⟩
set_option maxHeartbeats 16000000 in
theorem randomRegion_any (g N : Nat) (w : World) (h : Rdr w g N) (hN : N ≤ 100000) :
    Calls Tryd.prog 55 #[.pointer (some ⟨g, 0, none⟩)] w (DrawnR g (N + 200) w) := by
  have hmk := make_grid
  have hgl := h.lt
  have HI0 : Hid (RR w (w.alloc (.cells gz 4)) g N w.heap.size) := Lib.hid ⟨h.alloc _, World.grownBy_alloc w _ _, _, GridFn.start w⟩
  obtain ⟨b, hb⟩ : ∃ b, b = w.heap.size := ⟨_, rfl⟩
  have hgb : g < b := by omega
  have hbg : b ≠ g := by omega
  have Hb := Lib.hid (show w.heap.size ≤ b by omega)
  rw [← hb] at HI0
  have HbE := Lib.hid hb
  clear h hb
  go_enter Tryd.func55, Tryd.ntmps55
  go_wp2_with fail
  (try rw [← HbE.out])
  clear hmk
  generalize w.alloc (.cells gz 4) = u at *
  refine (pick_any 4 g N u HI0.out.1 (by omega) (by omega)).mono ?_
  intro e w2 hp
  obtain ⟨k, rfl, hk, hr2, hg2, hs2⟩ := picked_nat hp (by omega)
  have HI := Lib.hid (HI0.out.pick hbg hr2 hg2)
  clear hp hr2 hg2 hs2 HI0
  by_cases h0 : k = 0
  · have h0' : ((k : Int) == 0) = true := by rw [h0]; rfl
    clear h0
    go_wp2_with fail
    refine (pick_any 8 g (N + 1) w2 HI.out.1 (by omega) (by omega)).mono ?_
    intro e w3 hp
    obtain ⟨x, rfl, hx, hr3, hg3, hs3⟩ := picked_nat hp (by omega)
    have HI3 := Lib.hid (HI.out.pick hbg hr3 hg3)
    clear hp hr3 hg3 hs3 HI
    go_wp2_with fail
    refine (pick_any 8 g (N + 1 + 1) w3 HI3.out.1 (by omega) (by omega)).mono ?_
    intro e w4 hp
    obtain ⟨y, rfl, hy, hr4, hg4, hs4⟩ := picked_nat hp (by omega)
    have HI4 := Lib.hid (HI3.out.pick hbg hr4 hg4)
    clear hp hr4 hg4 hs4 HI3
    go_wp2_with fail
    refine (pick_any 5 g (N + 1 + 1 + 1) w4 HI4.out.1 (by omega) (by omega)).mono ?_
    intro e w5 hp
    obtain ⟨r, rfl, hr, hr5, hg5, hs5⟩ := picked_nat hp (by omega)
    have HI5 := Lib.hid (HI4.out.pick hbg hr5 hg5)
    clear hp hr5 hg5 hs5 HI4
    go_wp2_with fail
    refine (s_DiscRegion (x : Int) (y : Int) (r : Int) w5).mono ?_
    intro e w6 hR
    have HE := Lib.hid ((DrawnR.of_if HI5.out HI5.out.1.lt hR).more (show N + 1 + 1 + 1 + 1 ≤ N + 200 by omega))
    obtain ⟨v6, rfl, _, _⟩ := hR
    clear HI5
    go_wp2
    go_ret
    exact HE.out
  · have h0' : ((k : Int) == 0) = false := beq_eq_false_iff_ne.2 (by omega)
    by_cases h1 : k = 1
    · have h1' : ((k : Int) == 1) = true := by rw [h1]; rfl
      clear h0 h1
      go_wp2_with fail
      refine (pick_any 12 g (N + 1) w2 HI.out.1 (by omega) (by omega)).mono ?_
      intro e w3 hp
      obtain ⟨m, rfl, hm, hr3, hg3, hs3⟩ := picked_nat hp (by omega)
      have HI3 := Lib.hid ((HI.out.pick hbg hr3 hg3).more (show N + 1 + 1 ≤ N + 100 - 2 * m by omega))
      clear hp hr3 hg3 hs3 HI
      go_wp2
      go_loopw [4] (fun i wr => ∃ q : Nat, q ≤ 12 ∧ i = .int .i64 q ∧ Hid (RR w wr g (N + 100 - 2 * q) b)) (fun i _ => (intOf i).toNat)
      case atStart => exact ⟨m, by omega, rfl, HI3⟩
      case round =>
        clear HI3
        obtain ⟨q, hq, rfl, hI⟩ := hrel
        by_cases hlt : 0 < q
        · have hltI : (0 : Int) < (q : Int) := by omega
          go_wp2_with fail
          refine (pick_any 6 g (N + 100 - 2 * q) wr hI.out.1 (by omega) (by omega)).mono ?_
          intro e w4 hp
          obtain ⟨y, rfl, hy, hr4, hg4, hs4⟩ := picked_nat hp (by omega)
          have HI4 := Lib.hid (hI.out.pick hbg hr4 hg4)
          clear hp hr4 hg4 hs4 hI
          go_wp2_with fail
          refine (pick_any 6 g (N + 100 - 2 * q + 1) w4 HI4.out.1 (by omega) (by omega)).mono ?_
          intro e w5 hp
          obtain ⟨x, rfl, hx, hr5, hg5, hs5⟩ := picked_nat hp (by omega)
          have HI5 := Lib.hid (HI4.out.pick hbg hr5 hg5)
          clear hp hr5 hg5 hs5 HI4
          obtain ⟨cv, c0, f0, hbl⟩ := HI5.out.cell (j := y * 16 + x) (by omega)
          have HN := Lib.hid ((HI5.out.set hgb Hb.out (j := y * 16 + x) (by omega) true).more (show N + 100 - 2 * q + 1 + 1 ≤ N + 100 - 2 * (q - 1) by omega))
          have r1 : ((y : Int) * 16 + (x : Int)).toNat = y * 16 + x := by omega
          have r2 : 0 ≤ (y : Int) * 16 + (x : Int) := by omega
          have r3 : (y : Int) * 16 + (x : Int) < 256 := by omega
          have r4 : (q : Int) - 1 = ((q - 1 : Nat) : Int) := by omega
          clear HI5
          go_wp2
          go_roundw
          case rel => exact ⟨q - 1, by omega, by first | rfl | rw [r4], HN⟩
          case measure => simp [intOf]; omega
        · have hltI : ¬ (0 : Int) < (q : Int) := by omega
          have HIe := Lib.hid (hI.out.more (show N + 100 - 2 * q ≤ N + 100 by omega))
          clear hI
          go_wp2_with fail
          refine (pick_any 10 g (N + 100) wr HIe.out.1 (by omega) (by omega)).mono ?_
          intro e w7 hp
          obtain ⟨k7, rfl, hk7, hr7, hg7, hs7⟩ := picked_nat hp (by omega)
          have HI7 := Lib.hid (HIe.out.pick hbg hr7 hg7)
          clear hp hr7 hg7 hs7 HIe
          by_cases h7 : k7 = 0
          · have h7' : ((k7 : Int) == 0) = true := by rw [h7]; rfl
            clear h7
            go_wp2_with fail
            refine (one_litR _ [15, 240, 255, 0] 4 4 _ g (N + 100 + 1) w7 rfl HI7.out.1 (by omega) (by simp) (by simp) rfl rfl).mono ?_
            rintro e w8 ⟨a8, rfl, ha8, hr8, hg8⟩
            have hA : 0 ≤ a8 ∧ a8 ≤ 255 := by simp at ha8; omega
            obtain ⟨A8, rfl⟩ := Int.eq_ofNat_of_zero_le hA.1
            have hA2 : A8 < 256 := by omega
            have hA3 : (A8 : Int) < 256 := by omega
            have HI8 := Lib.hid (HI7.out.pick hbg hr8 hg8)
            obtain ⟨cv8, c8, f8, hbl8⟩ := HI8.out.cell (j := A8) hA2
            have HN8 := Lib.hid (HI8.out.set hgb Hb.out (j := A8) hA2 true)
            clear ha8 hr8 hg8 HI7 HI8 hA
            go_wp2_with fail
            obtain ⟨F8, hF8⟩ := HN8.out.2.2
            refine (s_runsOf b 256 (fun x y => F8 (y * 16 + x)) _ hF8.lt (fun x y hx hy => hF8.cell (by omega))).mono ?_
            intro e w9 hR
            have HE := Lib.hid ((DrawnR.of_runs HN8.out HN8.out.1.lt hR).more (show N + 100 + 1 + 1 ≤ N + 200 by omega))
            obtain ⟨v9, rfl, _, _⟩ := hR
            clear HN8 hF8 c8 f8
            go_wp2
            go_ret
            exact HE.out
          · have h7' : ((k7 : Int) == 0) = false := beq_eq_false_iff_ne.2 (by omega)
            clear h7
            go_wp2_with fail
            obtain ⟨F8, hF8⟩ := HI7.out.2.2
            refine (s_runsOf b 256 (fun x y => F8 (y * 16 + x)) _ hF8.lt (fun x y hx hy => hF8.cell (by omega))).mono ?_
            intro e w9 hR
            have HE := Lib.hid ((DrawnR.of_runs HI7.out HI7.out.1.lt hR).more (show N + 100 + 1 ≤ N + 200 by omega))
            obtain ⟨v9, rfl, _, _⟩ := hR
            clear HI7 hF8
            go_wp2
            go_ret
            exact HE.out
    · have h1' : ((k : Int) == 1) = false := beq_eq_false_iff_ne.2 (by omega)
      clear h0 h1
      go_wp2_with fail
      refine (pick_any 5 g (N + 1) w2 HI.out.1 (by omega) (by omega)).mono ?_
      intro e w3 hp
      obtain ⟨m, rfl, hm, hr3, hg3, hs3⟩ := picked_nat hp (by omega)
      have HI3 := Lib.hid ((HI.out.pick hbg hr3 hg3).more (show N + 1 + 1 ≤ N + 100 - 2 * m by omega))
      clear hp hr3 hg3 hs3 HI
      go_wp2
      go_loopw [5] (fun i wr => ∃ q : Nat, q ≤ 12 ∧ i = .int .i64 q ∧ Hid (RR w wr g (N + 100 - 2 * q) b)) (fun i _ => (intOf i).toNat)
      case atStart => exact ⟨m, by omega, rfl, HI3⟩
      case round =>
        clear HI3
        obtain ⟨q, hq, rfl, hI⟩ := hrel
        by_cases hlt : 0 < q
        · have hltI : (0 : Int) < (q : Int) := by omega
          go_wp2_with fail
          refine (pick_any 8 g (N + 100 - 2 * q) wr hI.out.1 (by omega) (by omega)).mono ?_
          intro e w4 hp
          obtain ⟨x, rfl, hx, hr4, hg4, hs4⟩ := picked_nat hp (by omega)
          have HI4 := Lib.hid (hI.out.pick hbg hr4 hg4)
          clear hp hr4 hg4 hs4 hI
          go_wp2_with fail
          refine (pick_any 8 g (N + 100 - 2 * q + 1) w4 HI4.out.1 (by omega) (by omega)).mono ?_
          intro e w5 hp
          obtain ⟨y, rfl, hy, hr5, hg5, hs5⟩ := picked_nat hp (by omega)
          have HI5 := Lib.hid ((HI4.out.pick hbg hr5 hg5).more (show N + 100 - 2 * q + 1 + 1 ≤ N + 100 - 2 * (q - 1) by omega))
          clear hp hr5 hg5 hs5 HI4
          go_wp2
          go_loopw [8] (fun i wr => ∃ z : Nat, z ≤ 12 ∧ i = .int .i64 z ∧ Hid (RR w wr g (N + 100 - 2 * (q - 1)) b)) (fun i _ => 12 - (intOf i).toNat)
          case atStart => exact ⟨0, by omega, rfl, HI5⟩
          case round =>
            clear HI5
            obtain ⟨z, hz, rfl, hJ⟩ := hrel
            by_cases hzlt : z < 12
            · have hzI : (z : Int) < 12 := by omega
              obtain ⟨d, hd⟩ : ∃ d, d = z / 4 := ⟨_, rfl⟩
              obtain ⟨m4, hm4⟩ : ∃ m4, m4 = z % 4 := ⟨_, rfl⟩
              have e1 : (z : Int).tdiv 4 = (d : Int) := by rw [hd, Int.tdiv_eq_ediv_of_nonneg (by omega)]; omega
              have e2 : (z : Int).tmod 4 = (m4 : Int) := by rw [hm4, Int.tmod_eq_emod_of_nonneg (by omega)]; omega
              have e3 : (z : Int) / 4 = (d : Int) := by omega
              have e4 : (z : Int) % 4 = (m4 : Int) := by omega
              have hd3 : d < 3 := by omega
              have hm3 : m4 < 4 := by omega
              obtain ⟨cv, c0, f0, hbl⟩ := hJ.out.cell (j := (y + d) * 16 + x + m4) (by omega)
              have HN := Lib.hid (hJ.out.set hgb Hb.out (j := (y + d) * 16 + x + m4) (by omega) true)
              have r1 : (((y : Int) + (d : Int)) * 16 + (x : Int) + (m4 : Int)).toNat = (y + d) * 16 + x + m4 := by omega
              have r2 : 0 ≤ ((y : Int) + (d : Int)) * 16 + (x : Int) + (m4 : Int) := by omega
              have r3 : ((y : Int) + (d : Int)) * 16 + (x : Int) + (m4 : Int) < 256 := by omega
              clear hJ hd hm4
              go_wp2
              go_roundw
              case rel => exact ⟨z + 1, by omega, by go_num, HN⟩
              case measure => simp [intOf]; omega
            · have hzI : ¬ (z : Int) < 12 := by omega
              have r4 : (q : Int) - 1 = ((q - 1 : Nat) : Int) := by omega
              go_wp2
              go_roundw
              case rel => exact ⟨q - 1, by omega, by first | rfl | rw [r4], hJ⟩
              case measure => simp [intOf]; omega
        · have hltI : ¬ (0 : Int) < (q : Int) := by omega
          have HIe := Lib.hid (hI.out.more (show N + 100 - 2 * q ≤ N + 100 by omega))
          clear hI
          go_wp2_with fail
          refine (pick_any 10 g (N + 100) wr HIe.out.1 (by omega) (by omega)).mono ?_
          intro e w7 hp
          obtain ⟨k7, rfl, hk7, hr7, hg7, hs7⟩ := picked_nat hp (by omega)
          have HI7 := Lib.hid (HIe.out.pick hbg hr7 hg7)
          clear hp hr7 hg7 hs7 HIe
          by_cases h7 : k7 = 0
          · have h7' : ((k7 : Int) == 0) = true := by rw [h7]; rfl
            clear h7
            go_wp2_with fail
            refine (one_litR _ [15, 240, 255, 0] 4 4 _ g (N + 100 + 1) w7 rfl HI7.out.1 (by omega) (by simp) (by simp) rfl rfl).mono ?_
            rintro e w8 ⟨a8, rfl, ha8, hr8, hg8⟩
            have hA : 0 ≤ a8 ∧ a8 ≤ 255 := by simp at ha8; omega
            obtain ⟨A8, rfl⟩ := Int.eq_ofNat_of_zero_le hA.1
            have hA2 : A8 < 256 := by omega
            have hA3 : (A8 : Int) < 256 := by omega
            have HI8 := Lib.hid (HI7.out.pick hbg hr8 hg8)
            obtain ⟨cv8, c8, f8, hbl8⟩ := HI8.out.cell (j := A8) hA2
            have HN8 := Lib.hid (HI8.out.set hgb Hb.out (j := A8) hA2 true)
            clear ha8 hr8 hg8 HI7 HI8 hA
            go_wp2_with fail
            obtain ⟨F8, hF8⟩ := HN8.out.2.2
            refine (s_runsOf b 256 (fun x y => F8 (y * 16 + x)) _ hF8.lt (fun x y hx hy => hF8.cell (by omega))).mono ?_
            intro e w9 hR
            have HE := Lib.hid ((DrawnR.of_runs HN8.out HN8.out.1.lt hR).more (show N + 100 + 1 + 1 ≤ N + 200 by omega))
            obtain ⟨v9, rfl, _, _⟩ := hR
            clear HN8 hF8 c8 f8
            go_wp2
            go_ret
            exact HE.out
          · have h7' : ((k7 : Int) == 0) = false := beq_eq_false_iff_ne.2 (by omega)
            clear h7
            go_wp2_with fail
            obtain ⟨F8, hF8⟩ := HI7.out.2.2
            refine (s_runsOf b 256 (fun x y => F8 (y * 16 + x)) _ hF8.lt (fun x y hx hy => hF8.cell (by omega))).mono ?_
            intro e w9 hR
            have HE := Lib.hid ((DrawnR.of_runs HI7.out HI7.out.1.lt hR).more (show N + 100 + 1 ≤ N + 200 by omega))
            obtain ⟨v9, rfl, _, _⟩ := hR
            clear HI7 hF8
            go_wp2
            go_ret
            exact HE.out
set_option maxHeartbeats 16000000 in
theorem anyRegion_any (g N : Nat) (w : World) (h : Rdr w g N) (hN : N ≤ 100000) :
    Calls Tryd.prog 39 #[.pointer (some ⟨g, 0, none⟩)] w (DrawnR g (N + 300) w) := by
  have hgl := h.lt
  have Hh := Lib.hid h
  clear h
  go_enter Tryd.func39, Tryd.ntmps39
  go_wp2_with fail
  refine (randomRegion_any g N w Hh.out hN).mono ?_
  rintro e w1 ⟨v, n, xs, rfl, hn, hO, hr1, hg1⟩
  have hown : v.ownBlock ≠ some g := fun e => by have := (hO.lt g e).1; omega
  have HO := Lib.hid hO
  have HG := Lib.hid hg1
  have hz1 := hg1.size
  by_cases hn0 : n = 0
  · subst hn0
    obtain ⟨A, c, rfl, hc⟩ := hO.slice
    have HE : Hid (DrawnR g (N + 300) w (.returned (.slice A 0 c)) w1) := Lib.hid ⟨_, 0, xs, rfl, by omega, HO.out, hr1.more (by omega), hg1⟩
    clear hO hr1 hg1
    go_wp2
    go_ret
    exact HE.out
  · obtain ⟨gg, c, rfl, hbg, hgl1⟩ := hO.form (by omega)
    have hc : n ≤ c := by
      obtain ⟨A9, c9, e9, h9⟩ := hO.slice
      simp only [Value.slice.injEq] at e9
      omega
    have hgg : gg ≠ g := by omega
    have hnpos : (0 : Int) < (n : Int) := by omega
    clear hO hn0
    go_wp2_with fail
    refine (pick_any 20 g (N + 200) w1 hr1 (by omega) (by omega)).mono ?_
    intro e w2 hp
    obtain ⟨k, rfl, hk, hr2, hg2, hs2⟩ := picked_nat hp (by omega)
    have HO2 := Lib.hid (HO.out.kept hg2 (.inr hown))
    have HG2 := Lib.hid (gtrans HG.out hg2)
    clear hp hs2 hr1 hg1 hg2 HO HG
    by_cases h0 : k = 0
    · have h0' : ((k : Int) == 0) = true := by rw [h0]; rfl
      clear h0
      go_wp2_with fail
      refine (pick_any (n : Int) g (N + 200 + 1) w2 hr2 (by omega) (by omega)).mono ?_
      intro e w3 hp
      obtain ⟨j, rfl, hj, hr3, hg3, hs3⟩ := picked_nat hp (by omega)
      have HO3 := Lib.hid (HO2.out.kept hg3 (.inr hown))
      have HG3 := Lib.hid (gtrans HG2.out hg3)
      clear hp hs3 hr2 hg3 HO2 HG2
      go_wp2_with fail
      refine (one_litR _ [-1, 0, 15, 16] 4 4 _ g (N + 200 + 1 + 1) w3 rfl hr3 (by omega) (by simp) (by simp) rfl rfl).mono ?_
      rintro e w4 ⟨a1, rfl, _, hr4, hg4⟩
      have HO4 := Lib.hid (HO3.out.kept hg4 (.inr hown))
      have HG4 := Lib.hid (gtrans HG3.out hg4)
      clear hr3 hg4 HO3 HG3
      go_wp2_with fail
      refine (one_litR _ [-1, 0, 15, 16] 4 4 _ g (N + 200 + 1 + 1 + 1) w4 rfl hr4 (by omega) (by simp) (by simp) rfl rfl).mono ?_
      rintro e w5 ⟨a2, rfl, _, hr5, hg5⟩
      have HO5 := Lib.hid (HO4.out.kept hg5 (.inr hown))
      have HG5 := Lib.hid (gtrans HG4.out hg5)
      clear hr4 hg5 HO4 HG4
      go_wp2_with fail
      refine (one_litR _ [0, 1, 16, 17] 4 4 _ g (N + 200 + 1 + 1 + 1 + 1) w5 rfl hr5 (by omega) (by simp) (by simp) rfl rfl).mono ?_
      rintro e w6 ⟨a3, rfl, _, hr6, hg6⟩
      have HO6 := Lib.hid (HO5.out.kept hg6 (.inr hown))
      have HG6 := Lib.hid (gtrans HG5.out hg6)
      clear hr5 hg6 HO5 HG5
      have hlen := HO6.out.len
      have jlt : j < n := by omega
      have c0 := HO6.out.cell (j := j * 3) (by omega)
      have c1 := HO6.out.cell (j := j * 3 + 1) (by omega)
      have c2 := HO6.out.cell (j := j * 3 + 2) (by omega)
      have f0 := HO6.out.frozen (j * 3)
      have f1 := HO6.out.frozen (j * 3 + 1)
      have f2 := HO6.out.frozen (j * 3 + 2)
      have hgl6 : gg < w6.heap.size := (HO6.out.lt gg rfl).2
      have p0 := HO6.out.put (j * 3) a1
      have p1 := p0.1.put (j * 3 + 1) a2
      have p2 := p1.1.put (j * 3 + 2) a3
      have HE : Hid (DrawnR g (N + 300) w (.returned (.slice (some ⟨gg, 0, none⟩) n c)) (((w6.setCell ⟨gg, j * 3, none⟩ (.int .i64 a1)).setCell ⟨gg, j * 3 + 1, none⟩ (.int .i64 a2)).setCell ⟨gg, j * 3 + 2, none⟩ (.int .i64 a3))) := Lib.hid
        ⟨_, n, _, rfl, by omega, p2.1, (((hr6.grown p0.2 (fun k hk => by cases hk; omega)).grown p1.2 (fun k hk => by cases hk; omega)).grown p2.2 (fun k hk => by cases hk; omega)).more (by omega), grown_set_new (grown_set_new (grown_set_new HG6.out hbg) hbg) hbg⟩
      clear p0 p1 p2 HO6 HG6 hr6 hlen
      generalize List.getD xs (j * 3) 0 = y0 at *
      generalize List.getD xs (j * 3 + 1) 0 = y1 at *
      generalize List.getD xs (j * 3 + 2) 0 = y2 at *
      go_wp2
      go_ret
      exact HE.out
    · have h0' : ((k : Int) == 0) = false := beq_eq_false_iff_ne.2 (by omega)
      have HE : Hid (DrawnR g (N + 300) w (.returned (.slice (some ⟨gg, 0, none⟩) n c)) w2) := Lib.hid ⟨_, n, xs, rfl, hn, HO2.out, hr2.more (by omega), HG2.out⟩
      clear hr2 HO2 HG2 h0
      go_wp2
      go_ret
      exact HE.out
end Go.Proofs.YtbjgjjhfnaiocaaDoor
