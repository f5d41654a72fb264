/- Whatever the code: the tiles of a drawn image are what the model tells; each is at most a tile wide and high, and together they are all pixels, none twice. -/
import Derived.Test.YtlmpkanlfhjijaaRows
import Derived.WalkKit
import Derived.ProofKit
import Derived.OpenShut
import Derived.ShutString
import Derived.ChangeOld
import Derived.Below
import Derived.Test.YtlmpkanlfhjijaaTilM
import Derived.Test.YtlmpkanlfhjijaaTilB
import Derived.Test.YtlmpkanlfhjijaaTileI
import Derived.Deep.RegionHeld3
namespace Go.Proofs.Ytlmpkanlfhjijaa.fnTileBoxes
open Go.ChangeShapes Go.WideShapes Go.ChangeAt Go.RowKit
open Go.ChangeMaps (open_string shut_string)
set_option linter.unusedVariables false

theorem rds_call {u u' : World} {A : Option Addr} {xs : List Int} (h : Rds .i64 u u.heap.size A xs) (hb : Below u.heap.size u u') : Rds .i64 u' u'.heap.size A xs := (h.below hb).more hb.size
theorem bx_call {u u' : World} {b : Nat} {T : TypeId} {cs : Array Value} (h : Bx u b T cs) (hb : Below u.heap.size u u') : Bx u' b T cs := (hb.block b h.lt).trans h
theorem rds_alloc {u : World} {A : Option Addr} {xs : List Int} (h : Rds .i64 u u.heap.size A xs) (o : Obj) : Rds .i64 (u.alloc o) (u.alloc o).heap.size A xs := (h.alloc (Nat.le_refl _) o).more (by simp)
/-- An image in a box that is read while calls go by. -/
structure OneB (w : World) (g : Nat) (ca : Array Value) (A1 : Option Addr) (xs : List Int) (u : World) : Prop where
  ra : Rds .i64 u u.heap.size A1 xs
  xa : Bx u g 25 ca
  be : Below w.heap.size w u
theorem OneB.call {w u u' : World} {g : Nat} {ca : Array Value} {A1 : Option Addr} {xs : List Int} (t : OneB w g ca A1 xs u) (hb : Below u.heap.size u u') : OneB w g ca A1 xs u' :=
  ⟨rds_call t.ra hb, bx_call t.xa hb, t.be.trans (hb.mono t.be.size)⟩
theorem OneB.alloc {w u : World} {g : Nat} {ca : Array Value} {A1 : Option Addr} {xs : List Int} (t : OneB w g ca A1 xs u) (o : Obj) : OneB w g ca A1 xs (u.alloc o) :=
  ⟨rds_alloc t.ra o, t.xa.alloc o, t.be.alloc t.be.size o⟩
theorem tiles_c {W H P : Int} {xs : List Int} {u w' : World} {e : Ending} (h : Tiles W H P xs u e w') : ∃ A c, e = .returned (.slice A (tN W H P xs) c) ∧ Rds .i64 w' w'.heap.size A (tL W H P xs) ∧ Below u.heap.size u w' := by
  obtain ⟨v, rfl, hO, hb⟩ := h
  obtain ⟨A, c, rfl, _⟩ := hO.slice
  exact ⟨A, c, rfl, hO.rds, hb⟩
theorem til_some {W H P : Int} {xs : List Int} (h0 : tN W H P xs ≠ 0) : ∃ w h : Nat, W = w ∧ H = h ∧ (1 ≤ w ∧ w ≤ 16) ∧ (1 ≤ h ∧ h ≤ 16) ∧ tN W H P xs = tcnt w h ∧ tL W H P xs = tileL w h (tcnt w h) := by
  cases hv : vim W H P xs
  · exact absurd (tN_no hv) h0
  · obtain ⟨w, h, p, rfl, rfl, rfl, w0, w1, h1, h2, _⟩ := vim_nat hv
    have e := tN_yes hv
    refine ⟨w, h, rfl, rfl, ⟨w0, w1⟩, ⟨h1, h2⟩, e, ?_⟩
    unfold tL
    rw [e]; simp
set_option maxHeartbeats 32000000 in
theorem walk (w : World) (a0 : Option Addr) (cap0 : Nat) (z0 : List Int) (hc0 : z0.length ≤ cap0) (w0 : Rdw .u8 w w.heap.size a0 z0) :
    Calls Try.prog 4 #[.slice a0 z0.length cap0] w fun e w' => e = .returned (.bool true) ∧ Below w.heap.size w w' := by
  have hm := w0.2.1
  unfold maxLen at hm
  by_cases hlen : 1048576 < z0.length
  · go_enter Try.func4, Try.ntmps4
    go_wp2
    go_ret
    exact ⟨rfl, Below.refl _ _⟩
  · have HD := Lib.hid (drawTile_any a0 cap0 z0 w hc0 w0)
    clear w0 hc0
    go_enter Try.func4, Try.ntmps4
    go_wp2_with fail
    refine HD.out.mono ?_
    rintro e w1 ⟨W, H, P, A1, c1, xs, rfl, hx1, hc1, hr1, hb1⟩
    obtain ⟨u, hu⟩ : ∃ u, u = w1.alloc (.cells #[.int .i64 W, .int .i64 H, .int .i64 P, .slice A1 xs.length c1] 25) := ⟨_, rfl⟩
    obtain ⟨bg, hbg⟩ : ∃ b, b = w1.heap.size := ⟨_, rfl⟩
    have HT1 : Hid (OneB w bg (imC W H P (.slice A1 xs.length c1)) A1 xs u) := Lib.hid (by
      rw [hu]
      exact ⟨rds_alloc hr1 _, by rw [hbg]; exact Bx.new w1 _ _, hb1.alloc hb1.size _⟩)
    obtain ⟨N, hN⟩ : ∃ N, N = tN W H P xs := ⟨_, rfl⟩
    obtain ⟨L, hL⟩ : ∃ L, L = tL W H P xs := ⟨_, rfl⟩
    have HI : Hid (∀ u, OneB w bg (imC W H P (.slice A1 xs.length c1)) A1 xs u → Calls Try.prog 15 #[.agg #[.int .i64 W, .int .i64 H, .int .i64 P, .slice A1 xs.length c1]] u fun e w' => ∃ A c, e = .returned (.slice A N c) ∧ Rds .i64 w' w'.heap.size A L ∧ Below u.heap.size u w') := Lib.hid (fun u t => by
      rw [hN, hL]; exact (i_TileBoxes W H P A1 c1 xs u t.ra (by omega)).mono (fun e w' h => tiles_c h))
    have HS : Hid (∀ u, OneB w bg (imC W H P (.slice A1 xs.length c1)) A1 xs u → Calls Try.prog 17 #[.agg #[.int .i64 W, .int .i64 H, .int .i64 P, .slice A1 xs.length c1]] u fun e w' => ∃ A c, e = .returned (.slice A N c) ∧ Rds .i64 w' w'.heap.size A L ∧ Below u.heap.size u w') := Lib.hid (fun u t => by
      rw [hN, hL]; exact (s_TileBoxes W H P A1 c1 xs u t.ra (by omega)).mono (fun e w' h => tiles_c h))
    have HLN : Hid (L.length = N * 4 ∧ N ≤ 16) := Lib.hid (by rw [hN, hL]; exact ⟨tL_len _ _ _ _, tN_le _ _ _ _⟩)
    have hN16 := HLN.out.2
    have HQ : Hid (N ≠ 0 → ∃ w h : Nat, W = w ∧ H = h ∧ (1 ≤ w ∧ w ≤ 16) ∧ (1 ≤ h ∧ h ≤ 16) ∧ N = tcnt w h ∧ L = tileL w h (tcnt w h)) := Lib.hid (by rw [hN, hL]; exact til_some)
    have HU := Lib.hid hu
    have Hbg := Lib.hid hbg
    clear hr1 hb1 hu hbg hN hL
    go_wp2_with fail
    rw [← HU.out, ← Hbg.out]
    clear HU Hbg
    refine (HI.out u HT1.out).mono ?_
    rintro e w2 ⟨A3, c3, rfl, hr, hb⟩
    have HT2 := Lib.hid (HT1.out.call hb)
    have HR2 := Lib.hid hr
    clear hr hb HT1 HI
    obtain ⟨a0, a1, a2, a3⟩ := HT2.out.xa.im
    go_wp2_with fail
    refine (HS.out w2 HT2.out).mono ?_
    rintro e w3 ⟨D2, d2, rfl, hr, hb⟩
    have HT3 := Lib.hid (HT2.out.call hb)
    have HR3 := Lib.hid (rds_call HR2.out hb)
    have HD3 := Lib.hid hr
    clear hr hb HT2 HR2 a0 a1 a2 a3
    go_wp2_with fail
    refine (equalBoxes_same A3 D2 N c3 d2 L w3.heap.size w3.heap.size w3 HLN.out.1 HR3.out HD3.out (by omega)).mono ?_
    rintro e w4 ⟨rfl, m, hm2⟩
    have hb : Below w3.heap.size w3 w4 := by rw [hm2]; exact ⟨rfl, rfl, rfl, Nat.le_refl _, fun _ _ => rfl⟩
    have HT4 := Lib.hid (HT3.out.call hb)
    have HR4 := Lib.hid (rds_call HR3.out hb)
    clear hm2 hb HT3 HR3 HD3 m
    by_cases hN0 : N = 0
    · subst hN0
      obtain ⟨a0, a1, a2, a3⟩ := HT4.out.xa.im
      go_wp2_with fail
      refine (HS.out w4 HT4.out).mono ?_
      rintro e w5 ⟨D4, d4, rfl, hr, hb⟩
      have HT5 := Lib.hid (HT4.out.call hb)
      have HR5 := Lib.hid (rds_call HR4.out hb)
      have HD5 := Lib.hid hr
      clear hr hb HT4 HR4 a0 a1 a2 a3
      go_wp2_with fail
      refine (equalBoxes_same A3 D4 0 c3 d4 L w5.heap.size w5.heap.size w5 HLN.out.1 HR5.out HD5.out (by omega)).mono ?_
      rintro e w6 ⟨rfl, m, hm4⟩
      have hb : Below w5.heap.size w5 w6 := by rw [hm4]; exact ⟨rfl, rfl, rfl, Nat.le_refl _, fun _ _ => rfl⟩
      have HT6 := Lib.hid (HT5.out.call hb)
      have HR6 := Lib.hid (rds_call HR5.out hb)
      clear hm4 hb HT5 HR5 HD5 m
      have HB := Lib.hid HT6.out.be
      clear HT6 HR6
      go_wp2
      go_ret
      exact ⟨rfl, HB.out⟩
    · have hNI : ((N : Int) == 0) = false := beq_eq_false_iff_ne.2 (by omega)
      obtain ⟨nw, nh, hW, hH, hw, hh, hNe, hLe⟩ := HQ.out hN0
      subst hW
      subst hH
      obtain ⟨S, hS⟩ : ∃ F : Nat → Int, F = smT nw nh := ⟨_, rfl⟩
      obtain ⟨NN, hNN⟩ : ∃ F : Nat → Nat, F = fun k => rnN (unT nw nh k) := ⟨_, rfl⟩
      obtain ⟨LL, hLL⟩ : ∃ F : Nat → List Int, F = fun k => rnL (unT nw nh k) := ⟨_, rfl⟩
      obtain ⟨fx, hfx⟩ : ∃ F : Nat → Int, F = tX nw := ⟨_, rfl⟩
      obtain ⟨fy, hfy⟩ : ∃ F : Nat → Int, F = tY nw := ⟨_, rfl⟩
      obtain ⟨fw, hfw⟩ : ∃ F : Nat → Int, F = fun k => tsd nw (tX nw k) := ⟨_, rfl⟩
      obtain ⟨fh, hfh⟩ : ∃ F : Nat → Int, F = fun k => tsd nh (tY nw k) := ⟨_, rfl⟩
      have HStep : Hid (∀ k, k < N → ftB (fx k) (fy k) (fw k) (fh k) 16 16 = true ∧ (1 ≤ fw k ∧ fw k ≤ 4) ∧ (1 ≤ fh k ∧ fh k ≤ 4) ∧ areaV (brL (fx k) (fy k) (fw k) (fh k)) (brN (fx k) (fy k) (fw k) (fh k)) = fw k * fh k ∧ (0 ≤ fw k * fh k ∧ fw k * fh k ≤ 16) ∧ S (k + 1) = S k + fw k * fh k ∧
          cbL 0 (LL k) (NN k) (brL (fx k) (fy k) (fw k) (fh k)) (brN (fx k) (fy k) (fw k) (fh k)) = LL (k + 1) ∧ cbN 0 (LL k) (NN k) (brL (fx k) (fy k) (fw k) (fh k)) (brN (fx k) (fy k) (fw k) (fh k)) = NN (k + 1) ∧
          L.getD (k * 4) 0 = fx k ∧ L.getD (k * 4 + 1) 0 = fy k ∧ L.getD (k * 4 + 2) 0 = fw k ∧ L.getD (k * 4 + 3) 0 = fh k) := Lib.hid (fun k hk => by
        rw [hS, hNN, hLL, hfx, hfy, hfw, hfh, hLe]
        rw [hNe] at hk
        dsimp only
        obtain ⟨f1, f2, f3⟩ := tile_ft hw hh hk
        have m1 := Int.mul_le_mul f2.2 f3.2 (by omega) (by omega)
        have m0 := Int.mul_nonneg (show (0 : Int) ≤ tsd nw (tX nw k) by omega) (show (0 : Int) ≤ tsd nh (tY nw k) by omega)
        obtain ⟨_, _, _, _, _, _, ha, _⟩ := box_law f1
        obtain ⟨s1, s2⟩ := til_step hw hh hk
        exact ⟨f1, f2, f3, ha, ⟨m0, by omega⟩, rfl, s1, s2, tileL_get nw nh _ k hk⟩)
      have HLL : Hid (∀ k, (LL k).length = 3 * NN k ∧ NN k ≤ 272) := Lib.hid (fun k => by rw [hLL, hNN]; exact rnL_len _)
      have HSb : Hid (∀ k, k ≤ N → 0 ≤ S k ∧ S k ≤ 256) := Lib.hid (fun k hk => by
        rw [hS]; rw [hNe] at hk
        have := smT_bd hw hh k hk
        have : k ≤ 16 := by omega
        omega)
      have HEnd : Hid (S N = (nw : Int) * nh ∧ areaV (LL N) (NN N) = (nw : Int) * nh ∧ 0 ≤ (nw : Int) * nh ∧ (nw : Int) * nh ≤ 256) := Lib.hid (by
        rw [hS, hLL, hNN, hNe]
        have m1 := Int.mul_le_mul (show (nw : Int) ≤ 16 by omega) (show (nh : Int) ≤ 16 by omega) (by omega) (by omega)
        exact ⟨smT_sum nw (by omega) nh (by omega), til_all hw hh, Int.mul_nonneg (by omega) (by omega), by omega⟩)
      have HL0 : Hid (LL 0 = [] ∧ NN 0 = 0 ∧ S 0 = 0) := Lib.hid (by
        have e : rnL (unT nw nh 0) = [] := by show rnL (fun _ _ => false) = []; decide +kernel
        rw [hLL, hNN, hS]
        refine ⟨e, ?_, rfl⟩
        show rnN (unT nw nh 0) = 0
        unfold rnN; rw [e]; rfl)
      have HI0 : Hid (OneB w bg (imC (nw : Int) (nh : Int) P (.slice A1 xs.length c1)) A1 xs w4 ∧ Rds .i64 w4 w4.heap.size A3 L) := Lib.hid ⟨HT4.out, HR4.out⟩
      clear hS hNN hLL hfx hfy hfw hfh hNe hLe HQ HT4 HR4 HS
      go_wp2
      go_loopw [5, 6, 7] (fun v s i wr => ∃ (k : Nat) (A : Option Addr) (c : Nat), k ≤ N ∧ i = .int .i64 (k : Int) ∧ s = .int .i64 (S k) ∧ v = .slice A (NN k) c ∧ Hid ((OneB w bg (imC (nw : Int) (nh : Int) P (.slice A1 xs.length c1)) A1 xs wr ∧ Rds .i64 wr wr.heap.size A3 L) ∧ Rds .i64 wr wr.heap.size A (LL k))) (fun _ _ i _ => (N - intOf i).toNat)
      case atStart =>
        refine ⟨0, _, _, Nat.zero_le _, rfl, by rw [HL0.out.2.2], by rw [HL0.out.2.1], Lib.hid ⟨⟨HI0.out.1.alloc _, rds_alloc HI0.out.2 _⟩, ?_⟩⟩
        rw [HL0.out.1]
        exact .inl rfl
      case round =>
        clear HI0 HL0
        obtain ⟨k, A, c, hk, rfl, rfl, rfl, hI⟩ := hrel
        rename World => wx
        have HT := Lib.hid hI.out.1.1
        have HR := Lib.hid hI.out.1.2
        have HL := Lib.hid hI.out.2
        clear hI
        by_cases hlt : k < N
        · obtain ⟨f1, ⟨w0, w1⟩, ⟨h0, h1⟩, ha, ⟨m0, m1⟩, hs, hcl, hcn, g0, g1, g2, g3⟩ := HStep.out k hlt
          have sb := HSb.out k (by omega)
          have hl := HLL.out k
          have hln := hl.2
          have Hl := Lib.hid hl.1
          have hbl : (brL (fx k) (fy k) (fw k) (fh k)).length = 3 * brN (fx k) (fy k) (fw k) (fh k) := by unfold brL; rw [brow_len]; omega
          have hbn := brN_le (fx k) (fy k) (fw k) (fh k)
          have HBR : Hid (∀ u, Calls Try.prog 18 #[.agg #[.int .i64 (fx k), .int .i64 (fy k), .int .i64 (fw k), .int .i64 (fh k)]] u fun e w' => ∃ A c, e = .returned (.tuple #[.slice A (brN (fx k) (fy k) (fw k) (fh k)) c, .bool true]) ∧ Rds .i64 w' w'.heap.size A (brL (fx k) (fy k) (fw k) (fh k)) ∧ Below u.heap.size u w') := Lib.hid (fun u => by
            refine (i_BoxRegion (fx k) (fy k) (fw k) (fh k) u).mono ?_
            rintro e w' ⟨v, rfl, hO, hb⟩
            rw [f1]
            obtain ⟨A, c, rfl, _⟩ := hO.slice
            exact ⟨A, c, rfl, hO.rds, hb⟩)
          have Hha := Lib.hid ha
          have Hhs := Lib.hid hs
          have Hcl := Lib.hid hcl
          have Hcn := Lib.hid hcn
          have Hbl := Lib.hid hbl
          clear f1 ha hs hcl hcn hbl HStep HSb HEnd HLL hl
          generalize brL (fx k) (fy k) (fw k) (fh k) = bl at *
          generalize brN (fx k) (fy k) (fw k) (fh k) = bn at *
          have t0 : k * 4 < L.length := by have := HLN.out.1; omega
          have t1 : k * 4 + 1 < L.length := by have := HLN.out.1; omega
          have t2 : k * 4 + 2 < L.length := by have := HLN.out.1; omega
          have t3 : k * 4 + 3 < L.length := by have := HLN.out.1; omega
          obtain ⟨b, off, rfl, hb0, hc⟩ := HR.out.cells_ t0
          have hc0 : wx.cell? ⟨b, off + k * 4, none⟩ = some (.int .i64 (fx k)) := by rw [← g0]; exact hc _ t0
          have hc1 : wx.cell? ⟨b, off + k * 4 + 1, none⟩ = some (.int .i64 (fy k)) := by rw [← g1]; exact hc _ t1
          have hc2 : wx.cell? ⟨b, off + k * 4 + 2, none⟩ = some (.int .i64 (fw k)) := by rw [← g2]; exact hc _ t2
          have hc3 : wx.cell? ⟨b, off + k * 4 + 3, none⟩ = some (.int .i64 (fh k)) := by rw [← g3]; exact hc _ t3
          have hkI : (k : Int) < (N : Int) := by omega
          clear hc g0 g1 g2 g3 t0 t1 t2 t3
          generalize hX : fx k = X at *
          generalize hY : fy k = Y at *
          generalize hbw : fw k = bw at *
          generalize hbh : fh k = bh at *
          generalize hSk : S k = sk at *
          clear hX hY hbw hbh hSk
          go_wp2_with fail
          refine (HBR.out _).mono ?_
          rintro e w5 ⟨D, d, rfl, hr, hb⟩
          have d2 : w5.cell? ⟨b, off + k * 4 + 2, none⟩ = some (.int .i64 bw) := (World.cell?_of_block (hb.block b hb0)).trans hc2
          have d3 : w5.cell? ⟨b, off + k * 4 + 3, none⟩ = some (.int .i64 bh) := (World.cell?_of_block (hb.block b hb0)).trans hc3
          have HT5 := Lib.hid (HT.out.call hb)
          have HR5 := Lib.hid (rds_call HR.out hb)
          have HL5 := Lib.hid (rds_call HL.out hb)
          have HD5 := Lib.hid hr
          have nw4 : ¬ 4 < bw := by omega
          have nh4 : ¬ 4 < bh := by omega
          clear hr hb HT HR HL hc0 hc1 hc2 hc3 HBR hb0
          go_wp2_with fail
          refine (i_AreaOf D bn d w5.heap.size bl w5 Hbl.out HD5.out (Nat.le_refl _) (by omega)).mono ?_
          rintro e w6 ⟨rfl, hb⟩
          rw [Hha.out]
          generalize bw * bh = ar at *
          have HT6 := Lib.hid (HT5.out.call hb)
          have HR6 := Lib.hid (rds_call HR5.out hb)
          have HL6 := Lib.hid (rds_call HL5.out hb)
          have HD6 := Lib.hid (rds_call HD5.out hb)
          clear hb HT5 HR5 HL5 HD5 d2 d3
          go_wp2_with fail
          refine (combined_any A D (NN k) bn c d (LL k) bl 0 w6 Hl.out HL6.out (by omega) Hbl.out HD6.out (by omega)).mono ?_
          rintro e w7 ⟨v7, rfl, hO, hb⟩
          rw [Hcl.out, Hcn.out] at hO
          obtain ⟨A7, c7, rfl, _⟩ := hO.slice
          have HN : Hid ((OneB w bg (imC (nw : Int) (nh : Int) P (.slice A1 xs.length c1)) A1 xs w7 ∧ Rds .i64 w7 w7.heap.size (some ⟨b, off, none⟩) L) ∧ Rds .i64 w7 w7.heap.size A7 (LL (k + 1))) := Lib.hid ⟨⟨HT6.out.call hb, rds_call HR6.out hb⟩, hO.rds⟩
          clear hb hO HT6 HR6 HL6 HD6 Hcl Hcn
          go_wp2
          go_roundw
          case rel => exact ⟨k + 1, A7, c7, by omega, by go_num, by rw [Hhs.out], rfl, HN⟩
          case measure => simp [intOf]; omega
        · have hkN : k = N := by omega
          subst hkN
          obtain ⟨q0, q1, q2, q3⟩ := HEnd.out
          have hl := HLL.out k
          have hln := hl.2
          have Hl := Lib.hid hl.1
          obtain ⟨a0, a1, a2, a3⟩ := HT.out.xa.im
          rw [q0]
          have HQ1 := Lib.hid q1
          have al := HT.out.xa.lt
          clear q0 q1 HEnd HLL HStep HSb hl hlt
          generalize hq : (nw : Int) * (nh : Int) = q at *
          have hkI : ¬ (k : Int) < (k : Int) := by omega
          go_wp2_with fail
          refine (i_AreaOf A (NN k) c wx.heap.size (LL k) wx Hl.out HL.out (Nat.le_refl _) (by omega)).mono ?_
          rintro e w5 ⟨rfl, hb⟩
          rw [HQ1.out]
          have HB := Lib.hid (HT.out.call hb).be
          clear hb HT HR HL a0 a1 a2 a3 al
          go_wp2
          go_ret
          exact ⟨by simp, HB.out⟩

/-! ### From the walk to the statement. -/
theorem own : ownKnob Try.prog.godebug = none := by kernel_rfl
theorem laidOut : laidOutB Try.prog = true := by kernel_rfl
set_option maxRecDepth 100000 in
theorem lifted (os : Os) (started : os.Started) (H : Type) (enc : TypeId × Value → H) :
    ReturnsInHanded {} Try.checked os 4 .any (Rows.fnTileBoxesSpec.pre6 enc Try.prog Try.f4 Rows.fnTileBoxesRow.domain false) (Rows.fnTileBoxesSpec.post enc Try.prog Try.f4 false true false false) := by
  refine returnsInHanded_of_change (C := Try.checked) own started (by kernel_rfl) Try.func4
    (ChangeSpec.witness6 (enc := enc) (C := Try.checked) false ⟨#[], #[.slice none 0 0], []⟩ 8 (by kernel_rfl) (by kernel_rfl) (by kernel_rfl) (by kernel_rfl)) ?_
  intro W base args ds gs before hval0 hW hcnd _
  have hval : ∀ (j : Nat) t v, Try.f4.params[j]? = some t → args[j]? = some v → Value.okWide Try.prog W .any base t v := hval0
  have hW' := hW
  obtain ⟨p, q, hA0, hV, rfl, hfz, hnd⟩ := hW
  have hA : DataW.TrodAll enc Try.prog W 0 (fun _ => true) true Try.f4.params.toList args.toList ds p := hA0
  rw [Try.params4] at hA hval
  obtain ⟨v0, vs0, d0, ds0, p0, q0, hargs, rfl, rfl, h0, r0⟩ := trodAll_cons hA
  obtain ⟨rfl, rfl, rfl⟩ := trodAll_nil r0
  obtain rfl : args = #[v0] := by cases args; simp_all
  obtain ⟨rfl, rfl⟩ := trodVars_none hV
  obtain ⟨a0, len0, cap0, rfl⟩ := okWide_slice Try.underlying22 (hval 0 22 v0 rfl rfl)
  have k0 := h0
  have lt0 : ∀ x ∈ p0, x.block < W.heap.size := by obtain ⟨m, hm⟩ := k0; exact DataW.trod_lt m _ _ _ hm
  obtain ⟨z0, hl0, hc0, w0⟩ : ∃ zs : List Int, len0 = zs.length ∧ zs.length ≤ cap0 ∧ Rdw .u8 W W.heap.size a0 zs := by
    obtain ⟨fuel, hf⟩ := h0
    rcases open_ints Try.underlying22 Try.underlying5 (by kernel_rfl) hf with ⟨hcs, _⟩ | ⟨x, l, c, zs, hcs, _, hl, hm, hz, _, hcell, hwz⟩
    · simp [Value.cells] at hcs
      obtain ⟨rfl, rfl, rfl⟩ := hcs
      exact ⟨[], rfl, Nat.le_refl _, Rdw.nil⟩
    · simp [Value.cells] at hcs
      obtain ⟨rfl, rfl, rfl⟩ := hcs
      exact ⟨zs.take len0, by simp at hz ⊢; omega, by simp at hz ⊢; omega, Rdw.of_row hl hm (by simpa using hz) hcell hwz⟩
  subst hl0
  clear hA0 hval0
  refine (walk W a0 cap0 z0 hc0 w0).mono fun e W' ⟨he, bel⟩ => ?_
  subst he
  exact ⟨_, rfl, _, _, _, [], _, [], hW', trodAll_mk1 (shut_bool Try.underlying4 _), (trodAll_cons_mk (Below.trod laidOut (by kernel_rfl) (of_decide_eq_true (by kernel_rfl)) k0 bel lt0) trodAll_mk0), rfl, bel.frame _, fun h => by cases h⟩

theorem over : Rows.fnTileBoxesRow.holds Try.pinned (OpenSpec.ofChange Rows.fnTileBoxesSpec) :=
  OpenClaim.holds_of_wide 4 Try.f4 rfl rfl rfl rfl rfl rfl rfl ⟨rfl, rfl, rfl, rfl, rfl⟩ rfl rfl rfl rfl rfl (by kernel_rfl) Try.func4 (by kernel_rfl)
    (of_decide_eq_true (by kernel_rfl)) (by unfold Func.isWrapper; first | (rw [if_pos (by decide +kernel)]; kernel_rfl) | (rw [if_neg (by decide +kernel)]; exact ⟨rfl, rfl⟩))
    (fun os started H enc _ => lifted os started H enc)

theorem proved : Rows.FnTileBoxesSaid := over
end Go.Proofs.Ytlmpkanlfhjijaa.fnTileBoxes
