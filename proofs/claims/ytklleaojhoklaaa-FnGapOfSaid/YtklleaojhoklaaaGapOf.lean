/- Whatever the code: the gap of two drawn images is what the model tells; it is 0 exactly for equal images, the same in both orders and that of both inverted images. -/
import Derived.Test.YtklleaojhoklaaaRows
import Derived.WalkKit
import Derived.ProofKit
import Derived.OpenShut
import Derived.ShutString
import Derived.ChangeOld
import Derived.Below
import Derived.Test.YtklleaojhoklaaaDrawMsk
import Derived.Test.YtklleaojhoklaaaGap
import Derived.Test.YtklleaojhoklaaaMapI
import Derived.Test.YtklleaojhoklaaaLEqImg
import Derived.Deep.RegionHeld3
namespace Go.Proofs.Ytklleaojhoklaaa.fnGapOf
open Go.ChangeShapes Go.WideShapes Go.ChangeAt Go.RowKit
open Go.ChangeMaps (open_string shut_string)
set_option linter.unusedVariables false

/-- Two images that are read while calls go by, and their boxes. -/
structure TwoB (w : World) (g h : Nat) (ca cb : Array Value) (A1 A2 : Option Addr) (xs ys : List Int) (u : World) : Prop where
  ra : Rds .i64 u u.heap.size A1 xs
  rb : Rds .i64 u u.heap.size A2 ys
  xa : Bx u g 25 ca
  xb : Bx u h 25 cb
  be : Below w.heap.size w u
theorem TwoB.call {w u u' : World} {g h : Nat} {ca cb : Array Value} {A1 A2 : Option Addr} {xs ys : List Int} (t : TwoB w g h ca cb A1 A2 xs ys u) (hb : Below u.heap.size u u') : TwoB w g h ca cb A1 A2 xs ys u' :=
  ⟨(t.ra.below hb).more hb.size, (t.rb.below hb).more hb.size, (hb.block g t.xa.lt).trans t.xa, (hb.block h t.xb.lt).trans t.xb, t.be.trans (hb.mono t.be.size)⟩
theorem lEqImg_dec (X Y Z : Int) (A A' : Option Addr) (c c' : Nat) (xs ys : List Int) (w : World) (hx : Rds .i64 w w.heap.size A xs) (hy : Rds .i64 w w.heap.size A' ys) (hl : xs.length ≤ 2000000) (hl' : ys.length ≤ 2000000) :
    Calls Try.prog 11 #[.agg #[.int .i64 X, .int .i64 Y, .int .i64 Z, .slice A xs.length c], .agg #[.int .i64 X, .int .i64 Y, .int .i64 Z, .slice A' ys.length c']] w fun e w' => e = .returned (.bool (decide (xs = ys))) ∧ Below w.heap.size w w' := by
  have Hx := Lib.hid hx
  have Hy := Lib.hid hy
  clear hx hy
  go_enter Try.func11, Try.ntmps11
  go_wp2_with fail
  refine (lEqualInts_any A A' c c' xs ys w.heap.size w.heap.size _ ((Hx.out.alloc (Nat.le_refl _) _).alloc (by simp) _) ((Hy.out.alloc (Nat.le_refl _) _).alloc (by simp) _) (by omega) (by omega)).mono ?_
  rintro e w' ⟨rfl, m, rfl⟩
  have HB : Hid (Below w.heap.size w _) := Lib.hid (below_dm (((Below.refl w.heap.size w).alloc (Nat.le_refl _) (.cells #[.int .i64 X, .int .i64 Y, .int .i64 Z, .slice A xs.length c] 25)).alloc (by simp) (.cells #[.int .i64 X, .int .i64 Y, .int .i64 Z, .slice A' ys.length c'] 25)) m)
  go_wp2
  go_ret
  exact ⟨by simp, HB.out⟩
theorem inv_get {xs : List Int} {j : Nat} (hj : j < xs.length) : (inv xs).getD j 0 = 255 - xs.getD j 0 := by
  unfold inv; simp [List.getD_eq_getElem?_getD, hj]
/-- The gap of two images of one shape. -/
theorem gap_law {W H P W' H' P' : Int} {xs ys : List Int} (h : cmpB W H P xs W' H' P' ys = true) : (W = W' ∧ H = H' ∧ P = P') ∧ 0 ≤ gapV W H P xs W' H' P' ys ∧ ((gapV W H P xs W' H' P' ys == 0) = decide (xs = ys)) ∧
    gapV W' H' P' ys W H P xs = gapV W H P xs W' H' P' ys ∧ vim W H P xs = true ∧ vim W' H' P' ys = true ∧ gapV W H P (inv xs) W' H' P' (inv ys) = gapV W H P xs W' H' P' ys := by
  obtain ⟨hl, hb, hb'⟩ := cmpB_of h
  have hc := h
  unfold cmpB at hc
  simp only [Bool.and_eq_true, decide_eq_true_eq] at hc
  obtain ⟨v1, v2, rfl, rfl, rfl⟩ := hc
  have e2 : cmpB W H P ys W H P xs = true := by unfold cmpB; rw [v1, v2]; simp
  have e3 : cmpB W H P (inv xs) W H P (inv ys) = true := by unfold cmpB; rw [vim_inv v1, vim_inv v2]; simp
  have g1 : gapV W H P xs W H P ys = gapN xs ys xs.length := by unfold gapV; rw [h, if_pos rfl]
  have g2 : gapV W H P ys W H P xs = gapN ys xs ys.length := by unfold gapV; rw [e2, if_pos rfl]
  have g3 : gapV W H P (inv xs) W H P (inv ys) = gapN (inv xs) (inv ys) (inv xs).length := by unfold gapV; rw [e3, if_pos rfl]
  rw [g1, g2, g3]
  refine ⟨⟨rfl, rfl, rfl⟩, gapN_mono _ _ _, ?_, ?_, v1, v2, ?_⟩
  · by_cases e : xs = ys
    · subst e; rw [gapN_self]; simp
    · rw [decide_eq_false e]
      refine beq_eq_false_iff_ne.2 (fun h0 => e ?_)
      refine List.ext_getElem hl.symm (fun j h1 h2 => ?_)
      have := gapN_zero h0 j h1
      simpa [List.getD_eq_getElem?_getD, h1, h2] using this
  · rw [hl]; exact gapN_comm _ _ _
  · rw [inv_len]
    refine gapN_congr _ (fun j hj => ?_)
    rw [inv_get hj, inv_get (by omega)]
    unfold sq
    rw [show 255 - xs.getD j 0 - (255 - ys.getD j 0) = -(xs.getD j 0 - ys.getD j 0) by omega, Int.neg_mul_neg]
theorem TwoB.drew {w u : World} {g h : Nat} {ca cb : Array Value} {A1 A2 : Option Addr} {xs ys : List Int} (t : TwoB w g h ca cb A1 A2 xs ys u) : TwoB w g h ca cb A1 A2 xs ys u.drew :=
  ⟨t.ra, t.rb, t.xa, t.xb, t.be.drew⟩
set_option maxHeartbeats 32000000 in
theorem walk (w : World) (a0 : Option Addr) (cap0 : Nat) (z0 : List Int) (hc0 : z0.length ≤ cap0) (w0 : Rdw .u8 w w.heap.size a0 z0) :
    Calls Try.prog 3 #[.slice a0 z0.length cap0] w fun e w' => e = .returned (.bool true) ∧ Below w.heap.size w w' := by
  have hm := w0.2.1
  unfold maxLen at hm
  by_cases hlen : 1048576 < z0.length
  · go_enter Try.func3, Try.ntmps3
    go_wp2
    go_ret
    exact ⟨rfl, Below.refl _ _⟩
  · have HD := Lib.hid (drawGap_any a0 cap0 z0 w hc0 w0)
    clear w0 hc0
    go_enter Try.func3, Try.ntmps3
    go_wp2_with fail
    refine HD.out.mono ?_
    rintro e w1 ⟨W, H, P, A1, c1, xs, W', H', P', A2, c2, ys, rfl, ⟨hx1, hy1⟩, hc1, hc2, hr1, hr2, hb1⟩
    obtain ⟨u, hu⟩ : ∃ u, u = (w1.alloc (.cells #[.int .i64 W, .int .i64 H, .int .i64 P, .slice A1 xs.length c1] 25)).alloc (.cells #[.int .i64 W', .int .i64 H', .int .i64 P', .slice A2 ys.length c2] 25) := ⟨_, rfl⟩
    obtain ⟨bg, hbg⟩ : ∃ b, b = w1.heap.size := ⟨_, rfl⟩
    obtain ⟨bh, hbh⟩ : ∃ b, b = w1.heap.size + 1 := ⟨_, rfl⟩
    have HT1 : Hid (TwoB w bg bh (imC W H P (.slice A1 xs.length c1)) (imC W' H' P' (.slice A2 ys.length c2)) A1 A2 xs ys u) := Lib.hid (by
      rw [hu]
      have xb := Bx.new (w1.alloc (.cells #[.int .i64 W, .int .i64 H, .int .i64 P, .slice A1 xs.length c1] 25)) 25 (imC W' H' P' (.slice A2 ys.length c2))
      refine ⟨((hr1.alloc (Nat.le_refl _) _).alloc (by simp) _).more (by simp <;> omega), ((hr2.alloc (Nat.le_refl _) _).alloc (by simp) _).more (by simp <;> omega), by rw [hbg]; exact (Bx.new w1 _ _).alloc _, by rw [hbh]; simpa [imC] using xb, (hb1.alloc hb1.size _).alloc (by have := hb1.size; simp; omega) _⟩)
    obtain ⟨n, hn⟩ : ∃ n, n = gapV W H P xs W' H' P' ys := ⟨_, rfl⟩
    have HI : Hid (∀ u, TwoB w bg bh (imC W H P (.slice A1 xs.length c1)) (imC W' H' P' (.slice A2 ys.length c2)) A1 A2 xs ys u → Calls Try.prog 9 #[.agg #[.int .i64 W, .int .i64 H, .int .i64 P, .slice A1 xs.length c1], .agg #[.int .i64 W', .int .i64 H', .int .i64 P', .slice A2 ys.length c2]] u fun e w' => e = .returned (.int .i64 n) ∧ Below u.heap.size u w') := Lib.hid (fun u t => by
      rw [hn]; exact i_GapOf W H P W' H' P' A1 A2 c1 c2 xs ys u t.ra (by omega) hc1 t.rb (by omega) hc2)
    have HS : Hid (∀ u, TwoB w bg bh (imC W H P (.slice A1 xs.length c1)) (imC W' H' P' (.slice A2 ys.length c2)) A1 A2 xs ys u → Calls Try.prog 10 #[.agg #[.int .i64 W, .int .i64 H, .int .i64 P, .slice A1 xs.length c1], .agg #[.int .i64 W', .int .i64 H', .int .i64 P', .slice A2 ys.length c2]] u fun e w' => e = .returned (.int .i64 n) ∧ Below u.heap.size u w') := Lib.hid (fun u t => by
      rw [hn]; exact s_GapOf W H P W' H' P' A1 A2 c1 c2 xs ys u t.ra (by omega) hc1 t.rb (by omega) hc2)
    have HU := Lib.hid hu
    have Hbg := Lib.hid hbg
    have Hbh := Lib.hid hbh
    have Hn := Lib.hid hn
    clear hr1 hr2 hb1 hu hbg hbh hn
    go_wp2_with fail
    rw [← HU.out, ← Hbh.out, ← Hbg.out]
    clear HU Hbg Hbh
    refine (HI.out u HT1.out).mono ?_
    rintro e u2 ⟨rfl, hb⟩
    have HT2 := Lib.hid (HT1.out.call hb)
    clear hb HT1 HI
    obtain ⟨a0, a1, a2, a3⟩ := HT2.out.xa.im
    obtain ⟨b0, b1, b2, b3⟩ := HT2.out.xb.im
    go_wp2_with fail
    refine (HS.out u2 HT2.out).mono ?_
    rintro e u3 ⟨rfl, hb⟩
    have HT3 := Lib.hid (HT2.out.call hb)
    clear hb HT2 a0 a1 a2 a3 b0 b1 b2 b3
    obtain ⟨a0, a1, a2, a3⟩ := HT3.out.xa.im
    obtain ⟨b0, b1, b2, b3⟩ := HT3.out.xb.im
    cases hv : cmpB W H P xs W' H' P' ys
    · have hn1 : n = -1 := by rw [Hn.out]; unfold gapV; rw [hv]; rfl
      clear Hn hv
      subst hn1
      go_wp2_with fail
      refine (HS.out u3 HT3.out).mono ?_
      rintro e u4 ⟨rfl, hb⟩
      have HB := Lib.hid (HT3.out.call hb).be
      clear hb HT3 a0 a1 a2 a3 b0 b1 b2 b3
      go_wp2
      go_ret
      exact ⟨rfl, HB.out⟩
    · obtain ⟨⟨rfl, rfl, rfl⟩, k0, k1, k2, v1, v2, k3⟩ := gap_law hv
      rw [← Hn.out] at k0 k1 k2 k3
      obtain ⟨eqb, heq⟩ : ∃ b, b = decide (xs = ys) := ⟨_, rfl⟩
      rw [← heq] at k1
      obtain ⟨Ia, hIa⟩ : ∃ I, I = inv xs := ⟨_, rfl⟩
      obtain ⟨Ib, hIb⟩ : ∃ I, I = inv ys := ⟨_, rfl⟩
      rw [← hIa, ← hIb] at k3
      have hla : Ia.length ≤ 256 := by rw [hIa, inv_len]; exact hx1
      have hlb : Ib.length ≤ 256 := by rw [hIb, inv_len]; exact hy1
      have K3 := Lib.hid k3
      have HE : Hid (∀ u, TwoB w bg bh (imC W H P (.slice A1 xs.length c1)) (imC W H P (.slice A2 ys.length c2)) A1 A2 xs ys u → Calls Try.prog 11 #[.agg #[.int .i64 W, .int .i64 H, .int .i64 P, .slice A1 xs.length c1], .agg #[.int .i64 W, .int .i64 H, .int .i64 P, .slice A2 ys.length c2]] u fun e w' => e = .returned (.bool eqb) ∧ Below u.heap.size u w') := Lib.hid (fun u t => by
        rw [heq]; exact lEqImg_dec W H P A1 A2 c1 c2 xs ys u t.ra t.rb (by omega) (by omega))
      have HG : Hid (∀ u, TwoB w bg bh (imC W H P (.slice A1 xs.length c1)) (imC W H P (.slice A2 ys.length c2)) A1 A2 xs ys u → Calls Try.prog 9 #[.agg #[.int .i64 W, .int .i64 H, .int .i64 P, .slice A2 ys.length c2], .agg #[.int .i64 W, .int .i64 H, .int .i64 P, .slice A1 xs.length c1]] u fun e w' => e = .returned (.int .i64 n) ∧ Below u.heap.size u w') := Lib.hid (fun u t => by
        rw [← k2]; exact i_GapOf W H P W H P A2 A1 c2 c1 ys xs u t.rb (by omega) hc2 t.ra (by omega) hc1)
      have HIa : Hid (∀ u, TwoB w bg bh (imC W H P (.slice A1 xs.length c1)) (imC W H P (.slice A2 ys.length c2)) A1 A2 xs ys u → Calls Try.prog 12 #[.agg #[.int .i64 W, .int .i64 H, .int .i64 P, .slice A1 xs.length c1]] u fun e w' => ∃ A c, e = .returned (.agg #[.int .i64 W, .int .i64 H, .int .i64 P, .slice A Ia.length c]) ∧ Ia.length ≤ c ∧ Rds .i64 w' w'.heap.size A Ia ∧ Below u.heap.size u w') := Lib.hid (fun u t => (i_Invert W H P A1 c1 xs u t.ra (by omega)).mono (fun e w' h => by
        obtain ⟨v, rfl, hO, hb⟩ := MadeIf.t v1 h
        obtain ⟨A, c, rfl, hc⟩ := hO.slice
        rw [hIa]
        exact ⟨A, c, rfl, hc, hO.rds.2, hb⟩))
      have HIb : Hid (∀ u, TwoB w bg bh (imC W H P (.slice A1 xs.length c1)) (imC W H P (.slice A2 ys.length c2)) A1 A2 xs ys u → Calls Try.prog 12 #[.agg #[.int .i64 W, .int .i64 H, .int .i64 P, .slice A2 ys.length c2]] u fun e w' => ∃ A c, e = .returned (.agg #[.int .i64 W, .int .i64 H, .int .i64 P, .slice A Ib.length c]) ∧ Ib.length ≤ c ∧ Rds .i64 w' w'.heap.size A Ib ∧ Below u.heap.size u w') := Lib.hid (fun u t => (i_Invert W H P A2 c2 ys u t.rb (by omega)).mono (fun e w' h => by
        obtain ⟨v, rfl, hO, hb⟩ := MadeIf.t v2 h
        obtain ⟨A, c, rfl, hc⟩ := hO.slice
        rw [hIb]
        exact ⟨A, c, rfl, hc, hO.rds.2, hb⟩))
      have hnn : ¬ n < 0 := by omega
      clear Hn hv heq hIa hIb k2 k3 v1 v2 HS k0
      · go_wp2
        have HTd := Lib.hid HT3.out.drew
        clear HT3
        refine wp_region_held_drew (S := (fun w' => w'.cell? ⟨bg, 0, none⟩ = some (.int .i64 W) ∧ w'.cell? ⟨bg, 1, none⟩ = some (.int .i64 H) ∧ w'.cell? ⟨bg, 2, none⟩ = some (.int .i64 P) ∧ w'.cell? ⟨bg, 3, none⟩ = some (.slice A1 xs.length c1) ∧ w'.cell? ⟨bh, 0, none⟩ = some (.int .i64 W) ∧ w'.cell? ⟨bh, 1, none⟩ = some (.int .i64 H) ∧ w'.cell? ⟨bh, 2, none⟩ = some (.int .i64 P) ∧ w'.cell? ⟨bh, 3, none⟩ = some (.slice A2 ys.length c2))) (by kernel_rfl) (by exact ⟨a0, a1, a2, a3, b0, b1, b2, b3⟩) (fun hHeld => ?_)
        refine' wpAnyH_take (i := 0) (oi := _) (v := _) ?hi1 (by kernel_rfl) (by kernel_rfl) (by kernel_rfl) ?hq1 (Or.inl ⟨?hw1, ?hy1⟩) (by assumption) ?rest1
        case hi1 => (simp only [List.getElem?_toArray, List.getElem?_cons_succ, List.getElem?_cons_zero]; rfl)
        case hq1 => exact fun _ _ _ h => h
        case hw1 => rfl
        case hy1 => (intro wq hSw; (try dsimp only at hSw); go_simp; (try with_reducible rfl))
        (try simp only [Act.put, List.setIfInBounds_toArray, List.set_cons_zero, List.set_cons_succ])
        refine' wpAnyH_take (i := 1) (oi := _) (v := Value.bool eqb) ?hi2 (by kernel_rfl) (by kernel_rfl) (by kernel_rfl) ?hq2 (Or.inl ⟨?hw2, ?hy2⟩) (by assumption) ?rest2
        case hi2 => (simp only [List.getElem?_toArray, List.getElem?_cons_succ, List.getElem?_cons_zero]; rfl)
        case hq2 => exact fun _ _ _ h => h
        case hw2 => rfl
        case hy2 => (intro wq hSw; (try dsimp only at hSw); go_simp; (first | done | exact k1 | rw [k1] | simp [k1]))
        (try simp only [Act.put, List.setIfInBounds_toArray, List.set_cons_zero, List.set_cons_succ])
        refine' wpAnyH_take (i := 2) (oi := _) (v := _) ?hi3 (by kernel_rfl) (by kernel_rfl) (by kernel_rfl) ?hq3 (Or.inl ⟨?hw3, ?hy3⟩) (by assumption) ?rest3
        case hi3 => (simp only [List.getElem?_toArray, List.getElem?_cons_succ, List.getElem?_cons_zero]; rfl)
        case hq3 => exact fun _ _ _ h => h
        case hw3 => rfl
        case hy3 => (intro wq hSw; (try dsimp only at hSw); go_simp; (try with_reducible rfl))
        (try simp only [Act.put, List.setIfInBounds_toArray, List.set_cons_zero, List.set_cons_succ])
        refine' wpAnyH_take (i := 3) (oi := _) (v := _) ?hi4 (by kernel_rfl) (by kernel_rfl) (by kernel_rfl) ?hq4 (Or.inl ⟨?hw4, ?hy4⟩) (by assumption) ?rest4
        case hi4 => (simp only [List.getElem?_toArray, List.getElem?_cons_succ, List.getElem?_cons_zero]; rfl)
        case hq4 => exact fun _ _ _ h => h
        case hw4 => rfl
        case hy4 => (intro wq hSw; (try dsimp only at hSw); go_simp; (try with_reducible rfl))
        (try simp only [Act.put, List.setIfInBounds_toArray, List.set_cons_zero, List.set_cons_succ])
        refine wpAnyH_ready (rs := [4]) (by kernel_rfl) (by simp) ?_
        refine' AllReadyH.cons (o := _) ?hi5 (fun K hK => ?rest5) AllReadyH.nil
        case hi5 => (simp only [List.getElem?_toArray, List.getElem?_cons_succ, List.getElem?_cons_zero]; rfl)
        go_simp
        go_at_call 11
        refine (HE.out u3.drew HTd.out).mono ?_
        rintro e u4 ⟨rfl, hb⟩
        have HT4 := Lib.hid (HTd.out.call hb)
        clear hb HTd a0 a1 a2 a3 b0 b1 b2 b3
        obtain ⟨a0, a1, a2, a3⟩ := HT4.out.xa.im
        obtain ⟨b0, b1, b2, b3⟩ := HT4.out.xb.im
        go_wp2_with fail
        refine hK.out _ _ (by (try dsimp only); exact ⟨a0, a1, a2, a3, b0, b1, b2, b3⟩) (fun hHeld => ?_)
        clear hK K
        (try simp only [Act.put, List.setIfInBounds_toArray, List.set_cons_zero, List.set_cons_succ])
        refine' wpAnyH_take (i := 5) (oi := _) (v := Value.bool true) ?hi6 (by kernel_rfl) (by kernel_rfl) (by kernel_rfl) ?hq6 (Or.inl ⟨?hw6, ?hy6⟩) (by assumption) ?rest6
        case hi6 => (simp only [List.getElem?_toArray, List.getElem?_cons_succ, List.getElem?_cons_zero]; rfl)
        case hq6 => exact fun _ _ _ h => h
        case hw6 => rfl
        case hy6 => (intro wq hSw; (try dsimp only at hSw); (try go_simp); (first | done | (with_reducible rfl) | rfl | simp))
        (try simp only [Act.put, List.setIfInBounds_toArray, List.set_cons_zero, List.set_cons_succ])
        refine' wpAnyH_take (i := 6) (oi := _) (v := Value.bool true) ?hi7 (by kernel_rfl) (by kernel_rfl) (by kernel_rfl) ?hq7 (Or.inl ⟨?hw7, ?hy7⟩) (by assumption) ?rest7
        case hi7 => (simp only [List.getElem?_toArray, List.getElem?_cons_succ, List.getElem?_cons_zero]; rfl)
        case hq7 => exact fun _ _ _ h => h
        case hw7 => rfl
        case hy7 => (intro wq hSw; (try dsimp only at hSw); (try go_simp); (first | done | (with_reducible rfl) | rfl | simp))
        (try simp only [Act.put, List.setIfInBounds_toArray, List.set_cons_zero, List.set_cons_succ])
        refine' wpAnyH_take (i := 7) (oi := _) (v := _) ?hi8 (by kernel_rfl) (by kernel_rfl) (by kernel_rfl) ?hq8 (Or.inl ⟨?hw8, ?hy8⟩) (by assumption) ?rest8
        case hi8 => (simp only [List.getElem?_toArray, List.getElem?_cons_succ, List.getElem?_cons_zero]; rfl)
        case hq8 => exact fun _ _ _ h => h
        case hw8 => rfl
        case hy8 => (intro wq hSw; (try dsimp only at hSw); go_simp; (try with_reducible rfl))
        (try simp only [Act.put, List.setIfInBounds_toArray, List.set_cons_zero, List.set_cons_succ])
        refine' wpAnyH_take (i := 8) (oi := _) (v := _) ?hi9 (by kernel_rfl) (by kernel_rfl) (by kernel_rfl) ?hq9 (Or.inl ⟨?hw9, ?hy9⟩) (by assumption) ?rest9
        case hi9 => (simp only [List.getElem?_toArray, List.getElem?_cons_succ, List.getElem?_cons_zero]; rfl)
        case hq9 => exact fun _ _ _ h => h
        case hw9 => rfl
        case hy9 => (intro wq hSw; (try dsimp only at hSw); go_simp; (try with_reducible rfl))
        (try simp only [Act.put, List.setIfInBounds_toArray, List.set_cons_zero, List.set_cons_succ])
        refine' wpAnyH_take (i := 10) (oi := _) (v := _) ?hi10 (by kernel_rfl) (by kernel_rfl) (by kernel_rfl) ?hq10 (Or.inl ⟨?hw10, ?hy10⟩) (by assumption) ?rest10
        case hi10 => (simp only [List.getElem?_toArray, List.getElem?_cons_succ, List.getElem?_cons_zero]; rfl)
        case hq10 => exact fun _ _ _ h => h
        case hw10 => rfl
        case hy10 => (intro wq hSw; (try dsimp only at hSw); go_simp; (try with_reducible rfl))
        (try simp only [Act.put, List.setIfInBounds_toArray, List.set_cons_zero, List.set_cons_succ])
        refine wpAnyH_ready (rs := [9]) (by kernel_rfl) (by simp) ?_
        refine' AllReadyH.cons (o := _) ?hi11 (fun K hK => ?rest11) AllReadyH.nil
        case hi11 => (simp only [List.getElem?_toArray, List.getElem?_cons_succ, List.getElem?_cons_zero]; rfl)
        go_simp
        go_at_call 9
        refine (HG.out u4 HT4.out).mono ?_
        rintro e u5 ⟨rfl, hb⟩
        have HT5 := Lib.hid (HT4.out.call hb)
        clear hb HT4 a0 a1 a2 a3 b0 b1 b2 b3
        obtain ⟨a0, a1, a2, a3⟩ := HT5.out.xa.im
        obtain ⟨b0, b1, b2, b3⟩ := HT5.out.xb.im
        go_wp2_with fail
        refine hK.out _ _ (by (try dsimp only); exact ⟨a0, a1, a2, a3, b0, b1, b2, b3⟩) (fun hHeld => ?_)
        clear hK K
        (try simp only [Act.put, List.setIfInBounds_toArray, List.set_cons_zero, List.set_cons_succ])
        refine' wpAnyH_take (i := 11) (oi := _) (v := Value.bool true) ?hi12 (by kernel_rfl) (by kernel_rfl) (by kernel_rfl) ?hq12 (Or.inl ⟨?hw12, ?hy12⟩) (by assumption) ?rest12
        case hi12 => (simp only [List.getElem?_toArray, List.getElem?_cons_succ, List.getElem?_cons_zero]; rfl)
        case hq12 => exact fun _ _ _ h => h
        case hw12 => rfl
        case hy12 => (intro wq hSw; (try dsimp only at hSw); (try go_simp); (first | done | (with_reducible rfl) | rfl | simp))
        (try simp only [Act.put, List.setIfInBounds_toArray, List.set_cons_zero, List.set_cons_succ])
        refine' wpAnyH_take (i := 12) (oi := _) (v := Value.bool true) ?hi13 (by kernel_rfl) (by kernel_rfl) (by kernel_rfl) ?hq13 (Or.inl ⟨?hw13, ?hy13⟩) (by assumption) ?rest13
        case hi13 => (simp only [List.getElem?_toArray, List.getElem?_cons_succ, List.getElem?_cons_zero]; rfl)
        case hq13 => exact fun _ _ _ h => h
        case hw13 => rfl
        case hy13 => (intro wq hSw; (try dsimp only at hSw); (try go_simp); (first | done | (with_reducible rfl) | rfl | simp))
        (try simp only [Act.put, List.setIfInBounds_toArray, List.set_cons_zero, List.set_cons_succ])
        refine' wpAnyH_take (i := 13) (oi := _) (v := Value.bool true) ?hi14 (by kernel_rfl) (by kernel_rfl) (by kernel_rfl) ?hq14 (Or.inl ⟨?hw14, ?hy14⟩) (by assumption) ?rest14
        case hi14 => (simp only [List.getElem?_toArray, List.getElem?_cons_succ, List.getElem?_cons_zero]; rfl)
        case hq14 => exact fun _ _ _ h => h
        case hw14 => rfl
        case hy14 => (intro wq hSw; (try dsimp only at hSw); (try go_simp); (first | done | (with_reducible rfl) | rfl | simp))
        (try simp only [Act.put, List.setIfInBounds_toArray, List.set_cons_zero, List.set_cons_succ])
        refine' wpAnyH_take (i := 14) (oi := _) (v := _) ?hi15 (by kernel_rfl) (by kernel_rfl) (by kernel_rfl) ?hq15 (Or.inl ⟨?hw15, ?hy15⟩) (by assumption) ?rest15
        case hi15 => (simp only [List.getElem?_toArray, List.getElem?_cons_succ, List.getElem?_cons_zero]; rfl)
        case hq15 => exact fun _ _ _ h => h
        case hw15 => rfl
        case hy15 => (intro wq hSw; (try dsimp only at hSw); go_simp; (try with_reducible rfl))
        (try simp only [Act.put, List.setIfInBounds_toArray, List.set_cons_zero, List.set_cons_succ])
        refine' wpAnyH_take (i := 16) (oi := _) (v := _) ?hi16 (by kernel_rfl) (by kernel_rfl) (by kernel_rfl) ?hq16 (Or.inl ⟨?hw16, ?hy16⟩) (by assumption) ?rest16
        case hi16 => (simp only [List.getElem?_toArray, List.getElem?_cons_succ, List.getElem?_cons_zero]; rfl)
        case hq16 => exact fun _ _ _ h => h
        case hw16 => rfl
        case hy16 => (intro wq hSw; (try dsimp only at hSw); go_simp; (try with_reducible rfl))
        (try simp only [Act.put, List.setIfInBounds_toArray, List.set_cons_zero, List.set_cons_succ])
        refine' wpAnyH_take (i := 19) (oi := _) (v := _) ?hi17 (by kernel_rfl) (by kernel_rfl) (by kernel_rfl) ?hq17 (Or.inl ⟨?hw17, ?hy17⟩) (by assumption) ?rest17
        case hi17 => (simp only [List.getElem?_toArray, List.getElem?_cons_succ, List.getElem?_cons_zero]; rfl)
        case hq17 => exact fun _ _ _ h => h
        case hw17 => rfl
        case hy17 => (intro wq hSw; (try dsimp only at hSw); go_simp; (try with_reducible rfl))
        (try simp only [Act.put, List.setIfInBounds_toArray, List.set_cons_zero, List.set_cons_succ])
        refine wpAnyH_ready (rs := [15]) (by kernel_rfl) (by simp) ?_
        refine' AllReadyH.cons (o := _) ?hi18 (fun K hK => ?rest18) AllReadyH.nil
        case hi18 => (simp only [List.getElem?_toArray, List.getElem?_cons_succ, List.getElem?_cons_zero]; rfl)
        go_simp
        go_at_call 12
        refine (HIa.out u5 HT5.out).mono ?_
        rintro e u6 ⟨D1, d1, rfl, hd1, hr, hb⟩
        have HT6 := Lib.hid (HT5.out.call hb)
        have HR6 := Lib.hid hr
        clear hr
        clear hb HT5 a0 a1 a2 a3 b0 b1 b2 b3
        obtain ⟨a0, a1, a2, a3⟩ := HT6.out.xa.im
        obtain ⟨b0, b1, b2, b3⟩ := HT6.out.xb.im
        go_wp2_with fail
        refine hK.out _ _ (by (try dsimp only); exact ⟨a0, a1, a2, a3, b0, b1, b2, b3⟩) (fun hHeld => ?_)
        clear hK K
        (try simp only [Act.put, List.setIfInBounds_toArray, List.set_cons_zero, List.set_cons_succ])
        refine wpAnyH_ready (rs := [17]) (by kernel_rfl) (by simp) ?_
        refine' AllReadyH.cons (o := _) ?hi19 (fun K hK => ?rest19) AllReadyH.nil
        case hi19 => (simp only [List.getElem?_toArray, List.getElem?_cons_succ, List.getElem?_cons_zero]; rfl)
        go_simp
        go_at_call 12
        refine (HIb.out u6 HT6.out).mono ?_
        rintro e u7 ⟨D2, d2, rfl, hd2, hr, hb⟩
        have HT7 := Lib.hid (HT6.out.call hb)
        have HQ7 := Lib.hid hr
        have HR7 := Lib.hid ((HR6.out.below hb).more hb.size)
        clear hr HR6
        clear hb HT6 a0 a1 a2 a3 b0 b1 b2 b3
        obtain ⟨a0, a1, a2, a3⟩ := HT7.out.xa.im
        obtain ⟨b0, b1, b2, b3⟩ := HT7.out.xb.im
        go_wp2_with fail
        refine hK.out _ _ (by (try dsimp only); exact ⟨a0, a1, a2, a3, b0, b1, b2, b3⟩) (fun hHeld => ?_)
        clear hK K
        (try simp only [Act.put, List.setIfInBounds_toArray, List.set_cons_zero, List.set_cons_succ])
        refine wpAnyH_ready (rs := [18]) (by kernel_rfl) (by simp) ?_
        refine' AllReadyH.cons (o := _) ?hi20 (fun K hK => ?rest20) AllReadyH.nil
        case hi20 => (simp only [List.getElem?_toArray, List.getElem?_cons_succ, List.getElem?_cons_zero]; rfl)
        go_simp
        go_at_call 9
        refine (i_GapOf W H P W H P D1 D2 d1 d2 Ia Ib u7 HR7.out (by omega) hd1 HQ7.out (by omega) hd2).mono ?_
        rintro e u8 ⟨rfl, hb⟩
        have HT8 := Lib.hid (HT7.out.call hb)
        rw [K3.out]
        clear HR7 HQ7
        clear hb HT7 a0 a1 a2 a3 b0 b1 b2 b3
        obtain ⟨a0, a1, a2, a3⟩ := HT8.out.xa.im
        obtain ⟨b0, b1, b2, b3⟩ := HT8.out.xb.im
        go_wp2_with fail
        refine hK.out _ _ (by (try dsimp only); exact ⟨a0, a1, a2, a3, b0, b1, b2, b3⟩) (fun hHeld => ?_)
        clear hK K
        (try simp only [Act.put, List.setIfInBounds_toArray, List.set_cons_zero, List.set_cons_succ])
        refine' wpAnyH_take (i := 20) (oi := _) (v := Value.bool true) ?hi21 (by kernel_rfl) (by kernel_rfl) (by kernel_rfl) ?hq21 (Or.inl ⟨?hw21, ?hy21⟩) (by assumption) ?rest21
        case hi21 => (simp only [List.getElem?_toArray, List.getElem?_cons_succ, List.getElem?_cons_zero]; rfl)
        case hq21 => exact fun _ _ _ h => h
        case hw21 => rfl
        case hy21 => (intro wq hSw; (try dsimp only at hSw); (try go_simp); (first | done | (with_reducible rfl) | rfl | simp))
        (try simp only [Act.put, List.setIfInBounds_toArray, List.set_cons_zero, List.set_cons_succ])
        refine' wpAnyH_take (i := 21) (oi := _) (v := Value.bool true) ?hi22 (by kernel_rfl) (by kernel_rfl) (by kernel_rfl) ?hq22 (Or.inl ⟨?hw22, ?hy22⟩) (by assumption) ?rest22
        case hi22 => (simp only [List.getElem?_toArray, List.getElem?_cons_succ, List.getElem?_cons_zero]; rfl)
        case hq22 => exact fun _ _ _ h => h
        case hw22 => rfl
        case hy22 => (intro wq hSw; (try dsimp only at hSw); (try go_simp); (first | done | (with_reducible rfl) | rfl | simp))
        (try simp only [Act.put, List.setIfInBounds_toArray, List.set_cons_zero, List.set_cons_succ])
        refine' wpAnyH_take (i := 22) (oi := _) (v := Value.bool true) ?hi23 (by kernel_rfl) (by kernel_rfl) (by kernel_rfl) ?hq23 (Or.inl ⟨?hw23, ?hy23⟩) (by assumption) ?rest23
        case hi23 => (simp only [List.getElem?_toArray, List.getElem?_cons_succ, List.getElem?_cons_zero]; rfl)
        case hq23 => exact fun _ _ _ h => h
        case hw23 => rfl
        case hy23 => (intro wq hSw; (try dsimp only at hSw); (try go_simp); (first | done | (with_reducible rfl) | rfl | simp))
        (try simp only [Act.put, List.setIfInBounds_toArray, List.set_cons_zero, List.set_cons_succ])
        refine wpAnyH_done (by kernel_rfl) ?_ _
        clear a0 a1 a2 a3 b0 b1 b2 b3
        have HB := Lib.hid HT8.out.be
        go_wp2
        go_ret
        exact ⟨by simp, HB.out⟩

/-! ### From the walk to the statement. -/
theorem own : ownKnob Try.prog.godebug = none := by kernel_rfl
theorem laidOut : laidOutB Try.prog = true := by kernel_rfl
set_option maxRecDepth 100000 in
theorem lifted (os : Os) (started : os.Started) (H : Type) (enc : TypeId × Value → H) :
    ReturnsInHanded {} Try.checked os 3 .any (Rows.fnGapOfSpec.pre6 enc Try.prog Try.f3 Rows.fnGapOfRow.domain false) (Rows.fnGapOfSpec.post enc Try.prog Try.f3 false true false false) := by
  refine returnsInHanded_of_change (C := Try.checked) own started (by kernel_rfl) Try.func3
    (ChangeSpec.witness6 (enc := enc) (C := Try.checked) false ⟨#[], #[.slice none 0 0], []⟩ 8 (by kernel_rfl) (by kernel_rfl) (by kernel_rfl) (by kernel_rfl)) ?_
  intro W base args ds gs before hval0 hW hcnd _
  have hval : ∀ (j : Nat) t v, Try.f3.params[j]? = some t → args[j]? = some v → Value.okWide Try.prog W .any base t v := hval0
  have hW' := hW
  obtain ⟨p, q, hA0, hV, rfl, hfz, hnd⟩ := hW
  have hA : DataW.TrodAll enc Try.prog W 0 (fun _ => true) true Try.f3.params.toList args.toList ds p := hA0
  rw [Try.params3] at hA hval
  obtain ⟨v0, vs0, d0, ds0, p0, q0, hargs, rfl, rfl, h0, r0⟩ := trodAll_cons hA
  obtain ⟨rfl, rfl, rfl⟩ := trodAll_nil r0
  obtain rfl : args = #[v0] := by cases args; simp_all
  obtain ⟨rfl, rfl⟩ := trodVars_none hV
  obtain ⟨a0, len0, cap0, rfl⟩ := okWide_slice Try.underlying22 (hval 0 22 v0 rfl rfl)
  have k0 := h0
  have lt0 : ∀ x ∈ p0, x.block < W.heap.size := by obtain ⟨m, hm⟩ := k0; exact DataW.trod_lt m _ _ _ hm
  obtain ⟨z0, hl0, hc0, w0⟩ : ∃ zs : List Int, len0 = zs.length ∧ zs.length ≤ cap0 ∧ Rdw .u8 W W.heap.size a0 zs := by
    obtain ⟨fuel, hf⟩ := h0
    rcases open_ints Try.underlying22 Try.underlying5 (by kernel_rfl) hf with ⟨hcs, _⟩ | ⟨x, l, c, zs, hcs, _, hl, hm, hz, _, hcell, hwz⟩
    · simp [Value.cells] at hcs
      obtain ⟨rfl, rfl, rfl⟩ := hcs
      exact ⟨[], rfl, Nat.le_refl _, Rdw.nil⟩
    · simp [Value.cells] at hcs
      obtain ⟨rfl, rfl, rfl⟩ := hcs
      exact ⟨zs.take len0, by simp at hz ⊢; omega, by simp at hz ⊢; omega, Rdw.of_row hl hm (by simpa using hz) hcell hwz⟩
  subst hl0
  clear hA0 hval0
  refine (walk W a0 cap0 z0 hc0 w0).mono fun e W' ⟨he, bel⟩ => ?_
  subst he
  exact ⟨_, rfl, _, _, _, [], _, [], hW', trodAll_mk1 (shut_bool Try.underlying4 _), (trodAll_cons_mk (Below.trod laidOut (by kernel_rfl) (of_decide_eq_true (by kernel_rfl)) k0 bel lt0) trodAll_mk0), rfl, bel.frame _, fun h => by cases h⟩

theorem over : Rows.fnGapOfRow.holds Try.pinned (OpenSpec.ofChange Rows.fnGapOfSpec) :=
  OpenClaim.holds_of_wide 3 Try.f3 rfl rfl rfl rfl rfl rfl rfl ⟨rfl, rfl, rfl, rfl, rfl⟩ rfl rfl rfl rfl rfl (by kernel_rfl) Try.func3 (by kernel_rfl)
    (of_decide_eq_true (by kernel_rfl)) (by unfold Func.isWrapper; first | (rw [if_pos (by decide +kernel)]; kernel_rfl) | (rw [if_neg (by decide +kernel)]; exact ⟨rfl, rfl⟩))
    (fun os started H enc _ => lifted os started H enc)

theorem proved : Rows.FnGapOfSaid := over
end Go.Proofs.Ytklleaojhoklaaa.fnGapOf
