/- Whatever the code: the changed region of two drawn images is what the model tells, in both orders; it has exactly the pixels that differ. -/
import Derived.Test.YtlmpkanlfhjijaaRows
import Derived.WalkKit
import Derived.ProofKit
import Derived.OpenShut
import Derived.ShutString
import Derived.ChangeOld
import Derived.Below
import Derived.Test.YtlmpkanlfhjijaaMgT
import Derived.Test.YtlmpkanlfhjijaaChiM
import Derived.Test.YtlmpkanlfhjijaaMgB
import Derived.Test.YtlmpkanlfhjijaaLEqImg
import Derived.Test.YtlmpkanlfhjijaaPixI
import Derived.Deep.RegionHeld3
namespace Go.Proofs.Ytlmpkanlfhjijaa.fnChangedRegion
open Go.ChangeShapes Go.WideShapes Go.ChangeAt Go.RowKit
open Go.ChangeMaps (open_string shut_string)
set_option linter.unusedVariables false

theorem rds_call {u u' : World} {A : Option Addr} {xs : List Int} (h : Rds .i64 u u.heap.size A xs) (hb : Below u.heap.size u u') : Rds .i64 u' u'.heap.size A xs := (h.below hb).more hb.size
theorem bx_call {u u' : World} {b : Nat} {T : TypeId} {cs : Array Value} (h : Bx u b T cs) (hb : Below u.heap.size u u') : Bx u' b T cs := (hb.block b h.lt).trans h
theorem rds_alloc {u : World} {A : Option Addr} {xs : List Int} (h : Rds .i64 u u.heap.size A xs) (o : Obj) : Rds .i64 (u.alloc o) (u.alloc o).heap.size A xs := (h.alloc (Nat.le_refl _) o).more (by simp)
/-- Two images that are read while calls go by, and their boxes. -/
structure TwoB (w : World) (g h : Nat) (ca cb : Array Value) (A1 A2 : Option Addr) (xs ys : List Int) (u : World) : Prop where
  ra : Rds .i64 u u.heap.size A1 xs
  rb : Rds .i64 u u.heap.size A2 ys
  xa : Bx u g 25 ca
  xb : Bx u h 25 cb
  be : Below w.heap.size w u
theorem TwoB.call {w u u' : World} {g h : Nat} {ca cb : Array Value} {A1 A2 : Option Addr} {xs ys : List Int} (t : TwoB w g h ca cb A1 A2 xs ys u) (hb : Below u.heap.size u u') : TwoB w g h ca cb A1 A2 xs ys u' :=
  ⟨rds_call t.ra hb, rds_call t.rb hb, bx_call t.xa hb, bx_call t.xb hb, t.be.trans (hb.mono t.be.size)⟩
theorem TwoB.drew {w u : World} {g h : Nat} {ca cb : Array Value} {A1 A2 : Option Addr} {xs ys : List Int} (t : TwoB w g h ca cb A1 A2 xs ys u) : TwoB w g h ca cb A1 A2 xs ys u.drew :=
  ⟨t.ra, t.rb, t.xa, t.xb, t.be.drew⟩
theorem runs_c {ok : Bool} {G : Nat → Nat → Bool} {u w' : World} {e : Ending} (h : RunsIf ok G u e w') : ∃ A c, e = .returned (.slice A (cond ok (rnN G) 0) c) ∧ Rds .i64 w' w'.heap.size A (cond ok (rnL G) []) ∧ Below u.heap.size u w' := by
  obtain ⟨v, rfl, hO, hb⟩ := h
  obtain ⟨A, c, rfl, _⟩ := hO.slice
  exact ⟨A, c, rfl, hO.rds, hb⟩
theorem chg_comm (W H P : Nat) (xs ys : List Int) : chG W H P ys xs = chG W H P xs ys := by
  funext x y
  have e : decide (pxl W P ys x y = pxl W P xs x y) = decide (pxl W P xs x y = pxl W P ys x y) := decide_eq_decide.2 ⟨Eq.symm, Eq.symm⟩
  unfold chG chF
  rw [e]
/-- The changed pixels are the same both ways. -/
theorem chg_rev (W H P W' H' P' : Int) (xs ys : List Int) : cond (cmpB W' H' P' ys W H P xs) (rnN (chG W'.toNat H'.toNat P'.toNat ys xs)) 0 = cond (cmpB W H P xs W' H' P' ys) (rnN (chG W.toNat H.toNat P.toNat xs ys)) 0 ∧
    cond (cmpB W' H' P' ys W H P xs) (rnL (chG W'.toNat H'.toNat P'.toNat ys xs)) [] = cond (cmpB W H P xs W' H' P' ys) (rnL (chG W.toNat H.toNat P.toNat xs ys)) [] := by
  have e : cmpB W' H' P' ys W H P xs = cmpB W H P xs W' H' P' ys := by
    unfold cmpB
    rw [Bool.eq_iff_iff]
    simp only [Bool.and_eq_true, decide_eq_true_eq]
    constructor
    · rintro ⟨a, b, c, d, e⟩; exact ⟨b, a, c.symm, d.symm, e.symm⟩
    · rintro ⟨a, b, c, d, e⟩; exact ⟨b, a, c.symm, d.symm, e.symm⟩
  rw [e]
  cases h : cmpB W H P xs W' H' P' ys
  · simp only [cond_false]; exact ⟨trivial, trivial⟩
  · have hc := h
    clear e
    unfold cmpB at hc
    simp only [Bool.and_eq_true, decide_eq_true_eq] at hc
    obtain ⟨_, _, e1, e2, e3⟩ := hc
    rw [← e1, ← e2, ← e3, chg_comm]
    exact ⟨rfl, rfl⟩
/-- A pixel is in the region exactly if it differs. -/
theorem chg_law {W H P W' H' P' : Int} {xs ys : List Int} (hcm : cmpB W H P xs W' H' P' ys = true) : (W = W' ∧ H = H' ∧ P = P') ∧ (W ≤ 16 ∧ H ≤ 16) ∧ ∀ x y : Nat, (x : Int) < W → (y : Int) < H →
    rhas (rnL (chG W.toNat H.toNat P.toNat xs ys)) (rnN (chG W.toNat H.toNat P.toNat xs ys)) x y = !decide (pxv W H P xs x y = pxv W' H' P' ys x y) ∧ (pxv W H P xs x y).length ≤ 4 ∧ (pxv W' H' P' ys x y).length ≤ 4 := by
  have hc := hcm
  unfold cmpB at hc
  simp only [Bool.and_eq_true, decide_eq_true_eq] at hc
  obtain ⟨v1, v2, _⟩ := hc
  obtain ⟨w, h, p, rfl, rfl, rfl, rfl, rfl, rfl, ⟨w0, w1⟩, ⟨h0, h1⟩, ⟨p0, p1⟩, hl, hl', hb, hb'⟩ := cmpB_nat hcm
  refine ⟨⟨rfl, rfl, rfl⟩, by omega, fun x y hx hy => ?_⟩
  have ho : onIm w h x y = true := by simp only [onIm, Bool.and_eq_true, decide_eq_true_eq]; omega
  have e1 : pxv w h p xs x y = pxl w p xs x y := by unfold pxv; rw [v1, ho]; simp
  have e2 : pxv w h p ys x y = pxl w p ys x y := by unfold pxv; rw [v2, ho]; simp
  rw [e1, e2]
  simp only [Int.toNat_natCast]
  refine ⟨?_, by rw [pxl_len]; omega, by rw [pxl_len]; omega⟩
  unfold rhas
  rw [regB_yes (rnL_reg _), Bool.true_and, rnL_has _ (by omega) (by omega)]
  unfold chG chF
  rw [decide_eq_true (show x < w by omega), decide_eq_true (show y < h by omega)]
  rfl
set_option maxHeartbeats 32000000 in
theorem walk (w : World) (a0 : Option Addr) (cap0 : Nat) (z0 : List Int) (hc0 : z0.length ≤ cap0) (w0 : Rdw .u8 w w.heap.size a0 z0) :
    Calls Try.prog 5 #[.slice a0 z0.length cap0] w fun e w' => e = .returned (.bool true) ∧ Below w.heap.size w w' := by
  have hm := w0.2.1
  unfold maxLen at hm
  by_cases hlen : 1048576 < z0.length
  · go_enter Try.func5, Try.ntmps5
    go_wp2
    go_ret
    exact ⟨rfl, Below.refl _ _⟩
  · have HD := Lib.hid (drawChanged_any a0 cap0 z0 w hc0 w0)
    clear w0 hc0
    go_enter Try.func5, Try.ntmps5
    go_wp2_with fail
    refine HD.out.mono ?_
    rintro e w1 ⟨W, H, P, A1, c1, xs, W', H', P', A2, c2, ys, rfl, ⟨hx1, hy1⟩, hc1, hc2, hr1, hr2, hb1⟩
    obtain ⟨u, hu⟩ : ∃ u, u = (w1.alloc (.cells #[.int .i64 W, .int .i64 H, .int .i64 P, .slice A1 xs.length c1] 25)).alloc (.cells #[.int .i64 W', .int .i64 H', .int .i64 P', .slice A2 ys.length c2] 25) := ⟨_, rfl⟩
    obtain ⟨bg, hbg⟩ : ∃ b, b = w1.heap.size := ⟨_, rfl⟩
    obtain ⟨bh, hbh⟩ : ∃ b, b = w1.heap.size + 1 := ⟨_, rfl⟩
    have HT1 : Hid (TwoB w bg bh (imC W H P (.slice A1 xs.length c1)) (imC W' H' P' (.slice A2 ys.length c2)) A1 A2 xs ys u) := Lib.hid (by
      rw [hu]
      have xb := Bx.new (w1.alloc (.cells #[.int .i64 W, .int .i64 H, .int .i64 P, .slice A1 xs.length c1] 25)) 25 (imC W' H' P' (.slice A2 ys.length c2))
      exact ⟨rds_alloc (rds_alloc hr1 _) _, rds_alloc (rds_alloc hr2 _) _, by rw [hbg]; exact (Bx.new w1 _ _).alloc _, by rw [hbh]; simpa [imC] using xb, (hb1.alloc hb1.size _).alloc (by have := hb1.size; simp; omega) _⟩)
    obtain ⟨ok, hok⟩ : ∃ ok, ok = cmpB W H P xs W' H' P' ys := ⟨_, rfl⟩
    obtain ⟨N, hN⟩ : ∃ N, N = cond ok (rnN (chG W.toNat H.toNat P.toNat xs ys)) 0 := ⟨_, rfl⟩
    obtain ⟨L, hL⟩ : ∃ L, L = cond ok (rnL (chG W.toNat H.toNat P.toNat xs ys)) [] := ⟨_, rfl⟩
    have HI : Hid (∀ u, TwoB w bg bh (imC W H P (.slice A1 xs.length c1)) (imC W' H' P' (.slice A2 ys.length c2)) A1 A2 xs ys u → Calls Try.prog 22 #[.agg #[.int .i64 W, .int .i64 H, .int .i64 P, .slice A1 xs.length c1], .agg #[.int .i64 W', .int .i64 H', .int .i64 P', .slice A2 ys.length c2]] u fun e w' => ∃ A c, e = .returned (.slice A N c) ∧ Rds .i64 w' w'.heap.size A L ∧ Below u.heap.size u w') := Lib.hid (fun u t => by
      rw [hN, hL, hok]; exact (i_ChangedRegion W H P W' H' P' A1 A2 c1 c2 xs ys u t.ra (by omega) hc1 t.rb (by omega) hc2).mono (fun e w' h => runs_c h))
    have HS : Hid (∀ u, TwoB w bg bh (imC W H P (.slice A1 xs.length c1)) (imC W' H' P' (.slice A2 ys.length c2)) A1 A2 xs ys u → Calls Try.prog 24 #[.agg #[.int .i64 W, .int .i64 H, .int .i64 P, .slice A1 xs.length c1], .agg #[.int .i64 W', .int .i64 H', .int .i64 P', .slice A2 ys.length c2]] u fun e w' => ∃ A c, e = .returned (.slice A N c) ∧ Rds .i64 w' w'.heap.size A L ∧ Below u.heap.size u w') := Lib.hid (fun u t => by
      rw [hN, hL, hok]; exact (s_ChangedRegion W H P W' H' P' A1 A2 c1 c2 xs ys u t.ra (by omega) hc1 t.rb (by omega) hc2).mono (fun e w' h => runs_c h))
    have HJ : Hid (∀ u, TwoB w bg bh (imC W H P (.slice A1 xs.length c1)) (imC W' H' P' (.slice A2 ys.length c2)) A1 A2 xs ys u → Calls Try.prog 22 #[.agg #[.int .i64 W', .int .i64 H', .int .i64 P', .slice A2 ys.length c2], .agg #[.int .i64 W, .int .i64 H, .int .i64 P, .slice A1 xs.length c1]] u fun e w' => ∃ A c, e = .returned (.slice A N c) ∧ Rds .i64 w' w'.heap.size A L ∧ Below u.heap.size u w') := Lib.hid (fun u t => by
      rw [hN, hL, hok, ← (chg_rev W H P W' H' P' xs ys).1, ← (chg_rev W H P W' H' P' xs ys).2]; exact (i_ChangedRegion W' H' P' W H P A2 A1 c2 c1 ys xs u t.rb (by omega) hc2 t.ra (by omega) hc1).mono (fun e w' h => runs_c h))
    have HLN : Hid (L.length = 3 * N ∧ N ≤ 300) := Lib.hid (by
      have := rnL_len (chG W.toNat H.toNat P.toNat xs ys)
      rw [hN, hL]
      cases ok
      · simp
      · exact ⟨this.1, by show rnN _ ≤ 300; omega⟩)
    have hN300 := HLN.out.2
    have HQ : Hid (N ≠ 0 → cmpB W H P xs W' H' P' ys = true ∧ N = rnN (chG W.toNat H.toNat P.toNat xs ys) ∧ L = rnL (chG W.toNat H.toNat P.toNat xs ys)) := Lib.hid (fun h => by
      cases hk : ok
      · exact absurd (by rw [hN, hk]; rfl) h
      · exact ⟨hok.symm.trans hk, by rw [hN, hk]; rfl, by rw [hL, hk]; rfl⟩)
    have HU := Lib.hid hu
    have Hbg := Lib.hid hbg
    have Hbh := Lib.hid hbh
    clear hr1 hr2 hb1 hu hbg hbh hok hN hL
    go_wp2_with fail
    rw [← HU.out, ← Hbh.out, ← Hbg.out]
    clear HU Hbg Hbh
    refine (HI.out u HT1.out).mono ?_
    rintro e w2 ⟨A3, c3, rfl, hr, hb⟩
    have HT2 := Lib.hid (HT1.out.call hb)
    have HR2 := Lib.hid hr
    clear hr hb HT1 HI
    obtain ⟨a0, a1, a2, a3⟩ := HT2.out.xa.im
    obtain ⟨b0, b1, b2, b3⟩ := HT2.out.xb.im
    go_wp2_with fail
    refine (HS.out w2 HT2.out).mono ?_
    rintro e w3 ⟨D2, d2, rfl, hr, hb⟩
    have HT3 := Lib.hid (HT2.out.call hb)
    have HR3 := Lib.hid (rds_call HR2.out hb)
    have HD3 := Lib.hid hr
    clear hr hb HT2 HR2
    clear a0 a1 a2 a3 b0 b1 b2 b3
    go_wp2_with fail
    refine (equalRuns_same A3 D2 N c3 d2 L w3.heap.size w3.heap.size w3 HLN.out.1 HR3.out HD3.out (by omega)).mono ?_
    rintro e w4 ⟨rfl, m, hm2⟩
    have hb : Below w3.heap.size w3 w4 := by rw [hm2]; exact ⟨rfl, rfl, rfl, Nat.le_refl _, fun _ _ => rfl⟩
    have HT4 := Lib.hid (HT3.out.call hb)
    have HR4 := Lib.hid (rds_call HR3.out hb)
    clear hm2 hb HT3 HR3 HD3 m
    obtain ⟨a0, a1, a2, a3⟩ := HT4.out.xa.im
    obtain ⟨b0, b1, b2, b3⟩ := HT4.out.xb.im
    go_wp2_with fail
    refine (HJ.out w4 HT4.out).mono ?_
    rintro e w5 ⟨D4, d4, rfl, hr, hb⟩
    have HT5 := Lib.hid (HT4.out.call hb)
    have HR5 := Lib.hid (rds_call HR4.out hb)
    have HD5 := Lib.hid hr
    clear hr hb HT4 HR4
    clear a0 a1 a2 a3 b0 b1 b2 b3
    go_wp2_with fail
    refine (equalRuns_same D4 A3 N d4 c3 L w5.heap.size w5.heap.size w5 HLN.out.1 HD5.out HR5.out (by omega)).mono ?_
    rintro e w6 ⟨rfl, m, hm4⟩
    have hb : Below w5.heap.size w5 w6 := by rw [hm4]; exact ⟨rfl, rfl, rfl, Nat.le_refl _, fun _ _ => rfl⟩
    have HT6 := Lib.hid (HT5.out.call hb)
    have HR6 := Lib.hid (rds_call HR5.out hb)
    clear hm4 hb HT5 HR5 HD5 m
    by_cases hN0 : N = 0
    · subst hN0
      obtain ⟨a0, a1, a2, a3⟩ := HT6.out.xa.im
      obtain ⟨b0, b1, b2, b3⟩ := HT6.out.xb.im
      go_wp2_with fail
      refine (HS.out w6 HT6.out).mono ?_
      rintro e w7 ⟨D6, d6, rfl, hr, hb⟩
      have HT7 := Lib.hid (HT6.out.call hb)
      have HR7 := Lib.hid (rds_call HR6.out hb)
      have HD7 := Lib.hid hr
      clear hr hb HT6 HR6
      clear a0 a1 a2 a3 b0 b1 b2 b3
      go_wp2_with fail
      refine (equalRuns_same A3 D6 0 c3 d6 L w7.heap.size w7.heap.size w7 HLN.out.1 HR7.out HD7.out (by omega)).mono ?_
      rintro e w8 ⟨rfl, m, hm6⟩
      have hb : Below w7.heap.size w7 w8 := by rw [hm6]; exact ⟨rfl, rfl, rfl, Nat.le_refl _, fun _ _ => rfl⟩
      have HT8 := Lib.hid (HT7.out.call hb)
      have HR8 := Lib.hid (rds_call HR7.out hb)
      clear hm6 hb HT7 HR7 HD7 m
      obtain ⟨a0, a1, a2, a3⟩ := HT8.out.xa.im
      obtain ⟨b0, b1, b2, b3⟩ := HT8.out.xb.im
      go_wp2_with fail
      refine (HJ.out w8 HT8.out).mono ?_
      rintro e w9 ⟨D8, d8, rfl, hr, hb⟩
      have HT9 := Lib.hid (HT8.out.call hb)
      have HR9 := Lib.hid (rds_call HR8.out hb)
      have HD9 := Lib.hid hr
      clear hr hb HT8 HR8
      clear a0 a1 a2 a3 b0 b1 b2 b3
      go_wp2_with fail
      refine (equalRuns_same D8 A3 0 d8 c3 L w9.heap.size w9.heap.size w9 HLN.out.1 HD9.out HR9.out (by omega)).mono ?_
      rintro e w10 ⟨rfl, m, hm8⟩
      have hb : Below w9.heap.size w9 w10 := by rw [hm8]; exact ⟨rfl, rfl, rfl, Nat.le_refl _, fun _ _ => rfl⟩
      have HT10 := Lib.hid (HT9.out.call hb)
      have HR10 := Lib.hid (rds_call HR9.out hb)
      clear hm8 hb HT9 HR9 HD9 m
      have HB := Lib.hid HT10.out.be
      clear HT10 HR10
      go_wp2
      go_ret
      exact ⟨rfl, HB.out⟩
    · have hNI : ((N : Int) == 0) = false := beq_eq_false_iff_ne.2 (by omega)
      obtain ⟨hcm, hNe, hLe⟩ := HQ.out hN0
      obtain ⟨⟨rfl, rfl, rfl⟩, ⟨hW16, hH16⟩, k1⟩ := chg_law hcm
      rw [← hNe, ← hLe] at k1
      obtain ⟨B, hB⟩ : ∃ B : Nat → Nat → Bool, ∀ x y, B x y = rhas L N (x : Int) (y : Int) := ⟨_, fun _ _ => rfl⟩
      obtain ⟨PA, hPA⟩ : ∃ F : Nat → Nat → List Int, ∀ x y, F x y = pxv W H P xs (x : Int) (y : Int) := ⟨_, fun _ _ => rfl⟩
      obtain ⟨PB, hPB⟩ : ∃ F : Nat → Nat → List Int, ∀ x y, F x y = pxv W H P ys (x : Int) (y : Int) := ⟨_, fun _ _ => rfl⟩
      have HE : Hid (∀ x y : Nat, (x : Int) < W → (y : Int) < H → B x y = !decide (PA x y = PB x y) ∧ (PA x y).length ≤ 4 ∧ (PB x y).length ≤ 4) := Lib.hid (fun x y hx hy => by rw [hPA, hB, hPB]; exact k1 x y hx hy)
      have HHas : Hid (∀ (x y : Nat) u, Rds .i64 u u.heap.size A3 L → Calls Try.prog 25 #[.slice A3 N c3, .int .i64 (x : Int), .int .i64 (y : Int)] u fun e w' => e = .returned (.bool (B x y)) ∧ Below u.heap.size u w') := Lib.hid (fun x y u h => by rw [hB]; exact i_RegionHas A3 N c3 u.heap.size L x y u HLN.out.1 h (Nat.le_refl _) (by omega))
      have HPa : Hid (∀ (x y : Nat) u, Rds .i64 u u.heap.size A1 xs → Calls Try.prog 12 #[.agg #[.int .i64 W, .int .i64 H, .int .i64 P, .slice A1 xs.length c1], .int .i64 (x : Int), .int .i64 (y : Int)] u (Shows (PA x y) u)) := Lib.hid (fun x y u h => by rw [hPA]; exact i_PixelAt W H P A1 c1 xs x y u h (by omega) hc1)
      have HPb : Hid (∀ (x y : Nat) u, Rds .i64 u u.heap.size A2 ys → Calls Try.prog 12 #[.agg #[.int .i64 W, .int .i64 H, .int .i64 P, .slice A2 ys.length c2], .int .i64 (x : Int), .int .i64 (y : Int)] u (Shows (PB x y) u)) := Lib.hid (fun x y u h => by rw [hPB]; exact i_PixelAt W H P A2 c2 ys x y u h (by omega) hc2)
      have HI0 : Hid (TwoB w bg bh (imC W H P (.slice A1 xs.length c1)) (imC W H P (.slice A2 ys.length c2)) A1 A2 xs ys w6 ∧ Rds .i64 w6 w6.heap.size A3 L) := Lib.hid ⟨HT6.out, HR6.out⟩
      clear k1 hB hPA hPB hcm hNe hLe HQ HT6 HR6 HS HJ HLN
      go_wp2
      go_loopw [6] (fun i wr => ∃ y : Nat, i = .int .i64 (y : Int) ∧ Hid (TwoB w bg bh (imC W H P (.slice A1 xs.length c1)) (imC W H P (.slice A2 ys.length c2)) A1 A2 xs ys wr ∧ Rds .i64 wr wr.heap.size A3 L)) (fun i _ => (H - intOf i).toNat)
      case atStart => exact ⟨0, rfl, HI0⟩
      case round =>
        clear HI0
        obtain ⟨y, rfl, hI⟩ := hrel
        rename World => wy
        obtain ⟨a0, a1, a2, a3⟩ := hI.out.1.xa.im
        have al := hI.out.1.xa.lt
        by_cases hy : (y : Int) < H
        · go_wp2
          clear a0 a1 a2 a3 al
          go_loopw [7] (fun i wr => ∃ x : Nat, i = .int .i64 (x : Int) ∧ Hid (TwoB w bg bh (imC W H P (.slice A1 xs.length c1)) (imC W H P (.slice A2 ys.length c2)) A1 A2 xs ys wr ∧ Rds .i64 wr wr.heap.size A3 L)) (fun i _ => (W - intOf i).toNat)
          case atStart => exact ⟨0, rfl, hI⟩
          case round =>
            clear hI
            obtain ⟨x, rfl, hI⟩ := hrel
            rename World => wx
            obtain ⟨a0, a1, a2, a3⟩ := hI.out.1.xa.im
            have al := hI.out.1.xa.lt
            by_cases hx : (x : Int) < W
            · obtain ⟨hbb, hpl, hql⟩ := HE.out x y hx hy
              have HTd := Lib.hid hI.out.1.drew
              have HRd : Hid (Rds .i64 wx.drew wx.drew.heap.size A3 L) := Lib.hid hI.out.2
              have HHas' := Lib.hid (HHas.out x y)
              have HPa' := Lib.hid (HPa.out x y)
              have HPb' := Lib.hid (HPb.out x y)
              obtain ⟨b0, b1, b2, b3⟩ := hI.out.1.xb.im
              have bl := hI.out.1.xb.lt
              clear hI HE HHas HPa HPb
              generalize PA x y = pa at *
              generalize PB x y = pb at *
              generalize B x y = bb at *
              obtain ⟨dd, hdd⟩ : ∃ d, d = decide (pa = pb) := ⟨_, rfl⟩
              rw [← hdd] at hbb
              have Hdd := Lib.hid hdd
              subst hbb
              clear hdd
              go_wp2
              clear al bl
              refine wp_region_held_drew (S := (fun w' => w'.cell? ⟨bg, 0, none⟩ = some (.int .i64 W) ∧ w'.cell? ⟨bg, 1, none⟩ = some (.int .i64 H) ∧ w'.cell? ⟨bg, 2, none⟩ = some (.int .i64 P) ∧ w'.cell? ⟨bg, 3, none⟩ = some (.slice A1 xs.length c1) ∧ w'.cell? ⟨bh, 0, none⟩ = some (.int .i64 W) ∧ w'.cell? ⟨bh, 1, none⟩ = some (.int .i64 H) ∧ w'.cell? ⟨bh, 2, none⟩ = some (.int .i64 P) ∧ w'.cell? ⟨bh, 3, none⟩ = some (.slice A2 ys.length c2))) (by kernel_rfl) (by exact ⟨a0, a1, a2, a3, b0, b1, b2, b3⟩) (fun hHeld => ?_)
              refine' wpAnyH_take (i := 0) (oi := _) (v := _) ?hi1 (by kernel_rfl) (by kernel_rfl) (by kernel_rfl) ?hq1 (Or.inl ⟨?hw1, ?hy1⟩) (by assumption) ?rest1
              case hi1 => (simp only [List.getElem?_toArray, List.getElem?_cons_succ, List.getElem?_cons_zero]; rfl)
              case hq1 => exact fun _ _ _ h => h
              case hw1 => rfl
              case hy1 => (intro wq hSw; (try dsimp only at hSw); go_simp; (try with_reducible rfl))
              (try simp only [Act.put, List.setIfInBounds_toArray, List.set_cons_zero, List.set_cons_succ])
              refine' wpAnyH_take (i := 1) (oi := _) (v := _) ?hi2 (by kernel_rfl) (by kernel_rfl) (by kernel_rfl) ?hq2 (Or.inl ⟨?hw2, ?hy2⟩) (by assumption) ?rest2
              case hi2 => (simp only [List.getElem?_toArray, List.getElem?_cons_succ, List.getElem?_cons_zero]; rfl)
              case hq2 => exact fun _ _ _ h => h
              case hw2 => rfl
              case hy2 => (intro wq hSw; (try dsimp only at hSw); go_simp; (try with_reducible rfl))
              (try simp only [Act.put, List.setIfInBounds_toArray, List.set_cons_zero, List.set_cons_succ])
              refine' wpAnyH_take (i := 2) (oi := _) (v := _) ?hi3 (by kernel_rfl) (by kernel_rfl) (by kernel_rfl) ?hq3 (Or.inl ⟨?hw3, ?hy3⟩) (by assumption) ?rest3
              case hi3 => (simp only [List.getElem?_toArray, List.getElem?_cons_succ, List.getElem?_cons_zero]; rfl)
              case hq3 => exact fun _ _ _ h => h
              case hw3 => rfl
              case hy3 => (intro wq hSw; (try dsimp only at hSw); go_simp; (try with_reducible rfl))
              (try simp only [Act.put, List.setIfInBounds_toArray, List.set_cons_zero, List.set_cons_succ])
              refine' wpAnyH_take (i := 4) (oi := _) (v := _) ?hi4 (by kernel_rfl) (by kernel_rfl) (by kernel_rfl) ?hq4 (Or.inl ⟨?hw4, ?hy4⟩) (by assumption) ?rest4
              case hi4 => (simp only [List.getElem?_toArray, List.getElem?_cons_succ, List.getElem?_cons_zero]; rfl)
              case hq4 => exact fun _ _ _ h => h
              case hw4 => rfl
              case hy4 => (intro wq hSw; (try dsimp only at hSw); go_simp; (try with_reducible rfl))
              (try simp only [Act.put, List.setIfInBounds_toArray, List.set_cons_zero, List.set_cons_succ])
              refine' wpAnyH_take (i := 5) (oi := _) (v := _) ?hi5 (by kernel_rfl) (by kernel_rfl) (by kernel_rfl) ?hq5 (Or.inl ⟨?hw5, ?hy5⟩) (by assumption) ?rest5
              case hi5 => (simp only [List.getElem?_toArray, List.getElem?_cons_succ, List.getElem?_cons_zero]; rfl)
              case hq5 => exact fun _ _ _ h => h
              case hw5 => rfl
              case hy5 => (intro wq hSw; (try dsimp only at hSw); go_simp; (try with_reducible rfl))
              (try simp only [Act.put, List.setIfInBounds_toArray, List.set_cons_zero, List.set_cons_succ])
              refine' wpAnyH_take (i := 6) (oi := _) (v := _) ?hi6 (by kernel_rfl) (by kernel_rfl) (by kernel_rfl) ?hq6 (Or.inl ⟨?hw6, ?hy6⟩) (by assumption) ?rest6
              case hi6 => (simp only [List.getElem?_toArray, List.getElem?_cons_succ, List.getElem?_cons_zero]; rfl)
              case hq6 => exact fun _ _ _ h => h
              case hw6 => rfl
              case hy6 => (intro wq hSw; (try dsimp only at hSw); go_simp; (try with_reducible rfl))
              (try simp only [Act.put, List.setIfInBounds_toArray, List.set_cons_zero, List.set_cons_succ])
              refine' wpAnyH_take (i := 8) (oi := _) (v := _) ?hi7 (by kernel_rfl) (by kernel_rfl) (by kernel_rfl) ?hq7 (Or.inl ⟨?hw7, ?hy7⟩) (by assumption) ?rest7
              case hi7 => (simp only [List.getElem?_toArray, List.getElem?_cons_succ, List.getElem?_cons_zero]; rfl)
              case hq7 => exact fun _ _ _ h => h
              case hw7 => rfl
              case hy7 => (intro wq hSw; (try dsimp only at hSw); go_simp; (try with_reducible rfl))
              (try simp only [Act.put, List.setIfInBounds_toArray, List.set_cons_zero, List.set_cons_succ])
              refine' wpAnyH_take (i := 9) (oi := _) (v := _) ?hi8 (by kernel_rfl) (by kernel_rfl) (by kernel_rfl) ?hq8 (Or.inl ⟨?hw8, ?hy8⟩) (by assumption) ?rest8
              case hi8 => (simp only [List.getElem?_toArray, List.getElem?_cons_succ, List.getElem?_cons_zero]; rfl)
              case hq8 => exact fun _ _ _ h => h
              case hw8 => rfl
              case hy8 => (intro wq hSw; (try dsimp only at hSw); go_simp; (try with_reducible rfl))
              (try simp only [Act.put, List.setIfInBounds_toArray, List.set_cons_zero, List.set_cons_succ])
              refine' wpAnyH_take (i := 10) (oi := _) (v := _) ?hi9 (by kernel_rfl) (by kernel_rfl) (by kernel_rfl) ?hq9 (Or.inl ⟨?hw9, ?hy9⟩) (by assumption) ?rest9
              case hi9 => (simp only [List.getElem?_toArray, List.getElem?_cons_succ, List.getElem?_cons_zero]; rfl)
              case hq9 => exact fun _ _ _ h => h
              case hw9 => rfl
              case hy9 => (intro wq hSw; (try dsimp only at hSw); go_simp; (try with_reducible rfl))
              (try simp only [Act.put, List.setIfInBounds_toArray, List.set_cons_zero, List.set_cons_succ])
              refine wpAnyH_ready (rs := [3]) (by kernel_rfl) (by simp) ?_
              refine' AllReadyH.cons (o := _) ?hi10 (fun K hK => ?rest10) AllReadyH.nil
              case hi10 => (simp only [List.getElem?_toArray, List.getElem?_cons_succ, List.getElem?_cons_zero]; rfl)
              go_simp
              go_at_call 25
              refine (HHas'.out wx.drew HRd.out).mono ?_
              rintro e w7 ⟨rfl, hb⟩
              have HT7 := Lib.hid (HTd.out.call hb)
              have HR7 := Lib.hid (rds_call HRd.out hb)
              clear hb HTd HRd a0 a1 a2 a3 b0 b1 b2 b3
              obtain ⟨a0, a1, a2, a3⟩ := HT7.out.xa.im
              obtain ⟨b0, b1, b2, b3⟩ := HT7.out.xb.im
              go_wp2_with fail
              refine hK.out _ _ (by (try dsimp only); exact ⟨a0, a1, a2, a3, b0, b1, b2, b3⟩) (fun hHeld => ?_)
              clear hK K
              (try simp only [Act.put, List.setIfInBounds_toArray, List.set_cons_zero, List.set_cons_succ])
              refine wpAnyH_ready (rs := [7]) (by kernel_rfl) (by simp) ?_
              refine' AllReadyH.cons (o := _) ?hi11 (fun K hK => ?rest11) AllReadyH.nil
              case hi11 => (simp only [List.getElem?_toArray, List.getElem?_cons_succ, List.getElem?_cons_zero]; rfl)
              go_simp
              go_at_call 12
              refine (HPa'.out w7 HT7.out.ra).mono ?_
              rintro e w8 ⟨D, d, rfl, hd, hr, hb⟩
              have HT8 := Lib.hid (HT7.out.call hb)
              have HR8 := Lib.hid (rds_call HR7.out hb)
              have HD8 := Lib.hid hr
              clear hr
              clear hb HT7 HR7 a0 a1 a2 a3 b0 b1 b2 b3
              obtain ⟨a0, a1, a2, a3⟩ := HT8.out.xa.im
              obtain ⟨b0, b1, b2, b3⟩ := HT8.out.xb.im
              go_wp2_with fail
              refine hK.out _ _ (by (try dsimp only); exact ⟨a0, a1, a2, a3, b0, b1, b2, b3⟩) (fun hHeld => ?_)
              clear hK K
              (try simp only [Act.put, List.setIfInBounds_toArray, List.set_cons_zero, List.set_cons_succ])
              refine wpAnyH_ready (rs := [11]) (by kernel_rfl) (by simp) ?_
              refine' AllReadyH.cons (o := _) ?hi12 (fun K hK => ?rest12) AllReadyH.nil
              case hi12 => (simp only [List.getElem?_toArray, List.getElem?_cons_succ, List.getElem?_cons_zero]; rfl)
              go_simp
              go_at_call 12
              refine (HPb'.out w8 HT8.out.rb).mono ?_
              rintro e w9 ⟨E, f, rfl, hf, hr, hb⟩
              have HT9 := Lib.hid (HT8.out.call hb)
              have HR9 := Lib.hid (rds_call HR8.out hb)
              have HD9 := Lib.hid (rds_call HD8.out hb)
              have HE9 := Lib.hid hr
              clear hr HD8
              clear hb HT8 HR8 a0 a1 a2 a3 b0 b1 b2 b3
              obtain ⟨a0, a1, a2, a3⟩ := HT9.out.xa.im
              obtain ⟨b0, b1, b2, b3⟩ := HT9.out.xb.im
              go_wp2_with fail
              refine hK.out _ _ (by (try dsimp only); exact ⟨a0, a1, a2, a3, b0, b1, b2, b3⟩) (fun hHeld => ?_)
              clear hK K
              (try simp only [Act.put, List.setIfInBounds_toArray, List.set_cons_zero, List.set_cons_succ])
              refine wpAnyH_ready (rs := [12]) (by kernel_rfl) (by simp) ?_
              refine' AllReadyH.cons (o := _) ?hi13 (fun K hK => ?rest13) AllReadyH.nil
              case hi13 => (simp only [List.getElem?_toArray, List.getElem?_cons_succ, List.getElem?_cons_zero]; rfl)
              go_simp
              go_at_call 13
              refine (lEqualInts_any D E d f pa pb w9.heap.size w9.heap.size w9 HD9.out HE9.out (by omega) (by omega)).mono ?_
              rintro e w10 ⟨rfl, m, hm⟩
              rw [← Hdd.out]
              have hb : Below w9.heap.size w9 w10 := by rw [hm]; exact ⟨rfl, rfl, rfl, Nat.le_refl _, fun _ _ => rfl⟩
              have HT10 := Lib.hid (HT9.out.call hb)
              have HR10 := Lib.hid (rds_call HR9.out hb)
              clear hm HD9 HE9
              clear hb HT9 HR9 a0 a1 a2 a3 b0 b1 b2 b3
              obtain ⟨a0, a1, a2, a3⟩ := HT10.out.xa.im
              obtain ⟨b0, b1, b2, b3⟩ := HT10.out.xb.im
              go_wp2_with fail
              refine hK.out _ _ (by (try dsimp only); exact ⟨a0, a1, a2, a3, b0, b1, b2, b3⟩) (fun hHeld => ?_)
              clear hK K
              (try simp only [Act.put, List.setIfInBounds_toArray, List.set_cons_zero, List.set_cons_succ])
              refine' wpAnyH_take (i := 13) (oi := _) (v := Value.bool false) ?hi14 (by kernel_rfl) (by kernel_rfl) (by kernel_rfl) ?hq14 (Or.inl ⟨?hw14, ?hy14⟩) (by assumption) ?rest14
              case hi14 => (simp only [List.getElem?_toArray, List.getElem?_cons_succ, List.getElem?_cons_zero]; rfl)
              case hq14 => exact fun _ _ _ h => h
              case hw14 => rfl
              case hy14 => (intro wq hSw; (try dsimp only at hSw); (try go_simp); (first | done | (with_reducible rfl) | rfl | simp | (cases dd <;> rfl)))
              (try simp only [Act.put, List.setIfInBounds_toArray, List.set_cons_zero, List.set_cons_succ])
              refine wpAnyH_done (by kernel_rfl) ?_ _
              clear a0 a1 a2 a3 b0 b1 b2 b3
              have HN : Hid (TwoB w bg bh (imC W H P (.slice A1 xs.length c1)) (imC W H P (.slice A2 ys.length c2)) A1 A2 xs ys w10 ∧ Rds .i64 w10 w10.heap.size A3 L) := Lib.hid ⟨HT10.out, HR10.out⟩
              clear HT10 HR10
              go_wp2
              go_roundw
              case rel => exact ⟨x + 1, by go_num, HN⟩
              case measure => simp [intOf]; omega
            · go_wp2
              go_roundw
              case rel => exact ⟨y + 1, by go_num, hI⟩
              case measure => simp [intOf]; omega
        · have HB := Lib.hid hI.out.1.be
          go_wp2
          go_ret
          exact ⟨rfl, HB.out⟩

/-! ### From the walk to the statement. -/
theorem own : ownKnob Try.prog.godebug = none := by kernel_rfl
theorem laidOut : laidOutB Try.prog = true := by kernel_rfl
set_option maxRecDepth 100000 in
theorem lifted (os : Os) (started : os.Started) (H : Type) (enc : TypeId × Value → H) :
    ReturnsInHanded {} Try.checked os 5 .any (Rows.fnChangedRegionSpec.pre6 enc Try.prog Try.f5 Rows.fnChangedRegionRow.domain false) (Rows.fnChangedRegionSpec.post enc Try.prog Try.f5 false true false false) := by
  refine returnsInHanded_of_change (C := Try.checked) own started (by kernel_rfl) Try.func5
    (ChangeSpec.witness6 (enc := enc) (C := Try.checked) false ⟨#[], #[.slice none 0 0], []⟩ 8 (by kernel_rfl) (by kernel_rfl) (by kernel_rfl) (by kernel_rfl)) ?_
  intro W base args ds gs before hval0 hW hcnd _
  have hval : ∀ (j : Nat) t v, Try.f5.params[j]? = some t → args[j]? = some v → Value.okWide Try.prog W .any base t v := hval0
  have hW' := hW
  obtain ⟨p, q, hA0, hV, rfl, hfz, hnd⟩ := hW
  have hA : DataW.TrodAll enc Try.prog W 0 (fun _ => true) true Try.f5.params.toList args.toList ds p := hA0
  rw [Try.params5] at hA hval
  obtain ⟨v0, vs0, d0, ds0, p0, q0, hargs, rfl, rfl, h0, r0⟩ := trodAll_cons hA
  obtain ⟨rfl, rfl, rfl⟩ := trodAll_nil r0
  obtain rfl : args = #[v0] := by cases args; simp_all
  obtain ⟨rfl, rfl⟩ := trodVars_none hV
  obtain ⟨a0, len0, cap0, rfl⟩ := okWide_slice Try.underlying22 (hval 0 22 v0 rfl rfl)
  have k0 := h0
  have lt0 : ∀ x ∈ p0, x.block < W.heap.size := by obtain ⟨m, hm⟩ := k0; exact DataW.trod_lt m _ _ _ hm
  obtain ⟨z0, hl0, hc0, w0⟩ : ∃ zs : List Int, len0 = zs.length ∧ zs.length ≤ cap0 ∧ Rdw .u8 W W.heap.size a0 zs := by
    obtain ⟨fuel, hf⟩ := h0
    rcases open_ints Try.underlying22 Try.underlying5 (by kernel_rfl) hf with ⟨hcs, _⟩ | ⟨x, l, c, zs, hcs, _, hl, hm, hz, _, hcell, hwz⟩
    · simp [Value.cells] at hcs
      obtain ⟨rfl, rfl, rfl⟩ := hcs
      exact ⟨[], rfl, Nat.le_refl _, Rdw.nil⟩
    · simp [Value.cells] at hcs
      obtain ⟨rfl, rfl, rfl⟩ := hcs
      exact ⟨zs.take len0, by simp at hz ⊢; omega, by simp at hz ⊢; omega, Rdw.of_row hl hm (by simpa using hz) hcell hwz⟩
  subst hl0
  clear hA0 hval0
  refine (walk W a0 cap0 z0 hc0 w0).mono fun e W' ⟨he, bel⟩ => ?_
  subst he
  exact ⟨_, rfl, _, _, _, [], _, [], hW', trodAll_mk1 (shut_bool Try.underlying4 _), (trodAll_cons_mk (Below.trod laidOut (by kernel_rfl) (of_decide_eq_true (by kernel_rfl)) k0 bel lt0) trodAll_mk0), rfl, bel.frame _, fun h => by cases h⟩

theorem over : Rows.fnChangedRegionRow.holds Try.pinned (OpenSpec.ofChange Rows.fnChangedRegionSpec) :=
  OpenClaim.holds_of_wide 5 Try.f5 rfl rfl rfl rfl rfl rfl rfl ⟨rfl, rfl, rfl, rfl, rfl⟩ rfl rfl rfl rfl rfl (by kernel_rfl) Try.func5 (by kernel_rfl)
    (of_decide_eq_true (by kernel_rfl)) (by unfold Func.isWrapper; first | (rw [if_pos (by decide +kernel)]; kernel_rfl) | (rw [if_neg (by decide +kernel)]; exact ⟨rfl, rfl⟩))
    (fun os started H enc _ => lifted os started H enc)

theorem proved : Rows.FnChangedRegionSaid := over
end Go.Proofs.Ytlmpkanlfhjijaa.fnChangedRegion
