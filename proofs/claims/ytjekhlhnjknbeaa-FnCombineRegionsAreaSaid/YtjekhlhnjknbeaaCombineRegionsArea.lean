/- Whatever the code: the areas of the union and of the common part of two drawn regions add up to both areas, and so do the difference and the common part to the first one. -/
import Derived.Test.YtjekhlhnjknbeaaRows
import Derived.WalkKit
import Derived.ProofKit
import Derived.OpenShut
import Derived.ShutString
import Derived.ChangeOld
import Derived.Below
import Derived.Test.YtjekhlhnjknbeaaCmbM
import Derived.Deep.RegionHeld3
namespace Go.Proofs.Ytjekhlhnjknbeaa.fnCombineRegionsArea
open Go.ChangeShapes Go.WideShapes Go.ChangeAt Go.RowKit
open Go.ChangeMaps (open_string shut_string)
set_option linter.unusedVariables false

set_option maxHeartbeats 32000000 in
theorem walk (w : World) (a0 : Option Addr) (cap0 : Nat) (z0 : List Int) (hc0 : z0.length ≤ cap0) (w0 : Rdw .u8 w w.heap.size a0 z0) :
    Calls Try.prog 10 #[.slice a0 z0.length cap0] w fun e w' => e = .returned (.bool true) ∧ Below w.heap.size w w' := by
  have hm := w0.2.1
  unfold maxLen at hm
  by_cases hlen : 1048576 < z0.length
  · go_enter Try.func10, Try.ntmps10
    go_wp2
    go_ret
    exact ⟨rfl, Below.refl _ _⟩
  · have HD := Lib.hid (drawCombine_any a0 cap0 z0 w hc0 w0)
    clear w0 hc0
    go_enter Try.func10, Try.ntmps10
    go_wp2_with fail
    refine HD.out.mono ?_
    rintro e w1 ⟨v1, n, xs, v2, m, ys, k, rfl, ⟨hn, hmm, hk0, hk1⟩, hO1, hO2, hb1⟩
    obtain ⟨A1, c1, rfl, hc1⟩ := hO1.slice
    obtain ⟨A2, c2, rfl, hc2⟩ := hO2.slice
    have HX : Hid (xs.length = 3 * n) := Lib.hid (by have := hO1.len; omega)
    have HY : Hid (ys.length = 3 * m) := Lib.hid (by have := hO2.len; omega)
    have HT1 : Hid (Two w A1 A2 xs ys w1) := Lib.hid ⟨hO1.rds, hO2.rds, hb1⟩
    clear hO1 hO2 hb1
    obtain ⟨ok, hok⟩ : ∃ ok, ok = cmbOk k xs n ys m := ⟨_, rfl⟩
    obtain ⟨N, hN⟩ : ∃ N, N = cbN k xs n ys m := ⟨_, rfl⟩
    obtain ⟨L, hL⟩ : ∃ L, L = cbL k xs n ys m := ⟨_, rfl⟩
    have HI : Hid (∀ u, Two w A1 A2 xs ys u → Calls Try.prog 28 #[.slice A1 n c1, .slice A2 m c2, .int .i64 k] u fun e w' => ∃ v, e = .returned (.tuple #[v, .bool ok]) ∧ OwnT 75 3 w' u.heap.size v N L ∧ Below u.heap.size u w') := Lib.hid (fun u hu => by
      rw [hok, hN, hL]; exact i_CombineRegions A1 A2 n m c1 c2 xs ys k u HX.out hu.1 (by omega) HY.out hu.2.1 (by omega))
    have HS : Hid (∀ u, Two w A1 A2 xs ys u → Calls Try.prog 26 #[.slice A1 n c1, .slice A2 m c2, .int .i64 k] u fun e w' => ∃ v, e = .returned (.tuple #[v, .bool ok]) ∧ OwnT 75 3 w' u.heap.size v N L ∧ Below u.heap.size u w') := Lib.hid (fun u hu => by
      rw [hok, hN, hL]; exact s_CombineRegions A1 A2 n m c1 c2 xs ys k u HX.out hu.1 (by omega) HY.out hu.2.1 (by omega))
    have HLn : Hid (L.length = 3 * N) := Lib.hid (by rw [hN, hL]; exact (cb_len k xs n ys m).1)
    have hN3 : N ≤ 300 := by rw [hN]; exact (cb_len k xs n ys m).2
    have HN := Lib.hid hN
    have HL := Lib.hid hL
    have HK := Lib.hid hok
    clear hok hN hL
    go_wp2_with fail
    refine (HI.out w1 HT1.out).mono ?_
    rintro e w2 ⟨v3, rfl, hO3, hb2⟩
    obtain ⟨A3, c3, rfl, hc3⟩ := hO3.slice
    have HT2 := Lib.hid (HT1.out.call hb2)
    have HO3 := Lib.hid hO3
    clear hO3 hb2 HT1 HI
    go_wp2_with fail
    refine (HS.out w2 HT2.out).mono ?_
    rintro e w3 ⟨v4, rfl, hO4, hb3⟩
    obtain ⟨A4, c4, rfl, hc4⟩ := hO4.slice
    have HT3 := Lib.hid (HT2.out.call hb3)
    have HR3 := Lib.hid (HO3.out.below hb3 (Nat.le_refl _)).rds
    have HR4 := Lib.hid hO4.rds
    clear hO4 hb3 HT2 HS HO3
    go_wp2_with fail
    refine (equalRuns_same A3 A4 N c3 c4 L w3.heap.size w3.heap.size w3 HLn.out HR3.out HR4.out (by omega)).mono ?_
    rintro e w4 ⟨rfl, m4, rfl⟩
    have HT4 := Lib.hid (HT3.out.drewN m4)
    have HR5 := Lib.hid (show Rds .i64 (w3.drewN m4) (w3.drewN m4).heap.size A3 L from HR3.out)
    have HR6 := Lib.hid (show Rds .i64 (w3.drewN m4) (w3.drewN m4).heap.size A4 L from HR4.out)
    clear HT3 HR3 HR4
    generalize w3.drewN m4 = u at *
    cases ok
    · go_wp2_with fail
      refine (equalRuns_same A3 A4 N c3 c4 L u.heap.size u.heap.size u HLn.out HR5.out HR6.out (by omega)).mono ?_
      rintro e w5 ⟨rfl, m5, rfl⟩
      have HB := Lib.hid (HT4.out.drewN m5).2.2
      clear HT4 HR5 HR6
      go_wp2
      go_ret
      exact ⟨rfl, HB.out⟩
    · obtain ⟨⟨hrx, hry⟩, hk2, hk3⟩ := cmbOk_at HK.out.symm
      have Hx := Lib.hid hrx
      have Hy := Lib.hid hry
      clear hrx hry HR6
      have h0 := cmbOk_yes (k := 0) Hx.out Hy.out (by omega)
      have h1 := cmbOk_yes (k := 1) Hx.out Hy.out (by omega)
      have h2 := cmbOk_yes (k := 2) Hx.out Hy.out (by omega)
      obtain ⟨c1r, c2r⟩ := cnt_rules (fun i => rh xs ((i % 16 : Nat) : Int) ((i / 16 : Nat) : Int) n) (fun i => rh ys ((i % 16 : Nat) : Int) ((i / 16 : Nat) : Int) m) 256
      rw [← areaV_cb h0, ← areaV_cb h1, ← areaV_cnt Hx.out, ← areaV_cnt Hy.out] at c1r
      rw [← areaV_cb h2, ← areaV_cb h1, ← areaV_cnt Hx.out] at c2r
      have b0 : 0 ≤ areaV (cbL 0 xs n ys m) (cbN 0 xs n ys m) ∧ areaV (cbL 0 xs n ys m) (cbN 0 xs n ys m) ≤ 256 := by rw [areaV_cb h0]; exact cntB_bd _ _
      have b1 : 0 ≤ areaV (cbL 1 xs n ys m) (cbN 1 xs n ys m) ∧ areaV (cbL 1 xs n ys m) (cbN 1 xs n ys m) ≤ 256 := by rw [areaV_cb h1]; exact cntB_bd _ _
      have b2 : 0 ≤ areaV (cbL 2 xs n ys m) (cbN 2 xs n ys m) ∧ areaV (cbL 2 xs n ys m) (cbN 2 xs n ys m) ≤ 256 := by rw [areaV_cb h2]; exact cntB_bd _ _
      have b3 : 0 ≤ areaV xs n ∧ areaV xs n ≤ 256 := by rw [areaV_cnt Hx.out]; exact cntB_bd _ _
      have b4 : 0 ≤ areaV ys m ∧ areaV ys m ≤ 256 := by rw [areaV_cnt Hy.out]; exact cntB_bd _ _
      obtain ⟨U0, hU0⟩ : ∃ U, U = areaV (cbL 0 xs n ys m) (cbN 0 xs n ys m) := ⟨_, rfl⟩
      obtain ⟨U1, hU1⟩ : ∃ U, U = areaV (cbL 1 xs n ys m) (cbN 1 xs n ys m) := ⟨_, rfl⟩
      obtain ⟨U2, hU2⟩ : ∃ U, U = areaV (cbL 2 xs n ys m) (cbN 2 xs n ys m) := ⟨_, rfl⟩
      obtain ⟨U3, hU3⟩ : ∃ U, U = areaV xs n := ⟨_, rfl⟩
      obtain ⟨U4, hU4⟩ : ∃ U, U = areaV ys m := ⟨_, rfl⟩
      rw [← hU0, ← hU1, ← hU3, ← hU4] at c1r
      rw [← hU2, ← hU1, ← hU3] at c2r
      rw [← hU0] at b0
      rw [← hU1] at b1
      rw [← hU2] at b2
      rw [← hU3] at b3
      rw [← hU4] at b4
      have HU0 := Lib.hid hU0
      have HU1 := Lib.hid hU1
      have HU2 := Lib.hid hU2
      have HU3 := Lib.hid hU3
      have HU4 := Lib.hid hU4
      have C1 := Lib.hid c1r
      have C2 := Lib.hid c2r
      have ea : U0 + U1 - (U3 + U4) = 0 := by omega
      have e1 : (U0 + U1 == U3 + U4) = true := by rw [c1r]; simp
      have e2 : (U2 + U1 == U3) = true := by rw [c2r]; simp
      clear hU0 hU1 hU2 hU3 hU4 c1r c2r h0 h1 h2 HR5 ea
      have HC0 : Hid (∀ u, Two w A1 A2 xs ys u → Calls Try.prog 41 #[.slice A1 n c1, .slice A2 m c2, .int .i64 0] u fun e w' => ∃ A N c L, e = .returned (.slice A N c) ∧ (N ≤ 300 ∧ L.length = 3 * N ∧ areaV L N = U0) ∧ Rds .i64 w' w'.heap.size A L ∧ Two w A1 A2 xs ys w') := Lib.hid (fun u hu => (combined_any A1 A2 n m c1 c2 xs ys 0 u HX.out hu.1 (by omega) HY.out hu.2.1 (by omega)).mono (by
        rintro e w' ⟨v, rfl, hO, hb⟩
        obtain ⟨A, c, rfl, _⟩ := hO.slice
        exact ⟨A, _, c, _, rfl, ⟨(cb_len _ _ _ _ _).2, (cb_len _ _ _ _ _).1, HU0.out.symm⟩, hO.rds, hu.call hb⟩))
      have HC1 : Hid (∀ u, Two w A1 A2 xs ys u → Calls Try.prog 41 #[.slice A1 n c1, .slice A2 m c2, .int .i64 1] u fun e w' => ∃ A N c L, e = .returned (.slice A N c) ∧ (N ≤ 300 ∧ L.length = 3 * N ∧ areaV L N = U1) ∧ Rds .i64 w' w'.heap.size A L ∧ Two w A1 A2 xs ys w') := Lib.hid (fun u hu => (combined_any A1 A2 n m c1 c2 xs ys 1 u HX.out hu.1 (by omega) HY.out hu.2.1 (by omega)).mono (by
        rintro e w' ⟨v, rfl, hO, hb⟩
        obtain ⟨A, c, rfl, _⟩ := hO.slice
        exact ⟨A, _, c, _, rfl, ⟨(cb_len _ _ _ _ _).2, (cb_len _ _ _ _ _).1, HU1.out.symm⟩, hO.rds, hu.call hb⟩))
      have HC2 : Hid (∀ u, Two w A1 A2 xs ys u → Calls Try.prog 41 #[.slice A1 n c1, .slice A2 m c2, .int .i64 2] u fun e w' => ∃ A N c L, e = .returned (.slice A N c) ∧ (N ≤ 300 ∧ L.length = 3 * N ∧ areaV L N = U2) ∧ Rds .i64 w' w'.heap.size A L ∧ Two w A1 A2 xs ys w') := Lib.hid (fun u hu => (combined_any A1 A2 n m c1 c2 xs ys 2 u HX.out hu.1 (by omega) HY.out hu.2.1 (by omega)).mono (by
        rintro e w' ⟨v, rfl, hO, hb⟩
        obtain ⟨A, c, rfl, _⟩ := hO.slice
        exact ⟨A, _, c, _, rfl, ⟨(cb_len _ _ _ _ _).2, (cb_len _ _ _ _ _).1, HU2.out.symm⟩, hO.rds, hu.call hb⟩))
      clear HU0 HU1 HU2
      go_wp2_with fail
      refine (HC0.out u HT4.out).mono ?_
      rintro e u5 ⟨B5, M5, d5, L5, rfl, ⟨hM5, hl5, ha5⟩, hr5, ht5⟩
      have HT5 := Lib.hid ht5
      have HR105 := Lib.hid hr5
      have HA5 := Lib.hid ha5
      have HN5 := Lib.hid hl5
      clear hr5 ht5 ha5 hl5 HT4
      go_wp2_with fail
      refine (i_AreaOf B5 M5 d5 u5.heap.size L5 u5 HN5.out HR105.out (Nat.le_refl _) (by omega)).mono ?_
      rintro e u6 ⟨rfl, hb⟩
      rw [HA5.out]
      have HT6 := Lib.hid (HT5.out.call hb)
      clear hb HT5 HR105 HA5 HN5 hM5
      go_wp2_with fail
      refine (HC1.out u6 HT6.out).mono ?_
      rintro e u7 ⟨B7, M7, d7, L7, rfl, ⟨hM7, hl7, ha7⟩, hr7, ht7⟩
      have HT7 := Lib.hid ht7
      have HR107 := Lib.hid hr7
      have HA7 := Lib.hid ha7
      have HN7 := Lib.hid hl7
      clear hr7 ht7 ha7 hl7 HT6
      go_wp2_with fail
      refine (i_AreaOf B7 M7 d7 u7.heap.size L7 u7 HN7.out HR107.out (Nat.le_refl _) (by omega)).mono ?_
      rintro e u8 ⟨rfl, hb⟩
      rw [HA7.out]
      have HT8 := Lib.hid (HT7.out.call hb)
      clear hb HT7 HR107 HA7 HN7 hM7
      go_wp2_with fail
      refine (i_AreaOf A1 n c1 u8.heap.size xs u8 HX.out HT8.out.1 (Nat.le_refl _) (by omega)).mono ?_
      rintro e u9 ⟨rfl, hb⟩
      rw [← HU3.out]
      have HT9 := Lib.hid (HT8.out.call hb)
      clear hb HT8
      go_wp2_with fail
      refine (i_AreaOf A2 m c2 u9.heap.size ys u9 HY.out HT9.out.2.1 (Nat.le_refl _) (by omega)).mono ?_
      rintro e u10 ⟨rfl, hb⟩
      rw [← HU4.out]
      have HT10 := Lib.hid (HT9.out.call hb)
      clear hb HT9
      go_wp2_with fail
      refine (HC2.out u10 HT10.out).mono ?_
      rintro e u11 ⟨B11, M11, d11, L11, rfl, ⟨hM11, hl11, ha11⟩, hr11, ht11⟩
      have HT11 := Lib.hid ht11
      have HR111 := Lib.hid hr11
      have HA11 := Lib.hid ha11
      have HN11 := Lib.hid hl11
      clear hr11 ht11 ha11 hl11 HT10
      go_wp2_with fail
      refine (i_AreaOf B11 M11 d11 u11.heap.size L11 u11 HN11.out HR111.out (Nat.le_refl _) (by omega)).mono ?_
      rintro e u12 ⟨rfl, hb⟩
      rw [HA11.out]
      have HT12 := Lib.hid (HT11.out.call hb)
      clear hb HT11 HR111 HA11 HN11 hM11
      go_wp2_with fail
      refine (HC1.out u12 HT12.out).mono ?_
      rintro e u13 ⟨B13, M13, d13, L13, rfl, ⟨hM13, hl13, ha13⟩, hr13, ht13⟩
      have HT13 := Lib.hid ht13
      have HR113 := Lib.hid hr13
      have HA13 := Lib.hid ha13
      have HN13 := Lib.hid hl13
      clear hr13 ht13 ha13 hl13 HT12
      go_wp2_with fail
      refine (i_AreaOf B13 M13 d13 u13.heap.size L13 u13 HN13.out HR113.out (Nat.le_refl _) (by omega)).mono ?_
      rintro e u14 ⟨rfl, hb⟩
      rw [HA13.out]
      have HT14 := Lib.hid (HT13.out.call hb)
      clear hb HT13 HR113 HA13 HN13 hM13
      go_wp2_with fail
      refine (i_AreaOf A1 n c1 u14.heap.size xs u14 HX.out HT14.out.1 (Nat.le_refl _) (by omega)).mono ?_
      rintro e u15 ⟨rfl, hb⟩
      rw [← HU3.out]
      have HT15 := Lib.hid (HT14.out.call hb)
      clear hb HT14
      go_wp2
      go_ret
      exact ⟨rfl, HT15.out.2.2⟩

/-! ### From the walk to the statement. -/
theorem own : ownKnob Try.prog.godebug = none := by kernel_rfl
theorem laidOut : laidOutB Try.prog = true := by kernel_rfl
set_option maxRecDepth 100000 in
theorem lifted (os : Os) (started : os.Started) (H : Type) (enc : TypeId × Value → H) :
    ReturnsInHanded {} Try.checked os 10 .any (Rows.fnCombineRegionsAreaSpec.pre6 enc Try.prog Try.f10 Rows.fnCombineRegionsAreaRow.domain false) (Rows.fnCombineRegionsAreaSpec.post enc Try.prog Try.f10 false true false false) := by
  refine returnsInHanded_of_change (C := Try.checked) own started (by kernel_rfl) Try.func10
    (ChangeSpec.witness6 (enc := enc) (C := Try.checked) false ⟨#[], #[.slice none 0 0], []⟩ 8 (by kernel_rfl) (by kernel_rfl) (by kernel_rfl) (by kernel_rfl)) ?_
  intro W base args ds gs before hval0 hW hcnd _
  have hval : ∀ (j : Nat) t v, Try.f10.params[j]? = some t → args[j]? = some v → Value.okWide Try.prog W .any base t v := hval0
  have hW' := hW
  obtain ⟨p, q, hA0, hV, rfl, hfz, hnd⟩ := hW
  have hA : DataW.TrodAll enc Try.prog W 0 (fun _ => true) true Try.f10.params.toList args.toList ds p := hA0
  rw [Try.params10] at hA hval
  obtain ⟨v0, vs0, d0, ds0, p0, q0, hargs, rfl, rfl, h0, r0⟩ := trodAll_cons hA
  obtain ⟨rfl, rfl, rfl⟩ := trodAll_nil r0
  obtain rfl : args = #[v0] := by cases args; simp_all
  obtain ⟨rfl, rfl⟩ := trodVars_none hV
  obtain ⟨a0, len0, cap0, rfl⟩ := okWide_slice Try.underlying43 (hval 0 43 v0 rfl rfl)
  have k0 := h0
  have lt0 : ∀ x ∈ p0, x.block < W.heap.size := by obtain ⟨m, hm⟩ := k0; exact DataW.trod_lt m _ _ _ hm
  obtain ⟨z0, hl0, hc0, w0⟩ : ∃ zs : List Int, len0 = zs.length ∧ zs.length ≤ cap0 ∧ Rdw .u8 W W.heap.size a0 zs := by
    obtain ⟨fuel, hf⟩ := h0
    rcases open_ints Try.underlying43 Try.underlying5 (by kernel_rfl) hf with ⟨hcs, _⟩ | ⟨x, l, c, zs, hcs, _, hl, hm, hz, _, hcell, hwz⟩
    · simp [Value.cells] at hcs
      obtain ⟨rfl, rfl, rfl⟩ := hcs
      exact ⟨[], rfl, Nat.le_refl _, Rdw.nil⟩
    · simp [Value.cells] at hcs
      obtain ⟨rfl, rfl, rfl⟩ := hcs
      exact ⟨zs.take len0, by simp at hz ⊢; omega, by simp at hz ⊢; omega, Rdw.of_row hl hm (by simpa using hz) hcell hwz⟩
  subst hl0
  clear hA0 hval0
  refine (walk W a0 cap0 z0 hc0 w0).mono fun e W' ⟨he, bel⟩ => ?_
  subst he
  exact ⟨_, rfl, _, _, _, [], _, [], hW', trodAll_mk1 (shut_bool Try.underlying4 _), (trodAll_cons_mk (Below.trod laidOut (by kernel_rfl) (of_decide_eq_true (by kernel_rfl)) k0 bel lt0) trodAll_mk0), rfl, bel.frame _, fun h => by cases h⟩

theorem over : Rows.fnCombineRegionsAreaRow.holds Try.pinned (OpenSpec.ofChange Rows.fnCombineRegionsAreaSpec) :=
  OpenClaim.holds_of_wide 10 Try.f10 rfl rfl rfl rfl rfl rfl rfl ⟨rfl, rfl, rfl, rfl, rfl⟩ rfl rfl rfl rfl rfl (by kernel_rfl) Try.func10 (by kernel_rfl)
    (of_decide_eq_true (by kernel_rfl)) (by unfold Func.isWrapper; first | (rw [if_pos (by decide +kernel)]; kernel_rfl) | (rw [if_neg (by decide +kernel)]; exact ⟨rfl, rfl⟩))
    (fun os started H enc _ => lifted os started H enc)

theorem proved : Rows.FnCombineRegionsAreaSaid := over
end Go.Proofs.Ytjekhlhnjknbeaa.fnCombineRegionsArea
