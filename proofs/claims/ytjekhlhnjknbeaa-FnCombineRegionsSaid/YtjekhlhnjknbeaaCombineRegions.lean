/- Whatever the code: a combined region has a pixel exactly if the rule holds of both drawn regions there. -/
import Derived.Test.YtjekhlhnjknbeaaRows
import Derived.WalkKit
import Derived.ProofKit
import Derived.OpenShut
import Derived.ShutString
import Derived.ChangeOld
import Derived.Below
import Derived.Test.YtjekhlhnjknbeaaCmbM
import Derived.Test.YtjekhlhnjknbeaaHas
import Derived.Deep.RegionHeld3
namespace Go.Proofs.Ytjekhlhnjknbeaa.fnCombineRegions
open Go.ChangeShapes Go.WideShapes Go.ChangeAt Go.RowKit
open Go.ChangeMaps (open_string shut_string)
set_option linter.unusedVariables false

theorem cell4 (w : World) (b0 b1 b2 b3 : Bool) (k : Nat) (hk : k ≤ 3) : (w.alloc (.cells #[.bool b0, .bool b1, .bool b2, .bool b3] 4)).cell? ⟨w.heap.size, k, none⟩ = some (.bool (if k = 0 then b0 else if k = 1 then b1 else if k = 2 then b2 else b3)) := by
  rw [cell_of_row _ _ _ _ _ _ (heap_alloc_new w _)]
  rcases (show k = 0 ∨ k = 1 ∨ k = 2 ∨ k = 3 by omega) with e | e | e | e <;> subst e <;> rfl
theorem rule4 (k : Nat) (hk : k ≤ 3) (a b : Bool) : (if k = 0 then a || b else if k = 1 then a && b else if k = 2 then a && !b else a != b) = krule k a b := by
  rcases (show k = 0 ∨ k = 1 ∨ k = 2 ∨ k = 3 by omega) with e | e | e | e <;> subst e <;> simp [krule]
set_option maxHeartbeats 32000000 in
theorem walk (w : World) (a0 : Option Addr) (cap0 : Nat) (z0 : List Int) (hc0 : z0.length ≤ cap0) (w0 : Rdw .u8 w w.heap.size a0 z0) :
    Calls Try.prog 9 #[.slice a0 z0.length cap0] w fun e w' => e = .returned (.bool true) ∧ Below w.heap.size w w' := by
  have hm := w0.2.1
  unfold maxLen at hm
  by_cases hlen : 1048576 < z0.length
  · go_enter Try.func9, Try.ntmps9
    go_wp2
    go_ret
    exact ⟨rfl, Below.refl _ _⟩
  · have HD := Lib.hid (drawCombine_any a0 cap0 z0 w hc0 w0)
    clear w0 hc0
    go_enter Try.func9, Try.ntmps9
    go_wp2_with fail
    refine HD.out.mono ?_
    rintro e w1 ⟨v1, n, xs, v2, m, ys, k, rfl, ⟨hn, hmm, hk0, hk1⟩, hO1, hO2, hb1⟩
    obtain ⟨A1, c1, rfl, hc1⟩ := hO1.slice
    obtain ⟨A2, c2, rfl, hc2⟩ := hO2.slice
    have HX : Hid (xs.length = 3 * n) := Lib.hid (by have := hO1.len; omega)
    have HY : Hid (ys.length = 3 * m) := Lib.hid (by have := hO2.len; omega)
    have HT1 : Hid (Two w A1 A2 xs ys w1) := Lib.hid ⟨hO1.rds, hO2.rds, hb1⟩
    clear hO1 hO2 hb1
    obtain ⟨ok, hok⟩ : ∃ ok, ok = cmbOk k xs n ys m := ⟨_, rfl⟩
    obtain ⟨N, hN⟩ : ∃ N, N = cbN k xs n ys m := ⟨_, rfl⟩
    obtain ⟨L, hL⟩ : ∃ L, L = cbL k xs n ys m := ⟨_, rfl⟩
    have HI : Hid (∀ u, Two w A1 A2 xs ys u → Calls Try.prog 28 #[.slice A1 n c1, .slice A2 m c2, .int .i64 k] u fun e w' => ∃ v, e = .returned (.tuple #[v, .bool ok]) ∧ OwnT 75 3 w' u.heap.size v N L ∧ Below u.heap.size u w') := Lib.hid (fun u hu => by
      rw [hok, hN, hL]; exact i_CombineRegions A1 A2 n m c1 c2 xs ys k u HX.out hu.1 (by omega) HY.out hu.2.1 (by omega))
    have HS : Hid (∀ u, Two w A1 A2 xs ys u → Calls Try.prog 26 #[.slice A1 n c1, .slice A2 m c2, .int .i64 k] u fun e w' => ∃ v, e = .returned (.tuple #[v, .bool ok]) ∧ OwnT 75 3 w' u.heap.size v N L ∧ Below u.heap.size u w') := Lib.hid (fun u hu => by
      rw [hok, hN, hL]; exact s_CombineRegions A1 A2 n m c1 c2 xs ys k u HX.out hu.1 (by omega) HY.out hu.2.1 (by omega))
    have HLn : Hid (L.length = 3 * N) := Lib.hid (by rw [hN, hL]; exact (cb_len k xs n ys m).1)
    have hN3 : N ≤ 300 := by rw [hN]; exact (cb_len k xs n ys m).2
    have HN := Lib.hid hN
    have HL := Lib.hid hL
    have HK := Lib.hid hok
    clear hok hN hL
    go_wp2_with fail
    refine (HI.out w1 HT1.out).mono ?_
    rintro e w2 ⟨v3, rfl, hO3, hb2⟩
    obtain ⟨A3, c3, rfl, hc3⟩ := hO3.slice
    have HT2 := Lib.hid (HT1.out.call hb2)
    have HO3 := Lib.hid hO3
    clear hO3 hb2 HT1 HI
    go_wp2_with fail
    refine (HS.out w2 HT2.out).mono ?_
    rintro e w3 ⟨v4, rfl, hO4, hb3⟩
    obtain ⟨A4, c4, rfl, hc4⟩ := hO4.slice
    have HT3 := Lib.hid (HT2.out.call hb3)
    have HR3 := Lib.hid (HO3.out.below hb3 (Nat.le_refl _)).rds
    have HR4 := Lib.hid hO4.rds
    clear hO4 hb3 HT2 HS HO3
    go_wp2_with fail
    refine (equalRuns_same A3 A4 N c3 c4 L w3.heap.size w3.heap.size w3 HLn.out HR3.out HR4.out (by omega)).mono ?_
    rintro e w4 ⟨rfl, m4, rfl⟩
    have HT4 := Lib.hid (HT3.out.drewN m4)
    have HR5 := Lib.hid (show Rds .i64 (w3.drewN m4) (w3.drewN m4).heap.size A3 L from HR3.out)
    have HR6 := Lib.hid (show Rds .i64 (w3.drewN m4) (w3.drewN m4).heap.size A4 L from HR4.out)
    clear HT3 HR3 HR4
    generalize w3.drewN m4 = u at *
    cases ok
    · go_wp2_with fail
      refine (equalRuns_same A3 A4 N c3 c4 L u.heap.size u.heap.size u HLn.out HR5.out HR6.out (by omega)).mono ?_
      rintro e w5 ⟨rfl, m5, rfl⟩
      have HB := Lib.hid (HT4.out.drewN m5).2.2
      clear HT4 HR5 HR6
      go_wp2
      go_ret
      exact ⟨rfl, HB.out⟩
    · obtain ⟨⟨hrx, hry⟩, hk2, hk3⟩ := cmbOk_at HK.out.symm
      have Hx := Lib.hid hrx
      have Hy := Lib.hid hry
      clear hrx hry HR6
      obtain ⟨kn, rfl⟩ : ∃ kn : Nat, k = kn := ⟨k.toNat, by omega⟩
      have hkn : kn ≤ 3 := by omega
      have hrv : regB L N = true := by rw [HL.out, HN.out]; exact regB_yes (cb_yes HK.out.symm).2.2
      have HP : Hid (∀ i : Nat, i < 100 → rhas L N ((i % 10 : Nat) : Int) ((i / 10 : Nat) : Int) = krule kn (rhas xs n ((i % 10 : Nat) : Int) ((i / 10 : Nat) : Int)) (rhas ys m ((i % 10 : Nat) : Int) ((i / 10 : Nat) : Int))) := Lib.hid (fun i hi => by
        unfold rhas
        rw [hrv, regB_yes Hx.out, regB_yes Hy.out, Bool.true_and, Bool.true_and, Bool.true_and, HL.out, HN.out]
        exact cb_rh HK.out.symm (by omega) (by omega))
      have H1 : Hid (∀ (p q : Int) (u : World), Rds .i64 u u.heap.size A1 xs → Calls Try.prog 34 #[.slice A1 n c1, .int .i64 p, .int .i64 q] u fun e w' => e = .returned (.bool (rhas xs n p q)) ∧ Below u.heap.size u w') := Lib.hid (fun p q u hu => i_RegionHas A1 n c1 u.heap.size xs p q u HX.out hu (Nat.le_refl _) (by omega))
      have H2 : Hid (∀ (p q : Int) (u : World), Rds .i64 u u.heap.size A2 ys → Calls Try.prog 34 #[.slice A2 m c2, .int .i64 p, .int .i64 q] u fun e w' => e = .returned (.bool (rhas ys m p q)) ∧ Below u.heap.size u w') := Lib.hid (fun p q u hu => i_RegionHas A2 m c2 u.heap.size ys p q u HY.out hu (Nat.le_refl _) (by omega))
      have H3 : Hid (∀ (p q : Int) (u : World), Rds .i64 u u.heap.size A3 L → Calls Try.prog 34 #[.slice A3 N c3, .int .i64 p, .int .i64 q] u fun e w' => e = .returned (.bool (rhas L N p q)) ∧ Below u.heap.size u w') := Lib.hid (fun p q u hu => i_RegionHas A3 N c3 u.heap.size L p q u HLn.out hu (Nat.le_refl _) (by omega))
      have H4 : Hid (∀ (u : World), Rds .i64 u u.heap.size A3 L → Calls Try.prog 36 #[.slice A3 N c3] u fun e w' => e = .returned (.bool true) ∧ Below u.heap.size u w') := Lib.hid (fun u hu => by
        have := i_ValidRegion A3 N c3 u.heap.size L u HLn.out hu (Nat.le_refl _) (by omega)
        rwa [hrv] at this)
      have HI0 := Lib.hid (show Two w A1 A2 xs ys u ∧ Rds .i64 u u.heap.size A3 L from ⟨HT4.out, HR5.out⟩)
      clear hrv HT4 HR5 HN HL HK Hx Hy HX HY HLn hk0 hk1 hk2 hk3
      go_wp2
      go_loopw [10] (fun i wr => ∃ j : Nat, j ≤ 100 ∧ i = .int .i64 j ∧ Hid (Two w A1 A2 xs ys wr ∧ Rds .i64 wr wr.heap.size A3 L)) (fun i _ => 100 - (intOf i).toNat)
      case atStart => exact ⟨0, by omega, rfl, HI0⟩
      case round =>
        clear HI0
        obtain ⟨j, hj, rfl, hI⟩ := hrel
        have HT := Lib.hid hI.out.1
        have HR := Lib.hid hI.out.2
        clear hI
        by_cases hlt : j < 100
        · have hjI : (j : Int) < 100 := by omega
          have hpp := HP.out j hlt
          obtain ⟨p, hp⟩ : ∃ m, m = j % 10 := ⟨_, rfl⟩
          obtain ⟨q, hq⟩ : ∃ q, q = j / 10 := ⟨_, rfl⟩
          have e1 : (j : Int).tmod 10 = (p : Int) := by rw [hp, Int.tmod_eq_emod_of_nonneg (by omega)]; omega
          have e2 : (j : Int).tdiv 10 = (q : Int) := by rw [hq, Int.tdiv_eq_ediv_of_nonneg (by omega)]; omega
          have e3 : (j : Int) % 10 = (p : Int) := by omega
          have e4 : (j : Int) / 10 = (q : Int) := by omega
          rw [← hp, ← hq] at hpp
          have hpb : p < 10 := by omega
          have hqb : q < 10 := by omega
          clear hp hq
          obtain ⟨bx, hbx⟩ : ∃ b, b = rhas xs n (p : Int) (q : Int) := ⟨_, rfl⟩
          obtain ⟨bz, hbz⟩ : ∃ b, b = rhas ys m (p : Int) (q : Int) := ⟨_, rfl⟩
          rw [← hbx, ← hbz, ← rule4 kn hkn] at hpp
          have HPP := Lib.hid hpp
          have HBX := Lib.hid hbx
          have HBZ := Lib.hid hbz
          clear hpp hbx hbz
          go_wp2_with fail
          refine (H1.out (p : Int) (q : Int) wr HT.out.1).mono ?_
          rintro e w5 ⟨rfl, hb5⟩
          rw [← HBX.out]
          have HT5 := Lib.hid (HT.out.call hb5)
          have HR5 := Lib.hid ((HR.out.below hb5).more hb5.size)
          clear HT HR hb5
          go_wp2_with fail
          refine (H2.out (p : Int) (q : Int) w5 HT5.out.2.1).mono ?_
          rintro e w6 ⟨rfl, hb6⟩
          rw [← HBZ.out]
          have HT6 := Lib.hid (HT5.out.call hb6)
          have HR6 := Lib.hid ((HR5.out.below hb6).more hb6.size)
          clear HT5 HR5 hb6
          rcases bx <;> rcases bz
          · have HC := cell4 w6 false false false false kn hkn
            obtain ⟨g, hg⟩ : ∃ g, g = (if kn = 0 then false else if kn = 1 then false else if kn = 2 then false else false) := ⟨_, rfl⟩
            have HG : Hid (rhas L N (p : Int) (q : Int) = g) := Lib.hid (by rw [HPP.out, hg]; rfl)
            rw [← hg] at HC
            have HT7 := Lib.hid (HT6.out.call ((Below.refl _ _).alloc (Nat.le_refl _) (.cells #[.bool false, .bool false, .bool false, .bool false] 4)))
            have HR7 := Lib.hid (HR6.out.alloc (Nat.le_refl _) (.cells #[.bool false, .bool false, .bool false, .bool false] 4))
            clear hg HPP HBX HBZ HT6 HR6
            go_wp2_with fail
            refine (H3.out (p : Int) (q : Int) _ (HR7.out.more (by simp))).mono ?_
            rintro e w7 ⟨rfl, hb7⟩
            rw [HG.out]
            have HN : Hid (Two w A1 A2 xs ys w7 ∧ Rds .i64 w7 w7.heap.size A3 L) := Lib.hid ⟨HT7.out.call hb7, ((HR7.out.more (by simp)).below hb7).more hb7.size⟩
            clear HT7 HR7 hb7 HC HG
            cases g
            all_goals
              go_wp2
              go_roundw
              case rel => exact ⟨j + 1, by omega, by go_num, HN⟩
              case measure => simp [intOf]; omega
          · have HC := cell4 w6 true false false true kn hkn
            obtain ⟨g, hg⟩ : ∃ g, g = (if kn = 0 then true else if kn = 1 then false else if kn = 2 then false else true) := ⟨_, rfl⟩
            have HG : Hid (rhas L N (p : Int) (q : Int) = g) := Lib.hid (by rw [HPP.out, hg]; rfl)
            rw [← hg] at HC
            have HT7 := Lib.hid (HT6.out.call ((Below.refl _ _).alloc (Nat.le_refl _) (.cells #[.bool true, .bool false, .bool false, .bool true] 4)))
            have HR7 := Lib.hid (HR6.out.alloc (Nat.le_refl _) (.cells #[.bool true, .bool false, .bool false, .bool true] 4))
            clear hg HPP HBX HBZ HT6 HR6
            go_wp2_with fail
            refine (H3.out (p : Int) (q : Int) _ (HR7.out.more (by simp))).mono ?_
            rintro e w7 ⟨rfl, hb7⟩
            rw [HG.out]
            have HN : Hid (Two w A1 A2 xs ys w7 ∧ Rds .i64 w7 w7.heap.size A3 L) := Lib.hid ⟨HT7.out.call hb7, ((HR7.out.more (by simp)).below hb7).more hb7.size⟩
            clear HT7 HR7 hb7 HC HG
            cases g
            all_goals
              go_wp2
              go_roundw
              case rel => exact ⟨j + 1, by omega, by go_num, HN⟩
              case measure => simp [intOf]; omega
          · have HC := cell4 w6 true false true true kn hkn
            obtain ⟨g, hg⟩ : ∃ g, g = (if kn = 0 then true else if kn = 1 then false else if kn = 2 then true else true) := ⟨_, rfl⟩
            have HG : Hid (rhas L N (p : Int) (q : Int) = g) := Lib.hid (by rw [HPP.out, hg]; rfl)
            rw [← hg] at HC
            have HT7 := Lib.hid (HT6.out.call ((Below.refl _ _).alloc (Nat.le_refl _) (.cells #[.bool true, .bool false, .bool true, .bool true] 4)))
            have HR7 := Lib.hid (HR6.out.alloc (Nat.le_refl _) (.cells #[.bool true, .bool false, .bool true, .bool true] 4))
            clear hg HPP HBX HBZ HT6 HR6
            go_wp2_with fail
            refine (H3.out (p : Int) (q : Int) _ (HR7.out.more (by simp))).mono ?_
            rintro e w7 ⟨rfl, hb7⟩
            rw [HG.out]
            have HN : Hid (Two w A1 A2 xs ys w7 ∧ Rds .i64 w7 w7.heap.size A3 L) := Lib.hid ⟨HT7.out.call hb7, ((HR7.out.more (by simp)).below hb7).more hb7.size⟩
            clear HT7 HR7 hb7 HC HG
            cases g
            all_goals
              go_wp2
              go_roundw
              case rel => exact ⟨j + 1, by omega, by go_num, HN⟩
              case measure => simp [intOf]; omega
          · have HC := cell4 w6 true true false false kn hkn
            obtain ⟨g, hg⟩ : ∃ g, g = (if kn = 0 then true else if kn = 1 then true else if kn = 2 then false else false) := ⟨_, rfl⟩
            have HG : Hid (rhas L N (p : Int) (q : Int) = g) := Lib.hid (by rw [HPP.out, hg]; rfl)
            rw [← hg] at HC
            have HT7 := Lib.hid (HT6.out.call ((Below.refl _ _).alloc (Nat.le_refl _) (.cells #[.bool true, .bool true, .bool false, .bool false] 4)))
            have HR7 := Lib.hid (HR6.out.alloc (Nat.le_refl _) (.cells #[.bool true, .bool true, .bool false, .bool false] 4))
            clear hg HPP HBX HBZ HT6 HR6
            go_wp2_with fail
            refine (H3.out (p : Int) (q : Int) _ (HR7.out.more (by simp))).mono ?_
            rintro e w7 ⟨rfl, hb7⟩
            rw [HG.out]
            have HN : Hid (Two w A1 A2 xs ys w7 ∧ Rds .i64 w7 w7.heap.size A3 L) := Lib.hid ⟨HT7.out.call hb7, ((HR7.out.more (by simp)).below hb7).more hb7.size⟩
            clear HT7 HR7 hb7 HC HG
            cases g
            all_goals
              go_wp2
              go_roundw
              case rel => exact ⟨j + 1, by omega, by go_num, HN⟩
              case measure => simp [intOf]; omega
        · have hj' : j = 100 := by omega
          subst hj'
          go_wp2_with fail
          refine (H4.out wr HR.out).mono ?_
          rintro e w5 ⟨rfl, hb5⟩
          have HB := Lib.hid (HT.out.call hb5).2.2
          clear HT HR hb5
          go_wp2
          go_ret
          exact ⟨rfl, HB.out⟩

/-! ### From the walk to the statement. -/
theorem own : ownKnob Try.prog.godebug = none := by kernel_rfl
theorem laidOut : laidOutB Try.prog = true := by kernel_rfl
set_option maxRecDepth 100000 in
theorem lifted (os : Os) (started : os.Started) (H : Type) (enc : TypeId × Value → H) :
    ReturnsInHanded {} Try.checked os 9 .any (Rows.fnCombineRegionsSpec.pre6 enc Try.prog Try.f9 Rows.fnCombineRegionsRow.domain false) (Rows.fnCombineRegionsSpec.post enc Try.prog Try.f9 false true false false) := by
  refine returnsInHanded_of_change (C := Try.checked) own started (by kernel_rfl) Try.func9
    (ChangeSpec.witness6 (enc := enc) (C := Try.checked) false ⟨#[], #[.slice none 0 0], []⟩ 8 (by kernel_rfl) (by kernel_rfl) (by kernel_rfl) (by kernel_rfl)) ?_
  intro W base args ds gs before hval0 hW hcnd _
  have hval : ∀ (j : Nat) t v, Try.f9.params[j]? = some t → args[j]? = some v → Value.okWide Try.prog W .any base t v := hval0
  have hW' := hW
  obtain ⟨p, q, hA0, hV, rfl, hfz, hnd⟩ := hW
  have hA : DataW.TrodAll enc Try.prog W 0 (fun _ => true) true Try.f9.params.toList args.toList ds p := hA0
  rw [Try.params9] at hA hval
  obtain ⟨v0, vs0, d0, ds0, p0, q0, hargs, rfl, rfl, h0, r0⟩ := trodAll_cons hA
  obtain ⟨rfl, rfl, rfl⟩ := trodAll_nil r0
  obtain rfl : args = #[v0] := by cases args; simp_all
  obtain ⟨rfl, rfl⟩ := trodVars_none hV
  obtain ⟨a0, len0, cap0, rfl⟩ := okWide_slice Try.underlying43 (hval 0 43 v0 rfl rfl)
  have k0 := h0
  have lt0 : ∀ x ∈ p0, x.block < W.heap.size := by obtain ⟨m, hm⟩ := k0; exact DataW.trod_lt m _ _ _ hm
  obtain ⟨z0, hl0, hc0, w0⟩ : ∃ zs : List Int, len0 = zs.length ∧ zs.length ≤ cap0 ∧ Rdw .u8 W W.heap.size a0 zs := by
    obtain ⟨fuel, hf⟩ := h0
    rcases open_ints Try.underlying43 Try.underlying5 (by kernel_rfl) hf with ⟨hcs, _⟩ | ⟨x, l, c, zs, hcs, _, hl, hm, hz, _, hcell, hwz⟩
    · simp [Value.cells] at hcs
      obtain ⟨rfl, rfl, rfl⟩ := hcs
      exact ⟨[], rfl, Nat.le_refl _, Rdw.nil⟩
    · simp [Value.cells] at hcs
      obtain ⟨rfl, rfl, rfl⟩ := hcs
      exact ⟨zs.take len0, by simp at hz ⊢; omega, by simp at hz ⊢; omega, Rdw.of_row hl hm (by simpa using hz) hcell hwz⟩
  subst hl0
  clear hA0 hval0
  refine (walk W a0 cap0 z0 hc0 w0).mono fun e W' ⟨he, bel⟩ => ?_
  subst he
  exact ⟨_, rfl, _, _, _, [], _, [], hW', trodAll_mk1 (shut_bool Try.underlying4 _), (trodAll_cons_mk (Below.trod laidOut (by kernel_rfl) (of_decide_eq_true (by kernel_rfl)) k0 bel lt0) trodAll_mk0), rfl, bel.frame _, fun h => by cases h⟩

theorem over : Rows.fnCombineRegionsRow.holds Try.pinned (OpenSpec.ofChange Rows.fnCombineRegionsSpec) :=
  OpenClaim.holds_of_wide 9 Try.f9 rfl rfl rfl rfl rfl rfl rfl ⟨rfl, rfl, rfl, rfl, rfl⟩ rfl rfl rfl rfl rfl (by kernel_rfl) Try.func9 (by kernel_rfl)
    (of_decide_eq_true (by kernel_rfl)) (by unfold Func.isWrapper; first | (rw [if_pos (by decide +kernel)]; kernel_rfl) | (rw [if_neg (by decide +kernel)]; exact ⟨rfl, rfl⟩))
    (fun os started H enc _ => lifted os started H enc)

theorem proved : Rows.FnCombineRegionsSaid := over
end Go.Proofs.Ytjekhlhnjknbeaa.fnCombineRegions
