/- Whatever the code: drawn regions combine to the same in both orders, but for the difference; what is in exactly one of them is the union without the common part. -/
import Derived.Test.YtjekhlhnjknbeaaRows
import Derived.WalkKit
import Derived.ProofKit
import Derived.OpenShut
import Derived.ShutString
import Derived.ChangeOld
import Derived.Below
import Derived.Test.YtjekhlhnjknbeaaCmbM
import Derived.Deep.RegionHeld3
namespace Go.Proofs.Ytjekhlhnjknbeaa.fnCombineRegionsOrder
open Go.ChangeShapes Go.WideShapes Go.ChangeAt Go.RowKit
open Go.ChangeMaps (open_string shut_string)
set_option linter.unusedVariables false

set_option maxHeartbeats 32000000 in
theorem walk (w : World) (a0 : Option Addr) (cap0 : Nat) (z0 : List Int) (hc0 : z0.length ≤ cap0) (w0 : Rdw .u8 w w.heap.size a0 z0) :
    Calls Try.prog 11 #[.slice a0 z0.length cap0] w fun e w' => e = .returned (.bool true) ∧ Below w.heap.size w w' := by
  have hm := w0.2.1
  unfold maxLen at hm
  by_cases hlen : 1048576 < z0.length
  · go_enter Try.func11, Try.ntmps11
    go_wp2
    go_ret
    exact ⟨rfl, Below.refl _ _⟩
  · have HD := Lib.hid (drawCombine_any a0 cap0 z0 w hc0 w0)
    clear w0 hc0
    go_enter Try.func11, Try.ntmps11
    go_wp2_with fail
    refine HD.out.mono ?_
    rintro e w1 ⟨v1, n, xs, v2, m, ys, k, rfl, ⟨hn, hmm, hk0, hk1⟩, hO1, hO2, hb1⟩
    obtain ⟨A1, c1, rfl, hc1⟩ := hO1.slice
    obtain ⟨A2, c2, rfl, hc2⟩ := hO2.slice
    have HX : Hid (xs.length = 3 * n) := Lib.hid (by have := hO1.len; omega)
    have HY : Hid (ys.length = 3 * m) := Lib.hid (by have := hO2.len; omega)
    have HT1 : Hid (Two w A1 A2 xs ys w1) := Lib.hid ⟨hO1.rds, hO2.rds, hb1⟩
    clear hO1 hO2 hb1
    obtain ⟨ok, hok⟩ : ∃ ok, ok = cmbOk k xs n ys m := ⟨_, rfl⟩
    obtain ⟨N, hN⟩ : ∃ N, N = cbN k xs n ys m := ⟨_, rfl⟩
    obtain ⟨L, hL⟩ : ∃ L, L = cbL k xs n ys m := ⟨_, rfl⟩
    have HI : Hid (∀ u, Two w A1 A2 xs ys u → Calls Try.prog 28 #[.slice A1 n c1, .slice A2 m c2, .int .i64 k] u fun e w' => ∃ v, e = .returned (.tuple #[v, .bool ok]) ∧ OwnT 75 3 w' u.heap.size v N L ∧ Below u.heap.size u w') := Lib.hid (fun u hu => by
      rw [hok, hN, hL]; exact i_CombineRegions A1 A2 n m c1 c2 xs ys k u HX.out hu.1 (by omega) HY.out hu.2.1 (by omega))
    have HS : Hid (∀ u, Two w A1 A2 xs ys u → Calls Try.prog 26 #[.slice A1 n c1, .slice A2 m c2, .int .i64 k] u fun e w' => ∃ v, e = .returned (.tuple #[v, .bool ok]) ∧ OwnT 75 3 w' u.heap.size v N L ∧ Below u.heap.size u w') := Lib.hid (fun u hu => by
      rw [hok, hN, hL]; exact s_CombineRegions A1 A2 n m c1 c2 xs ys k u HX.out hu.1 (by omega) HY.out hu.2.1 (by omega))
    have HLn : Hid (L.length = 3 * N) := Lib.hid (by rw [hN, hL]; exact (cb_len k xs n ys m).1)
    have hN3 : N ≤ 300 := by rw [hN]; exact (cb_len k xs n ys m).2
    have HN := Lib.hid hN
    have HL := Lib.hid hL
    have HK := Lib.hid hok
    clear hok hN hL
    go_wp2_with fail
    refine (HI.out w1 HT1.out).mono ?_
    rintro e w2 ⟨v3, rfl, hO3, hb2⟩
    obtain ⟨A3, c3, rfl, hc3⟩ := hO3.slice
    have HT2 := Lib.hid (HT1.out.call hb2)
    have HO3 := Lib.hid hO3
    clear hO3 hb2 HT1 HI
    go_wp2_with fail
    refine (HS.out w2 HT2.out).mono ?_
    rintro e w3 ⟨v4, rfl, hO4, hb3⟩
    obtain ⟨A4, c4, rfl, hc4⟩ := hO4.slice
    have HT3 := Lib.hid (HT2.out.call hb3)
    have HR3 := Lib.hid (HO3.out.below hb3 (Nat.le_refl _)).rds
    have HR4 := Lib.hid hO4.rds
    clear hO4 hb3 HT2 HS HO3
    go_wp2_with fail
    refine (equalRuns_same A3 A4 N c3 c4 L w3.heap.size w3.heap.size w3 HLn.out HR3.out HR4.out (by omega)).mono ?_
    rintro e w4 ⟨rfl, m4, rfl⟩
    have HT4 := Lib.hid (HT3.out.drewN m4)
    have HR5 := Lib.hid (show Rds .i64 (w3.drewN m4) (w3.drewN m4).heap.size A3 L from HR3.out)
    have HR6 := Lib.hid (show Rds .i64 (w3.drewN m4) (w3.drewN m4).heap.size A4 L from HR4.out)
    clear HT3 HR3 HR4
    generalize w3.drewN m4 = u at *
    cases ok
    · go_wp2_with fail
      refine (equalRuns_same A3 A4 N c3 c4 L u.heap.size u.heap.size u HLn.out HR5.out HR6.out (by omega)).mono ?_
      rintro e w5 ⟨rfl, m5, rfl⟩
      have HB := Lib.hid (HT4.out.drewN m5).2.2
      clear HT4 HR5 HR6
      go_wp2
      go_ret
      exact ⟨rfl, HB.out⟩
    · obtain ⟨⟨hrx, hry⟩, hk2, hk3⟩ := cmbOk_at HK.out.symm
      have Hx := Lib.hid hrx
      have Hy := Lib.hid hry
      clear hrx hry HR6
      have h0 := cmbOk_yes (k := 0) Hx.out Hy.out (by omega)
      have h1 := cmbOk_yes (k := 1) Hx.out Hy.out (by omega)
      have h3 := cmbOk_yes (k := 3) Hx.out Hy.out (by omega)
      have hk' := cmbOk_yes (k := k) Hy.out Hx.out ⟨hk2, hk3⟩
      obtain ⟨_, _, hg0⟩ := cb_yes h0
      obtain ⟨_, _, hg1⟩ := cb_yes h1
      have h2 := cmbOk_yes (k := 2) hg0 hg1 (by omega)
      have hE : cbL 3 xs n ys m = cbL 2 (cbL 0 xs n ys m) (cbN 0 xs n ys m) (cbL 1 xs n ys m) (cbN 1 xs n ys m) ∧ cbN 3 xs n ys m = cbN 2 (cbL 0 xs n ys m) (cbN 0 xs n ys m) (cbL 1 xs n ys m) (cbN 1 xs n ys m) := cb_eq h3 h2 (fun x y hx hy => by
        rw [cb_rh h0 hx hy, cb_rh h1 hx hy]
        cases rh xs x y n <;> cases rh ys x y m <;> simp [krule])
      have hF : k ≠ 2 → cbL k ys m xs n = L ∧ cbN k ys m xs n = N := fun hne => by
        rw [HL.out, HN.out]
        exact cb_eq hk' HK.out.symm (fun x y hx hy => by
          rcases (show k = 0 ∨ k = 1 ∨ k = 3 by omega) with e | e | e <;> subst e <;> cases rh xs x y n <;> cases rh ys x y m <;> simp [krule])
      have HE := Lib.hid hE
      have HF := Lib.hid hF
      have HC : Hid (∀ (K : Int) (u : World), Two w A1 A2 xs ys u → Calls Try.prog 41 #[.slice A1 n c1, .slice A2 m c2, .int .i64 K] u fun e w' => ∃ A c, e = .returned (.slice A (cbN K xs n ys m) c) ∧ Rds .i64 w' w'.heap.size A (cbL K xs n ys m) ∧ Two w A1 A2 xs ys w' ∧ Below u.heap.size u w') := Lib.hid (fun K u hu => (combined_any A1 A2 n m c1 c2 xs ys K u HX.out hu.1 (by omega) HY.out hu.2.1 (by omega)).mono (by
        rintro e w' ⟨v, rfl, hO, hb⟩
        obtain ⟨A, c, rfl, _⟩ := hO.slice
        exact ⟨A, c, rfl, hO.rds, hu.call hb, hb⟩))
      have HC' : Hid (∀ (u : World), Two w A1 A2 xs ys u → Calls Try.prog 41 #[.slice A2 m c2, .slice A1 n c1, .int .i64 k] u fun e w' => ∃ A c, e = .returned (.slice A (cbN k ys m xs n) c) ∧ Rds .i64 w' w'.heap.size A (cbL k ys m xs n) ∧ Two w A1 A2 xs ys w' ∧ Below u.heap.size u w') := Lib.hid (fun u hu => (combined_any A2 A1 m n c2 c1 ys xs k u HY.out hu.2.1 (by omega) HX.out hu.1 (by omega)).mono (by
        rintro e w' ⟨v, rfl, hO, hb⟩
        obtain ⟨A, c, rfl, _⟩ := hO.slice
        exact ⟨A, c, rfl, hO.rds, hu.call hb, hb⟩))
      have n0 := cb_len 0 xs n ys m
      have n1 := cb_len 1 xs n ys m
      have n3 := cb_len 3 xs n ys m
      clear hE hF h0 h1 h2 h3 hk' hg0 hg1
      go_wp2_with fail
      refine (HC.out 0 u HT4.out).mono ?_
      rintro e u5 ⟨B5, d5, rfl, hr5, ht5, hb5⟩
      have HT5 := Lib.hid ht5
      have HRL := Lib.hid ((HR5.out.below hb5).more hb5.size)
      obtain ⟨N0, hN0⟩ : ∃ N0, N0 = cbN 0 xs n ys m := ⟨_, rfl⟩
      obtain ⟨L0, hL0⟩ : ∃ L0, L0 = cbL 0 xs n ys m := ⟨_, rfl⟩
      rw [← hN0] at HE n0 ⊢
      rw [← hL0] at HE hr5 n0
      have HQ5 := Lib.hid hr5
      clear hr5 ht5 hb5 HT4 HR5 hN0 hL0
      go_wp2_with fail
      refine (HC.out 1 u5 HT5.out).mono ?_
      rintro e u6 ⟨B6, d6, rfl, hr6, ht6, hb6⟩
      have HT6 := Lib.hid ht6
      have HRM := Lib.hid ((HRL.out.below hb6).more hb6.size)
      have HQ5' := Lib.hid ((HQ5.out.below hb6).more hb6.size)
      obtain ⟨N1, hN1⟩ : ∃ N0, N0 = cbN 1 xs n ys m := ⟨_, rfl⟩
      obtain ⟨L1, hL1⟩ : ∃ L0, L0 = cbL 1 xs n ys m := ⟨_, rfl⟩
      rw [← hN1] at HE n1 ⊢
      rw [← hL1] at HE hr6 n1
      have HQ6 := Lib.hid hr6
      clear hr6 ht6 hb6 HT5 HRL HQ5 hN1 hL1
      have H0 := Lib.hid n0.1
      have H1 := Lib.hid n1.1
      have nb0 := n0.2
      have nb1 := n1.2
      clear n0 n1
      go_wp2_with fail
      refine (combined_any B5 B6 N0 N1 d5 d6 L0 L1 2 u6 H0.out HQ5'.out (by omega) H1.out HQ6.out (by omega)).mono ?_
      rintro e u7 ⟨v7, rfl, hO7, hb7⟩
      rw [← HE.out.1, ← HE.out.2] at hO7
      obtain ⟨B7, d7, rfl, _⟩ := hO7.slice
      have HT7 := Lib.hid (HT6.out.call hb7)
      have HRN := Lib.hid ((HRM.out.below hb7).more hb7.size)
      have HQ7 := Lib.hid hO7.rds
      clear hO7 hb7 HT6 HRM HQ5' HQ6 HE
      obtain ⟨N3, hN3'⟩ : ∃ N0, N0 = cbN 3 xs n ys m := ⟨_, rfl⟩
      obtain ⟨L3, hL3⟩ : ∃ L0, L0 = cbL 3 xs n ys m := ⟨_, rfl⟩
      have HC3 : Hid (∀ (u : World), Two w A1 A2 xs ys u → Calls Try.prog 41 #[.slice A1 n c1, .slice A2 m c2, .int .i64 3] u fun e w' => ∃ A c, e = .returned (.slice A N3 c) ∧ Rds .i64 w' w'.heap.size A L3 ∧ Two w A1 A2 xs ys w' ∧ Below u.heap.size u w') := Lib.hid (by rw [hN3', hL3]; exact HC.out 3)
      rw [← hN3', ← hL3] at n3
      rw [← hN3'] 
      rw [← hL3] at HQ7
      have H3 := Lib.hid n3.1
      have nb3 := n3.2
      clear n3 HC hN3' hL3
      by_cases hkk : k = 2
      · subst hkk
        clear HF HC' HRN
        go_wp2_with fail
        refine (HC3.out u7 HT7.out).mono ?_
        rintro e x1 ⟨D1, f1, rfl, hr, ht, hb⟩
        have HTa := Lib.hid ht
        have HQa := Lib.hid ((HQ7.out.below hb).more hb.size)
        have HPa := Lib.hid hr
        clear hr ht hb HT7 HQ7
        go_wp2_with fail
        refine (equalRuns_same D1 B7 N3 f1 d7 L3 x1.heap.size x1.heap.size x1 H3.out HPa.out HQa.out (by omega)).mono ?_
        rintro e x2 ⟨rfl, mm, rfl⟩
        have HB := Lib.hid (HTa.out.drewN mm).2.2
        clear HTa HQa HPa
        go_wp2
        go_ret
        exact ⟨rfl, HB.out⟩
      · obtain ⟨f1, f2⟩ := HF.out hkk
        have hkI : (k == 2) = false := beq_eq_false_iff_ne.2 hkk
        rw [f1, f2] at HC'
        clear f1 f2 HF hkk
        go_wp2_with fail
        refine (HC'.out u7 HT7.out).mono ?_
        rintro e u8 ⟨B8, d8, rfl, hr8, ht8, hb8⟩
        have HT8 := Lib.hid ht8
        have HRO := Lib.hid ((HRN.out.below hb8).more hb8.size)
        have HQ8 := Lib.hid ((HQ7.out.below hb8).more hb8.size)
        have HP8 := Lib.hid hr8
        clear hr8 ht8 hb8 HT7 HRN HQ7 HC'
        go_wp2_with fail
        refine (equalRuns_same B8 A3 N d8 c3 L u8.heap.size u8.heap.size u8 HLn.out HP8.out HRO.out (by omega)).mono ?_
        rintro e u9 ⟨rfl, m9, rfl⟩
        have HT9 := Lib.hid (HT8.out.drewN m9)
        have HQ9 := Lib.hid (show Rds .i64 (u8.drewN m9) (u8.drewN m9).heap.size B7 L3 from HQ8.out)
        clear HT8 HRO HQ8 HP8
        generalize u8.drewN m9 = u9 at *
        go_wp2_with fail
        refine (HC3.out u9 HT9.out).mono ?_
        rintro e x1 ⟨D1, f1, rfl, hr, ht, hb⟩
        have HTa := Lib.hid ht
        have HQa := Lib.hid ((HQ9.out.below hb).more hb.size)
        have HPa := Lib.hid hr
        clear hr ht hb HT9 HQ9
        go_wp2_with fail
        refine (equalRuns_same D1 B7 N3 f1 d7 L3 x1.heap.size x1.heap.size x1 H3.out HPa.out HQa.out (by omega)).mono ?_
        rintro e x2 ⟨rfl, mm, rfl⟩
        have HB := Lib.hid (HTa.out.drewN mm).2.2
        clear HTa HQa HPa
        go_wp2
        go_ret
        exact ⟨rfl, HB.out⟩

/-! ### From the walk to the statement. -/
theorem own : ownKnob Try.prog.godebug = none := by kernel_rfl
theorem laidOut : laidOutB Try.prog = true := by kernel_rfl
set_option maxRecDepth 100000 in
theorem lifted (os : Os) (started : os.Started) (H : Type) (enc : TypeId × Value → H) :
    ReturnsInHanded {} Try.checked os 11 .any (Rows.fnCombineRegionsOrderSpec.pre6 enc Try.prog Try.f11 Rows.fnCombineRegionsOrderRow.domain false) (Rows.fnCombineRegionsOrderSpec.post enc Try.prog Try.f11 false true false false) := by
  refine returnsInHanded_of_change (C := Try.checked) own started (by kernel_rfl) Try.func11
    (ChangeSpec.witness6 (enc := enc) (C := Try.checked) false ⟨#[], #[.slice none 0 0], []⟩ 8 (by kernel_rfl) (by kernel_rfl) (by kernel_rfl) (by kernel_rfl)) ?_
  intro W base args ds gs before hval0 hW hcnd _
  have hval : ∀ (j : Nat) t v, Try.f11.params[j]? = some t → args[j]? = some v → Value.okWide Try.prog W .any base t v := hval0
  have hW' := hW
  obtain ⟨p, q, hA0, hV, rfl, hfz, hnd⟩ := hW
  have hA : DataW.TrodAll enc Try.prog W 0 (fun _ => true) true Try.f11.params.toList args.toList ds p := hA0
  rw [Try.params11] at hA hval
  obtain ⟨v0, vs0, d0, ds0, p0, q0, hargs, rfl, rfl, h0, r0⟩ := trodAll_cons hA
  obtain ⟨rfl, rfl, rfl⟩ := trodAll_nil r0
  obtain rfl : args = #[v0] := by cases args; simp_all
  obtain ⟨rfl, rfl⟩ := trodVars_none hV
  obtain ⟨a0, len0, cap0, rfl⟩ := okWide_slice Try.underlying43 (hval 0 43 v0 rfl rfl)
  have k0 := h0
  have lt0 : ∀ x ∈ p0, x.block < W.heap.size := by obtain ⟨m, hm⟩ := k0; exact DataW.trod_lt m _ _ _ hm
  obtain ⟨z0, hl0, hc0, w0⟩ : ∃ zs : List Int, len0 = zs.length ∧ zs.length ≤ cap0 ∧ Rdw .u8 W W.heap.size a0 zs := by
    obtain ⟨fuel, hf⟩ := h0
    rcases open_ints Try.underlying43 Try.underlying5 (by kernel_rfl) hf with ⟨hcs, _⟩ | ⟨x, l, c, zs, hcs, _, hl, hm, hz, _, hcell, hwz⟩
    · simp [Value.cells] at hcs
      obtain ⟨rfl, rfl, rfl⟩ := hcs
      exact ⟨[], rfl, Nat.le_refl _, Rdw.nil⟩
    · simp [Value.cells] at hcs
      obtain ⟨rfl, rfl, rfl⟩ := hcs
      exact ⟨zs.take len0, by simp at hz ⊢; omega, by simp at hz ⊢; omega, Rdw.of_row hl hm (by simpa using hz) hcell hwz⟩
  subst hl0
  clear hA0 hval0
  refine (walk W a0 cap0 z0 hc0 w0).mono fun e W' ⟨he, bel⟩ => ?_
  subst he
  exact ⟨_, rfl, _, _, _, [], _, [], hW', trodAll_mk1 (shut_bool Try.underlying4 _), (trodAll_cons_mk (Below.trod laidOut (by kernel_rfl) (of_decide_eq_true (by kernel_rfl)) k0 bel lt0) trodAll_mk0), rfl, bel.frame _, fun h => by cases h⟩

theorem over : Rows.fnCombineRegionsOrderRow.holds Try.pinned (OpenSpec.ofChange Rows.fnCombineRegionsOrderSpec) :=
  OpenClaim.holds_of_wide 11 Try.f11 rfl rfl rfl rfl rfl rfl rfl ⟨rfl, rfl, rfl, rfl, rfl⟩ rfl rfl rfl rfl rfl (by kernel_rfl) Try.func11 (by kernel_rfl)
    (of_decide_eq_true (by kernel_rfl)) (by unfold Func.isWrapper; first | (rw [if_pos (by decide +kernel)]; kernel_rfl) | (rw [if_neg (by decide +kernel)]; exact ⟨rfl, rfl⟩))
    (fun os started H enc _ => lifted os started H enc)

theorem proved : Rows.FnCombineRegionsOrderSaid := over
end Go.Proofs.Ytjekhlhnjknbeaa.fnCombineRegionsOrder
