/- Whatever the code: the program finds drawn boxes valid where the model does; then they are valid without the last one, and in an atlas that is wider or higher by one. -/
import Derived.Test.YtgieijogopcjnaaRows
import Derived.WalkKit
import Derived.ProofKit
import Derived.OpenShut
import Derived.ShutString
import Derived.ChangeOld
import Derived.Below
import Derived.Test.YtgieijogopcjnaaDrawVpk
import Derived.Test.YtgieijogopcjnaaVpk
import Derived.BigQuiet
import Derived.Deep.RegionHeld3
namespace Go.Proofs.Ytgieijogopcjnaa.fnValidPacking
open Go.ChangeShapes Go.WideShapes Go.ChangeAt Go.RowKit
open Go.ChangeMaps (open_string shut_string)
set_option linter.unusedVariables false

theorem rds_call {u u' : World} {A : Option Addr} {xs : List Int} (h : Rds .i64 u u.heap.size A xs) (hb : Below u.heap.size u u') : Rds .i64 u' u'.heap.size A xs := (h.below hb).more hb.size
theorem rds_dn {u : World} {A : Option Addr} {xs : List Int} (h : Rds .i64 u u.heap.size A xs) (m : Nat) : Rds .i64 (u.drewN m) (u.drewN m).heap.size A xs := h.keep (fun _ _ => rfl)
theorem q_take {xs : List Int} {m k : Nat} (h : k < m) : q0 (xs.take (m * 4)) k = q0 xs k ∧ q1 (xs.take (m * 4)) k = q1 xs k ∧ q2 (xs.take (m * 4)) k = q2 xs k ∧ q3 (xs.take (m * 4)) k = q3 xs k := by
  have g : ∀ i, i < m * 4 → (xs.take (m * 4)).getD i 0 = xs.getD i 0 := fun i hi => by
    rw [List.getD_eq_getElem?_getD, List.getD_eq_getElem?_getD, List.getElem?_take, if_pos hi]
  exact ⟨g _ (by omega), g _ (by omega), g _ (by omega), g _ (by omega)⟩
theorem hit_take {xs : List Int} {m k : Nat} (h : k < m) : ∀ j, j ≤ k → hitB (xs.take (m * 4)) k j = hitB xs k j
  | 0, _ => rfl
  | j + 1, hj => by
    have a := q_take (xs := xs) h
    have b := q_take (xs := xs) (show j < m by omega)
    unfold hitB
    rw [hit_take h j (by omega), a.1, a.2.1, a.2.2.1, a.2.2.2, b.1, b.2.1, b.2.2.1, b.2.2.2]
theorem okKs_all {W H : Int} {xs : List Int} : ∀ n, (∀ k, k < n → okK W H xs k = true) → okKs W H xs n = true
  | 0, _ => rfl
  | n + 1, h => by
    unfold okKs
    rw [okKs_all n (fun k hk => h k (by omega)), h n (by omega)]; rfl
theorem vpk_parts {W H : Int} {n : Nat} {xs : List Int} (h : vpk W H n xs = true) : (1 ≤ W ∧ W ≤ 64) ∧ (0 ≤ H ∧ H ≤ 192) ∧ n ≤ 12 ∧ okKs W H xs n = true := by
  unfold vpk at h
  simp only [Bool.and_eq_true] at h
  exact ⟨of_decide_eq_true h.1, of_decide_eq_true h.2.1, by have := of_decide_eq_true h.2.2.1; omega, h.2.2.2⟩
theorem vpk_mk {W H : Int} {n : Nat} {xs : List Int} (h1 : 1 ≤ W ∧ W ≤ 64) (h2 : 0 ≤ H ∧ H ≤ 192) (h3 : n ≤ 12) (h4 : okKs W H xs n = true) : vpk W H n xs = true := by
  unfold vpk
  rw [decide_eq_true h1, decide_eq_true h2, decide_eq_true (by omega), h4]; rfl
theorem vpk_less {W H : Int} {n m : Nat} {xs : List Int} (h : vpk W H n xs = true) (hm : m ≤ n) : vpk W H m (xs.take (m * 4)) = true := by
  obtain ⟨h1, h2, h3, h4⟩ := vpk_parts h
  refine vpk_mk h1 h2 (by omega) (okKs_all m (fun k hk => ?_))
  have a := okKs_get h4 k (by omega)
  have q := q_take (xs := xs) hk
  unfold okK at a ⊢
  rw [q.1, q.2.1, q.2.2.1, q.2.2.2, hit_take hk k (Nat.le_refl _)]
  exact a
theorem ft_more {a b c d W H W' H' : Int} (hW : W ≤ W') (hH : H ≤ H') (h : ftB a b c d W H = true) : ftB a b c d W' H' = true := by
  have := ftB_bd' h
  unfold ftB
  rw [decide_eq_true (by omega), decide_eq_true (by omega), decide_eq_true (by omega), decide_eq_true (by omega)]; rfl
theorem vpk_more {W H W' H' : Int} {n : Nat} {xs : List Int} (h : vpk W H n xs = true) (hW : W ≤ W') (hW' : W' ≤ 64) (hH : H ≤ H') (hH' : H' ≤ 192) : vpk W' H' n xs = true := by
  obtain ⟨h1, h2, h3, h4⟩ := vpk_parts h
  refine vpk_mk (by omega) (by omega) h3 (okKs_all n (fun k hk => ?_))
  have a := okKs_get h4 k hk
  unfold okK at a ⊢
  rw [Bool.and_eq_true] at a ⊢
  exact ⟨ft_more hW hH a.1, a.2⟩
theorem q_app {xs ys : List Int} {n k : Nat} (hx : xs.length = 4 * n) (h : k < n) : q0 (xs ++ ys) k = q0 xs k ∧ q1 (xs ++ ys) k = q1 xs k ∧ q2 (xs ++ ys) k = q2 xs k ∧ q3 (xs ++ ys) k = q3 xs k := by
  have g : ∀ i, i < n * 4 → (xs ++ ys).getD i 0 = xs.getD i 0 := fun i hi => by
    rw [List.getD_eq_getElem?_getD, List.getD_eq_getElem?_getD, List.getElem?_append_left (by omega)]
  exact ⟨g _ (by omega), g _ (by omega), g _ (by omega), g _ (by omega)⟩
theorem q_last {xs : List Int} {n : Nat} {a b c d : Int} (hx : xs.length = 4 * n) : q0 (xs ++ [a, b, c, d]) n = a ∧ q1 (xs ++ [a, b, c, d]) n = b ∧ q2 (xs ++ [a, b, c, d]) n = c ∧ q3 (xs ++ [a, b, c, d]) n = d := by
  have g : ∀ i, (xs ++ [a, b, c, d]).getD (n * 4 + i) 0 = [a, b, c, d].getD i 0 := fun i => by
    rw [List.getD_eq_getElem?_getD, List.getD_eq_getElem?_getD, List.getElem?_append_right (by omega), show n * 4 + i - xs.length = i by omega]
  exact ⟨g 0, g 1, g 2, g 3⟩
/-- A box can't be there twice. -/
theorem vpk_twice {W H : Int} {n : Nat} {xs : List Int} (h : vpk W H n xs = true) (hn : 0 < n) (hx : xs.length = 4 * n) : vpk W H (n + 1) (xs ++ [q0 xs 0, q1 xs 0, q2 xs 0, q3 xs 0]) = false := by
  obtain ⟨h1, h2, h3, h4⟩ := vpk_parts h
  have hf := ftB_bd' (okK_ft (okKs_get h4 0 hn))
  refine vpk_no (okKs_no (k := n) ?_ (Nat.lt_succ_self n))
  have hh : hitB (xs ++ [q0 xs 0, q1 xs 0, q2 xs 0, q3 xs 0]) n n = true := by
    refine hit_yes (j := 0) hn ?_
    have a := q_app (ys := [q0 xs 0, q1 xs 0, q2 xs 0, q3 xs 0]) hx hn
    have b := q_last (xs := xs) (n := n) (a := q0 xs 0) (b := q1 xs 0) (c := q2 xs 0) (d := q3 xs 0) hx
    rw [a.1, a.2.1, a.2.2.1, a.2.2.2, b.1, b.2.1, b.2.2.1, b.2.2.2]
    unfold comB
    rw [decide_eq_true (show q0 xs 0 < q0 xs 0 + q2 xs 0 by omega), decide_eq_true (show q1 xs 0 < q1 xs 0 + q3 xs 0 by omega)]; rfl
  unfold okK
  rw [hh]; simp
theorem wf_of {x : Int} (h : -1000 ≤ x ∧ x ≤ 1000) : (Lit.int .i64 x).wf = true := by
  simp only [Lit.wf, Bool.and_eq_true, decide_eq_true_eq]
  exact ⟨by show -9223372036854775808 ≤ x; omega, by show x ≤ 9223372036854775807; omega⟩
set_option maxHeartbeats 32000000 in
theorem walk (w : World) (a0 : Option Addr) (cap0 : Nat) (z0 : List Int) (hc0 : z0.length ≤ cap0) (w0 : Rdw .u8 w w.heap.size a0 z0) :
    Calls Try.prog 3 #[.slice a0 z0.length cap0] w fun e w' => e = .returned (.bool true) ∧ Below w.heap.size w w' := by
  have hm := w0.2.1
  unfold maxLen at hm
  by_cases hlen : 1048576 < z0.length
  · go_enter Try.func3, Try.ntmps3
    go_wp2
    go_ret
    exact ⟨rfl, Below.refl _ _⟩
  · have HD := Lib.hid (drawVpk_any a0 cap0 z0 w hc0 w0)
    clear w0 hc0
    go_enter Try.func3, Try.ntmps3
    go_wp2_with fail
    refine HD.out.mono ?_
    rintro e w1 ⟨A1, n, c1, xs, W, H, rfl, ⟨hn12, hnc, hxl⟩, hWb, hHb, hr1, hb1⟩
    have HXL := Lib.hid hxl
    have HI : Hid (∀ (V K : Int) u, Rds .i64 u u.heap.size A1 xs → Calls Try.prog 10 #[.slice A1 n c1, .int .i64 V, .int .i64 K] u fun e w' => e = .returned (.bool (vpk V K n xs)) ∧ Below u.heap.size u w') := Lib.hid (fun V K u h => i_ValidPacking A1 n c1 u.heap.size xs V K u HXL.out hnc h (Nat.le_refl _) (by omega))
    have HS : Hid (∀ u, Rds .i64 u u.heap.size A1 xs → Calls Try.prog 11 #[.slice A1 n c1, .int .i64 W, .int .i64 H] u fun e w' => e = .returned (.bool (vpk W H n xs)) ∧ Below u.heap.size u w') := Lib.hid (fun u h => s_ValidPacking A1 n c1 u.heap.size xs W H u (wf_of (by omega)) (wf_of (by omega)) HXL.out h (Nat.le_refl _) (by omega))
    have HR1 := Lib.hid hr1
    have HB1 := Lib.hid hb1
    clear hr1 hb1 hxl
    go_wp2_with fail
    refine (HI.out W H w1 HR1.out).mono ?_
    rintro e w2 ⟨rfl, hb⟩
    have HR2 := Lib.hid (rds_call HR1.out hb)
    have HB2 := Lib.hid (HB1.out.trans (hb.mono HB1.out.size))
    clear hb HR1 HB1
    cases hv : vpk W H n xs
    · rw [hv] at HS
      go_wp2_with fail
      refine (HS.out w2 HR2.out).mono ?_
      rintro e w3 ⟨rfl, hb⟩
      have HR3 := Lib.hid (rds_call HR2.out hb)
      have HB3 := Lib.hid (HB2.out.trans (hb.mono HB2.out.size))
      clear hb HR2 HB2
      go_wp2_with fail
      refine (HS.out w3 HR3.out).mono ?_
      rintro e w4 ⟨rfl, hb⟩
      have HB4 := Lib.hid (HB3.out.trans (hb.mono HB3.out.size))
      clear hb HR3 HB3
      go_wp2
      go_ret
      exact ⟨by simp, HB4.out⟩
    · rw [hv] at HS
      have HV := Lib.hid hv
      clear hv
      obtain ⟨hW1, hH1, hn1, _⟩ := vpk_parts HV.out
      go_wp2_with fail
      refine (HS.out w2 HR2.out).mono ?_
      rintro e w3 ⟨rfl, hb⟩
      have HR3 := Lib.hid (rds_call HR2.out hb)
      have HB3 := Lib.hid (HB2.out.trans (hb.mono HB2.out.size))
      clear hb HR2 HB2
      by_cases hn0 : n ≤ 1
      · have i0 : (n : Int) - 1 ≤ 0 := by omega
        have i1 : ¬ (0 : Int) < (n : Int) - 1 := by omega
        clear hn0
        have HC := Lib.hid (i_ValidPacking A1 (0) c1 w3.heap.size (xs.take ((0) * 4)) W H w3 (by have := HXL.out; rw [List.length_take]; omega) (by omega) (Rds.take HR3.out _) (Nat.le_refl _) (by omega))
        rw [vpk_less HV.out (show 0 ≤ n by omega)] at HC
        go_wp2_with fail
        refine HC.out.mono ?_
        rintro e w4 ⟨rfl, hb⟩
        have HR4 := Lib.hid (rds_call HR3.out hb)
        have HB4 := Lib.hid (HB3.out.trans (hb.mono HB3.out.size))
        clear hb HR3 HB3 HC
        by_cases h64 : W = 64
        · have hw : (W == 64) = true := by rw [h64]; rfl
          clear h64
          by_cases h192 : H = 192
          · have hh : (H == 192) = true := by rw [h192]; rfl
            clear h192
            go_wp2
            go_ret
            exact ⟨by simp, HB4.out⟩
          · have hh : (H == 192) = false := beq_eq_false_iff_ne.2 h192
            have hv4 : vpk (W) (H + 1) n xs = true := vpk_more HV.out (Int.le_refl _) hW1.2 (by omega) (by omega)
            have HC := Lib.hid (HI.out (W) (H + 1) w4 HR4.out)
            rw [hv4] at HC
            clear hv4
            go_wp2_with fail
            refine HC.out.mono ?_
            rintro e w5 ⟨rfl, hb⟩
            have HR5 := Lib.hid (rds_call HR4.out hb)
            have HB5 := Lib.hid (HB4.out.trans (hb.mono HB4.out.size))
            clear hb HR4 HB4 HC
            go_wp2
            go_ret
            exact ⟨by simp, HB5.out⟩
        · have hw : (W == 64) = false := beq_eq_false_iff_ne.2 h64
          have hv4 : vpk (W + 1) (H) n xs = true := vpk_more HV.out (by omega) (by omega) (Int.le_refl _) hH1.2
          have HC := Lib.hid (HI.out (W + 1) (H) w4 HR4.out)
          rw [hv4] at HC
          clear hv4
          go_wp2_with fail
          refine HC.out.mono ?_
          rintro e w5 ⟨rfl, hb⟩
          have HR5 := Lib.hid (rds_call HR4.out hb)
          have HB5 := Lib.hid (HB4.out.trans (hb.mono HB4.out.size))
          clear hb HR4 HB4 HC
          by_cases h192 : H = 192
          · have hh : (H == 192) = true := by rw [h192]; rfl
            clear h192
            go_wp2
            go_ret
            exact ⟨by simp, HB5.out⟩
          · have hh : (H == 192) = false := beq_eq_false_iff_ne.2 h192
            have hv5 : vpk (W) (H + 1) n xs = true := vpk_more HV.out (Int.le_refl _) hW1.2 (by omega) (by omega)
            have HC := Lib.hid (HI.out (W) (H + 1) w5 HR5.out)
            rw [hv5] at HC
            clear hv5
            go_wp2_with fail
            refine HC.out.mono ?_
            rintro e w6 ⟨rfl, hb⟩
            have HR6 := Lib.hid (rds_call HR5.out hb)
            have HB6 := Lib.hid (HB5.out.trans (hb.mono HB5.out.size))
            clear hb HR5 HB5 HC
            go_wp2
            go_ret
            exact ⟨by simp, HB6.out⟩
      · obtain ⟨m, rfl⟩ : ∃ m, n = m + 1 := ⟨n - 1, by omega⟩
        have i1 : ((m + 1 : Nat) : Int) - 1 = (m : Int) := by omega
        have i0 : (m : Int) ≤ (c1 : Int) := by omega
        have i2 : (0 : Int) < (m : Int) := by omega
        have i3 : 0 < m := by omega
        have HC := Lib.hid (i_ValidPacking A1 (m) c1 w3.heap.size (xs.take ((m) * 4)) W H w3 (by have := HXL.out; rw [List.length_take]; omega) (by omega) (Rds.take HR3.out _) (Nat.le_refl _) (by omega))
        rw [vpk_less HV.out (show m ≤ m + 1 by omega)] at HC
        go_wp2_with fail
        refine HC.out.mono ?_
        rintro e w4 ⟨rfl, hb⟩
        have HR4 := Lib.hid (rds_call HR3.out hb)
        have HB4 := Lib.hid (HB3.out.trans (hb.mono HB3.out.size))
        clear hb HR3 HB3 HC
        by_cases h64 : W = 64
        · have hw : (W == 64) = true := by rw [h64]; rfl
          clear h64
          by_cases h192 : H = 192
          · have hh : (H == 192) = true := by rw [h192]; rfl
            clear h192
            go_wp2
            go_ret
            exact ⟨by simp, HB4.out⟩
          · have hh : (H == 192) = false := beq_eq_false_iff_ne.2 h192
            have hv4 : vpk (W) (H + 1) (m + 1) xs = true := vpk_more HV.out (Int.le_refl _) hW1.2 (by omega) (by omega)
            have HC := Lib.hid (HI.out (W) (H + 1) w4 HR4.out)
            rw [hv4] at HC
            clear hv4
            go_wp2_with fail
            refine HC.out.mono ?_
            rintro e w5 ⟨rfl, hb⟩
            have HR5 := Lib.hid (rds_call HR4.out hb)
            have HB5 := Lib.hid (HB4.out.trans (hb.mono HB4.out.size))
            clear hb HR4 HB4 HC
            go_wp2
            go_ret
            exact ⟨by simp, HB5.out⟩
        · have hw : (W == 64) = false := beq_eq_false_iff_ne.2 h64
          have hv4 : vpk (W + 1) (H) (m + 1) xs = true := vpk_more HV.out (by omega) (by omega) (Int.le_refl _) hH1.2
          have HC := Lib.hid (HI.out (W + 1) (H) w4 HR4.out)
          rw [hv4] at HC
          clear hv4
          go_wp2_with fail
          refine HC.out.mono ?_
          rintro e w5 ⟨rfl, hb⟩
          have HR5 := Lib.hid (rds_call HR4.out hb)
          have HB5 := Lib.hid (HB4.out.trans (hb.mono HB4.out.size))
          clear hb HR4 HB4 HC
          by_cases h192 : H = 192
          · have hh : (H == 192) = true := by rw [h192]; rfl
            clear h192
            go_wp2
            go_ret
            exact ⟨by simp, HB5.out⟩
          · have hh : (H == 192) = false := beq_eq_false_iff_ne.2 h192
            have hv5 : vpk (W) (H + 1) (m + 1) xs = true := vpk_more HV.out (Int.le_refl _) hW1.2 (by omega) (by omega)
            have HC := Lib.hid (HI.out (W) (H + 1) w5 HR5.out)
            rw [hv5] at HC
            clear hv5
            go_wp2_with fail
            refine HC.out.mono ?_
            rintro e w6 ⟨rfl, hb⟩
            have HR6 := Lib.hid (rds_call HR5.out hb)
            have HB6 := Lib.hid (HB5.out.trans (hb.mono HB5.out.size))
            clear hb HR5 HB5 HC
            go_wp2
            go_ret
            exact ⟨by simp, HB6.out⟩

/-! ### From the walk to the statement. -/
theorem own : ownKnob Try.prog.godebug = none := by kernel_rfl
theorem laidOut : laidOutB Try.prog = true := by kernel_rfl
set_option maxRecDepth 100000 in
theorem lifted (os : Os) (started : os.Started) (H : Type) (enc : TypeId × Value → H) :
    ReturnsInHanded {} Try.checked os 3 .any (Rows.fnValidPackingSpec.pre6 enc Try.prog Try.f3 Rows.fnValidPackingRow.domain false) (Rows.fnValidPackingSpec.post enc Try.prog Try.f3 false true false false) := by
  refine returnsInHanded_of_change (C := Try.checked) own started (by kernel_rfl) Try.func3
    (ChangeSpec.witness6 (enc := enc) (C := Try.checked) false ⟨#[], #[.slice none 0 0], []⟩ 8 (by kernel_rfl) (by kernel_rfl) (by kernel_rfl) (by kernel_rfl)) ?_
  intro W base args ds gs before hval0 hW hcnd _
  have hval : ∀ (j : Nat) t v, Try.f3.params[j]? = some t → args[j]? = some v → Value.okWide Try.prog W .any base t v := hval0
  have hW' := hW
  obtain ⟨p, q, hA0, hV, rfl, hfz, hnd⟩ := hW
  have hA : DataW.TrodAll enc Try.prog W 0 (fun _ => true) true Try.f3.params.toList args.toList ds p := hA0
  rw [Try.params3] at hA hval
  obtain ⟨v0, vs0, d0, ds0, p0, q0, hargs, rfl, rfl, h0, r0⟩ := trodAll_cons hA
  obtain ⟨rfl, rfl, rfl⟩ := trodAll_nil r0
  obtain rfl : args = #[v0] := by cases args; simp_all
  obtain ⟨rfl, rfl⟩ := trodVars_none hV
  obtain ⟨a0, len0, cap0, rfl⟩ := okWide_slice Try.underlying22 (hval 0 22 v0 rfl rfl)
  have k0 := h0
  have lt0 : ∀ x ∈ p0, x.block < W.heap.size := by obtain ⟨m, hm⟩ := k0; exact DataW.trod_lt m _ _ _ hm
  obtain ⟨z0, hl0, hc0, w0⟩ : ∃ zs : List Int, len0 = zs.length ∧ zs.length ≤ cap0 ∧ Rdw .u8 W W.heap.size a0 zs := by
    obtain ⟨fuel, hf⟩ := h0
    rcases open_ints Try.underlying22 Try.underlying5 (by kernel_rfl) hf with ⟨hcs, _⟩ | ⟨x, l, c, zs, hcs, _, hl, hm, hz, _, hcell, hwz⟩
    · simp [Value.cells] at hcs
      obtain ⟨rfl, rfl, rfl⟩ := hcs
      exact ⟨[], rfl, Nat.le_refl _, Rdw.nil⟩
    · simp [Value.cells] at hcs
      obtain ⟨rfl, rfl, rfl⟩ := hcs
      exact ⟨zs.take len0, by simp at hz ⊢; omega, by simp at hz ⊢; omega, Rdw.of_row hl hm (by simpa using hz) hcell hwz⟩
  subst hl0
  clear hA0 hval0
  refine (walk W a0 cap0 z0 hc0 w0).mono fun e W' ⟨he, bel⟩ => ?_
  subst he
  exact ⟨_, rfl, _, _, _, [], _, [], hW', trodAll_mk1 (shut_bool Try.underlying4 _), (trodAll_cons_mk (Below.trod laidOut (by kernel_rfl) (of_decide_eq_true (by kernel_rfl)) k0 bel lt0) trodAll_mk0), rfl, bel.frame _, fun h => by cases h⟩

theorem over : Rows.fnValidPackingRow.holds Try.pinned (OpenSpec.ofChange Rows.fnValidPackingSpec) :=
  OpenClaim.holds_of_wide 3 Try.f3 rfl rfl rfl rfl rfl rfl rfl ⟨rfl, rfl, rfl, rfl, rfl⟩ rfl rfl rfl rfl rfl (by kernel_rfl) Try.func3 (by kernel_rfl)
    (of_decide_eq_true (by kernel_rfl)) (by unfold Func.isWrapper; first | (rw [if_pos (by decide +kernel)]; kernel_rfl) | (rw [if_neg (by decide +kernel)]; exact ⟨rfl, rfl⟩))
    (fun os started H enc _ => lifted os started H enc)

theorem proved : Rows.FnValidPackingSaid := over
end Go.Proofs.Ytgieijogopcjnaa.fnValidPacking
