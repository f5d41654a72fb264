/- Whatever the code: a drawn line is what the model tells; it has its ends, and its area is one more than the greater distance of its columns and rows, where the table of math/bits is what the program lays. -/
import Derived.Test.YtbjgjjhfnaiocaaDoorRows
import Derived.WalkKit
import Derived.ProofKit
import Derived.OpenShut
import Derived.ShutString
import Derived.ChangeOld
import Derived.Below
import Derived.Test.YtbjgjjhfnaiocaaDoorSftL
import Derived.Test.YtbjgjjhfnaiocaaDoorDrawLin
import Derived.Test.YtbjgjjhfnaiocaaDoorBoxL
import Derived.Test.YtbjgjjhfnaiocaaDoorBnd
import Derived.Test.YtbjgjjhfnaiocaaDoorHas
import Derived.Test.YtbjgjjhfnaiocaaDoorReg3
import Derived.Deep.RegionHeld3
import Derived.Test.YtbjgjjhfnaiocaaDoorDoor
import Derived.Test.YtbjgjjhfnaiocaaDoorTie
import Derived.Test.YtbjgjjhfnaiocaaDoorCards
import Derived.SevenTiedAt
import Derived.LaidMore
namespace Go.Proofs.YtbjgjjhfnaiocaaDoor.fnLineRegion
open Go.ChangeShapes Go.WideShapes Go.ChangeAt Go.RowKit
open Go.ChangeMaps (open_string shut_string)
set_option linter.unusedVariables false

theorem cnd_len (ok : Bool) (G : Nat → Nat → Bool) : (cond ok (rnL G) []).length = 3 * (cond ok (rnN G) 0) ∧ cond ok (rnN G) 0 ≤ 300 := by
  have := rnL_len G
  cases ok
  · exact ⟨rfl, Nat.zero_le _⟩
  · exact ⟨this.1, by show rnN G ≤ 300; omega⟩
theorem ln_gr {p q r s : Int} (h : lnOk p q r s = true) : grB p q ∧ grB r s := by
  unfold lnOk at h
  rw [Bool.and_eq_true] at h
  exact ⟨ong_gr h.1, ong_gr h.2⟩
theorem ln_ok {p q r s : Int} (h0 : grB p q) (h1 : grB r s) : lnOk p q r s = true := by
  unfold lnOk ongB
  rw [decide_eq_true h0.1, decide_eq_true h0.2, decide_eq_true h1.1, decide_eq_true h1.2]; rfl
set_option maxHeartbeats 32000000 in
theorem walk (w : World) (a0 : Option Addr) (cap0 : Nat) (z0 : List Int) (hc0 : z0.length ≤ cap0) (w0 : Rdw .u8 w w.heap.size a0 z0) (hT : Tab w) :
    Calls Tryd.prog 4 #[.slice a0 z0.length cap0] w fun e w' => e = .returned (.bool true) ∧ Below w.heap.size w w' := by
  have hm := w0.2.1
  unfold maxLen at hm
  have HTab := Lib.hid hT
  clear hT
  by_cases hlen : 1048576 < z0.length
  · go_enter Tryd.func4, Tryd.ntmps4
    go_wp2
    go_ret
    exact ⟨rfl, Below.refl _ _⟩
  · have HD := Lib.hid (drawLin_any a0 cap0 z0 w hc0 w0)
    clear w0 hc0
    go_enter Tryd.func4, Tryd.ntmps4
    go_wp2_with fail
    refine HD.out.mono ?_
    rintro e w1 ⟨p, q, r, s, rfl, ⟨hp, hq, hr, hs⟩, hb⟩
    have HT1 : Hid (RA w [] w1) := Lib.hid ⟨fun p hp => absurd hp List.not_mem_nil, hb⟩
    clear hb
    go_wp2_with fail
    refine (i_LineRegion p q r s w1 (HTab.out.below HT1.out.2)).mono ?_
    rintro e w10 ⟨v, rfl, hO, hb⟩
    obtain ⟨N10, hN10⟩ : ∃ N, N = (cond (lnOk p q r s) (rnN (lnG p q r s)) 0) := ⟨_, rfl⟩
    obtain ⟨L10, hL10⟩ : ∃ L, L = (cond (lnOk p q r s) (rnL (lnG p q r s)) []) := ⟨_, rfl⟩
    rw [← hN10, ← hL10] at hO
    have hx10 : L10.length = 3 * N10 ∧ N10 ≤ 300 := by rw [hN10, hL10]; exact cnd_len _ _
    obtain ⟨A10, c10, rfl, hc10⟩ := hO.slice
    have HT10 := Lib.hid ((HT1.out.call hb).add hO.rds)
    have HN10 := Lib.hid hN10
    have HL10 := Lib.hid hL10
    have HX10 := Lib.hid hx10.1
    have hn10 := hx10.2
    clear hO hb HT1 hN10 hL10 hx10
    go_wp2_with fail
    refine (s_LineRegion p q r s w10).mono ?_
    rintro e w11 ⟨v, rfl, hO, hb⟩
    obtain ⟨N11, hN11⟩ : ∃ N, N = (cond (lnOk p q r s) (rnN (lnG p q r s)) 0) := ⟨_, rfl⟩
    obtain ⟨L11, hL11⟩ : ∃ L, L = (cond (lnOk p q r s) (rnL (lnG p q r s)) []) := ⟨_, rfl⟩
    rw [← hN11, ← hL11] at hO
    have hx11 : L11.length = 3 * N11 ∧ N11 ≤ 300 := by rw [hN11, hL11]; exact cnd_len _ _
    obtain ⟨A11, c11, rfl, hc11⟩ := hO.slice
    have HT11 := Lib.hid ((HT10.out.call hb).add hO.rds)
    have HN11 := Lib.hid hN11
    have HL11 := Lib.hid hL11
    have HX11 := Lib.hid hx11.1
    have hn11 := hx11.2
    clear hO hb HT10 hN11 hL11 hx11
    have hE : L11 = L10 ∧ N11 = N10 := ⟨by rw [HL11.out, HL10.out], by rw [HN11.out, HN10.out]⟩
    have hE1 := hE.1.symm
    have hE2 := hE.2.symm
    clear hE
    clear HL11 HN11 HX11
    subst hE1
    subst hE2
    cases hok : lnOk p q r s
    · go_wp2_with fail
      refine (equalRuns_same A10 A11 N10 c10 c11 L10 w11.heap.size w11.heap.size w11 HX10.out (HT11.out.at 1 rfl) (HT11.out.at 0 rfl) (by omega)).mono ?_
      rintro e w12 ⟨rfl, m12, rfl⟩
      have HT12 := Lib.hid (HT11.out.drewN m12)
      clear HT11
      generalize (w11.drewN m12) = w12 at *
      have hz0 : N10 = 0 := by rw [HN10.out, hok]; rfl
      subst hz0
      go_wp2_with fail
      refine (s_LineRegion p q r s w12).mono ?_
      rintro e w13 ⟨v, rfl, hO, hb⟩
      obtain ⟨N13, hN13⟩ : ∃ N, N = (cond (lnOk p q r s) (rnN (lnG p q r s)) 0) := ⟨_, rfl⟩
      obtain ⟨L13, hL13⟩ : ∃ L, L = (cond (lnOk p q r s) (rnL (lnG p q r s)) []) := ⟨_, rfl⟩
      rw [← hN13, ← hL13] at hO
      have hx13 : L13.length = 3 * N13 ∧ N13 ≤ 300 := by rw [hN13, hL13]; exact cnd_len _ _
      obtain ⟨A13, c13, rfl, hc13⟩ := hO.slice
      have HT13 := Lib.hid ((HT12.out.call hb).add hO.rds)
      have HN13 := Lib.hid hN13
      have HL13 := Lib.hid hL13
      have HX13 := Lib.hid hx13.1
      have hn13 := hx13.2
      clear hO hb HT12 hN13 hL13 hx13
      have hE : L13 = L10 ∧ N13 = 0 := ⟨HL13.out.trans HL10.out.symm, HN13.out.trans HN10.out.symm⟩
      have hE1 := hE.1.symm
      have hE2 := hE.2.symm
      clear hE
      clear HL13 HN13 HX13
      subst hE1
      subst hE2
      go_wp2_with fail
      refine (equalRuns_same A10 A13 0 c10 c13 L10 w13.heap.size w13.heap.size w13 HX10.out (HT13.out.at 2 rfl) (HT13.out.at 0 rfl) (by omega)).mono ?_
      rintro e w14 ⟨rfl, m14, rfl⟩
      have HT14 := Lib.hid (HT13.out.drewN m14)
      clear HT13
      generalize (w13.drewN m14) = w14 at *
      go_wp2
      go_ret
      exact ⟨rfl, HT14.out.2⟩
    · obtain ⟨h0, h1⟩ := ln_gr hok
      have H0 := Lib.hid h0
      have H1 := Lib.hid h1
      have e1 : N10 = rnN (lnG p q r s) := by rw [HN10.out, hok]; rfl
      have e2 : L10 = rnL (lnG p q r s) := by rw [HL10.out, hok]; rfl
      have hpos : 0 < N10 := by rw [e1]; exact ln_pos h0 h1
      have E1 := Lib.hid e1
      have E2 := Lib.hid e2
      have hne : ((N10 : Int) == 0) = false := beq_eq_false_iff_ne.2 (by omega)
      clear HN10 HL10 e1 e2 hok h0 h1
      go_wp2_with fail
      refine (equalRuns_same A10 A11 N10 c10 c11 L10 w11.heap.size w11.heap.size w11 HX10.out (HT11.out.at 1 rfl) (HT11.out.at 0 rfl) (by omega)).mono ?_
      rintro e w12 ⟨rfl, m12, rfl⟩
      have HT12 := Lib.hid (HT11.out.drewN m12)
      clear HT11
      generalize (w11.drewN m12) = w12 at *
      obtain ⟨dx, hdx⟩ : ∃ d, d = (r - p).natAbs := ⟨_, rfl⟩
      obtain ⟨dy, hdy⟩ : ∃ d, d = (s - q).natAbs := ⟨_, rfl⟩
      have hd15 : dx ≤ 100 ∧ dy ≤ 100 := by omega
      have HDX : Hid (∀ w : World, Calls Tryd.prog 17 #[.int .i64 (r - p)] w fun e w' => e = .returned (.int .i64 ((dx : Nat) : Int)) ∧ w = w') := Lib.hid (fun w => by rw [hdx]; exact l_abs (r - p) w (by omega) (by omega))
      have HDY : Hid (∀ w : World, Calls Tryd.prog 17 #[.int .i64 (s - q)] w fun e w' => e = .returned (.int .i64 ((dy : Nat) : Int)) ∧ w = w') := Lib.hid (fun w => by rw [hdy]; exact l_abs (s - q) w (by omega) (by omega))
      obtain ⟨n, hn⟩ : ∃ n : Int, n = areaV L10 N10 := ⟨_, rfl⟩
      have hmx : n = ((max dx dy : Nat) : Int) + 1 := by rw [hn, E1.out, E2.out, ln_area H0.out H1.out, hdx, hdy]; rfl
      have HAr := Lib.hid hn
      have HH : Hid (rhas L10 N10 p q = true ∧ rhas L10 N10 r s = true) := Lib.hid (by rw [E1.out, E2.out]; exact ln_has H0.out H1.out)
      have HMx := Lib.hid hmx
      clear hdx hdy hn E1 E2 hmx
      go_wp2_with fail
      refine (i_RegionHas A10 N10 c10 w12.heap.size L10 p q w12 HX10.out (HT12.out.at 1 rfl) (Nat.le_refl _) (by omega)).mono ?_
      rintro e w13 ⟨rfl, hb⟩
      rw [HH.out.1]
      have HT13 := Lib.hid (HT12.out.call hb)
      clear hb HT12
      go_wp2_with fail
      refine (i_RegionHas A10 N10 c10 w13.heap.size L10 r s w13 HX10.out (HT13.out.at 1 rfl) (Nat.le_refl _) (by omega)).mono ?_
      rintro e w14 ⟨rfl, hb⟩
      rw [HH.out.2]
      have HT14 := Lib.hid (HT13.out.call hb)
      clear hb HT13
      go_wp2_with fail
      refine (i_AreaOf A10 N10 c10 w14.heap.size L10 w14 HX10.out (HT14.out.at 1 rfl) (Nat.le_refl _) (by omega)).mono ?_
      rintro e w15 ⟨rfl, hb⟩
      rw [← HAr.out]
      have HT15 := Lib.hid (HT14.out.call hb)
      clear hb HT14
      go_wp2_with fail
      refine (HDX.out w15).mono ?_
      rintro e w' ⟨rfl, rfl⟩
      go_wp2_with fail
      refine (HDY.out w15).mono ?_
      rintro e w' ⟨rfl, rfl⟩
      by_cases hcmp : (dx : Int) < (dy : Int)
      · have e : n = (dy : Int) + 1 := by have := HMx.out; omega
        clear HMx
        subst e
        go_wp2
        go_ret
        exact ⟨rfl, HT15.out.2⟩
      · have e : n = (dx : Int) + 1 := by have := HMx.out; omega
        clear HMx
        subst e
        go_wp2
        go_ret
        exact ⟨rfl, HT15.out.2⟩

/-! ### From the walk to the statement. -/
theorem own : ownKnob Tryd.prog.godebug = none := by kernel_rfl
theorem laidOut : laidOutB Tryd.prog = true := by kernel_rfl
set_option maxRecDepth 100000 in
theorem lifted (os : Os) (started : os.Started) (H : Type) (enc : TypeId × Value → H) :
    ReturnsInHanded {} Tryd.checked os 4 .any (fun w args => (Rows.fnLineRegionSpec.pre enc Tryd.prog Tryd.f4 [] false w args ∧ laidMetH Tryd.prog laidTab w) ∧ sizedMet enc Tryd.prog Tryd.f4 (OpenSpec.ofChange Rows.fnLineRegionSpec) false w args) (Rows.fnLineRegionSpec.post enc Tryd.prog Tryd.f4 false true false false) := by
  refine returnsInHanded_of_change_and (C := Tryd.checked) (X := fun w _ => laidMetH Tryd.prog laidTab w) (fun _ _ _ hh h => h.of_heap hh) own started (by kernel_rfl) Tryd.func4
    (ChangeSpec.witness_shaped (enc := enc) (C := Tryd.checked) (os := os) (X := fun w _ => laidMetH Tryd.prog laidTab w) false (World.doorLaid Tryd.prog doorSteps os) #[.slice none 0 0] 8 rfl (World.shaped_of_RefB (by kernel_rfl) (by kernel_rfl)) (by kernel_rfl) (by kernel_rfl) (by kernel_rfl) (door_met os _)) ?_
  intro W base args ds gs before hval0 hW _ _ hL _
  have hval : ∀ (j : Nat) t v, Tryd.f4.params[j]? = some t → args[j]? = some v → Value.okWide Tryd.prog W .any base t v := hval0
  have hW' := hW
  obtain ⟨p, q, hA0, hV, rfl, hfz, hnd⟩ := hW
  have hA : DataW.TrodAll enc Tryd.prog W 0 (fun _ => true) true Tryd.f4.params.toList args.toList ds p := hA0
  rw [Tryd.params4] at hA hval
  obtain ⟨v0, vs0, d0, ds0, p0, q0, hargs, rfl, rfl, h0, r0⟩ := trodAll_cons hA
  obtain ⟨rfl, rfl, rfl⟩ := trodAll_nil r0
  obtain rfl : args = #[v0] := by cases args; simp_all
  obtain ⟨rfl, rfl⟩ := trodVars_none hV
  obtain ⟨a0, len0, cap0, rfl⟩ := okWide_slice Tryd.underlying27 (hval 0 27 v0 rfl rfl)
  have k0 := h0
  have lt0 : ∀ x ∈ p0, x.block < W.heap.size := by obtain ⟨m, hm⟩ := k0; exact DataW.trod_lt m _ _ _ hm
  obtain ⟨z0, hl0, hc0, w0⟩ : ∃ zs : List Int, len0 = zs.length ∧ zs.length ≤ cap0 ∧ Rdw .u8 W W.heap.size a0 zs := by
    obtain ⟨fuel, hf⟩ := h0
    rcases open_ints Tryd.underlying27 Tryd.underlying5 (by kernel_rfl) hf with ⟨hcs, _⟩ | ⟨x, l, c, zs, hcs, _, hl, hm, hz, _, hcell, hwz⟩
    · simp [Value.cells] at hcs
      obtain ⟨rfl, rfl, rfl⟩ := hcs
      exact ⟨[], rfl, Nat.le_refl _, Rdw.nil⟩
    · simp [Value.cells] at hcs
      obtain ⟨rfl, rfl, rfl⟩ := hcs
      exact ⟨zs.take len0, by simp at hz ⊢; omega, by simp at hz ⊢; omega, Rdw.of_row hl hm (by simpa using hz) hcell hwz⟩
  subst hl0
  clear hA0 hval0
  refine (walk W a0 cap0 z0 hc0 w0 (tab_of hL)).mono fun e W' ⟨he, bel⟩ => ?_
  subst he
  exact ⟨_, rfl, _, _, _, [], _, [], hW', trodAll_mk1 (shut_bool Tryd.underlying4 _), (trodAll_cons_mk (Below.trod laidOut (by kernel_rfl) (of_decide_eq_true (by kernel_rfl)) k0 bel lt0) trodAll_mk0), rfl, bel.frame _, fun h => by cases h⟩

theorem over : Rows.fnLineRegionRow.holds Tryd.pinned (OpenSpec.ofChange Rows.fnLineRegionSpec) :=
  OpenClaim.holds_of_wide 4 Tryd.f4 rfl rfl rfl rfl rfl rfl rfl ⟨rfl, rfl, rfl, rfl, rfl⟩ rfl rfl rfl rfl rfl (by kernel_rfl) Tryd.func4 (by kernel_rfl)
    (of_decide_eq_true (by kernel_rfl)) (by unfold Func.isWrapper; first | (rw [if_pos (by decide +kernel)]; kernel_rfl) | (rw [if_neg (by decide +kernel)]; exact ⟨rfl, rfl⟩))
    (fun os started H enc _ => lifted os started H enc)

theorem proved : Rows.FnLineRegionCardSaid :=
  Claim7.holds_tied_plain_at .later [] [.data] true _ _
    over (fun _ h => by cases h) (by kernel_rfl) (fun _ h => by cases h) fnLineRegion_row_tie rfl ⟨rfl, rfl⟩ (by kernel_rfl) rfl
    (fun f fn hf hfn => by
      obtain rfl : f = 4 := Option.some.inj ((show Tryd.prog.funcNamed "loop.example/pixelworks/laws.FnLineRegion" = some 4 by kernel_rfl).symm.trans hf) |>.symm
      obtain rfl : fn = Tryd.f4 := (Option.some.inj (Tryd.func4.symm.trans hfn)).symm
      exact ⟨by kernel_rfl, fun j t ht => by
        rw [Tryd.params4] at ht
        have hm : t ∈ [27] := by simpa using Array.mem_of_getElem? ht
        have hall : ([27].all fun u => !Tryd.prog.wantsStandIn u) = true := by kernel_rfl
        exact (show Tryd.prog.wantsStandIn t = false by simpa using List.all_eq_true.1 hall t hm)⟩)
    (by kernel_rfl)
end Go.Proofs.YtbjgjjhfnaiocaaDoor.fnLineRegion
