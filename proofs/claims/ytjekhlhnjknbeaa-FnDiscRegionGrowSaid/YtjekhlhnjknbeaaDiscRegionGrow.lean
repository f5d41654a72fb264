/- Whatever the code: the disc of drawn numbers is what the model tells; it has the pixels up to its radius to the right and downwards, and none beyond it. -/
import Derived.Test.YtjekhlhnjknbeaaRows
import Derived.WalkKit
import Derived.ProofKit
import Derived.OpenShut
import Derived.ShutString
import Derived.ChangeOld
import Derived.Below
import Derived.Test.YtjekhlhnjknbeaaAreM
import Derived.Test.YtjekhlhnjknbeaaBoxL
import Derived.Test.YtjekhlhnjknbeaaHas
import Derived.Test.YtjekhlhnjknbeaaDrawReg
import Derived.Deep.RegionHeld3
namespace Go.Proofs.Ytjekhlhnjknbeaa.fnDiscRegionGrow
open Go.ChangeShapes Go.WideShapes Go.ChangeAt Go.RowKit
open Go.ChangeMaps (open_string shut_string)
set_option linter.unusedVariables false

set_option maxHeartbeats 16000000 in
theorem walk (w : World) (a0 : Option Addr) (cap0 : Nat) (z0 : List Int) (hc0 : z0.length ≤ cap0) (w0 : Rdw .u8 w w.heap.size a0 z0) :
    Calls Try.prog 13 #[.slice a0 z0.length cap0] w fun e w' => e = .returned (.bool true) ∧ Below w.heap.size w w' := by
  have hm := w0.2.1
  unfold maxLen at hm
  by_cases hlen : 1048576 < z0.length
  · go_enter Try.func13, Try.ntmps13
    go_wp2
    go_ret
    exact ⟨rfl, Below.refl _ _⟩
  · have HD := Lib.hid (drawDisc_any a0 cap0 z0 w hc0 w0)
    clear w0 hc0
    go_enter Try.func13, Try.ntmps13
    go_wp2_with fail
    refine HD.out.mono ?_
    rintro e w1 ⟨x, y, r, rfl, ⟨x0, x1⟩, ⟨y0, y1⟩, ⟨r0, r1⟩, hb1⟩
    have HB1 := Lib.hid hb1
    clear hb1
    have HI : Hid (∀ W : World, Calls Try.prog 24 #[.int .i64 x, .int .i64 y, .int .i64 r] W (RunsIf (dscOk x y r) (dscG x y r) W)) := Lib.hid (fun W => i_DiscRegion x y r W)
    have HS : Hid (∀ W : World, Calls Try.prog 23 #[.int .i64 x, .int .i64 y, .int .i64 r] W (RunsIf (dscOk x y r) (dscG x y r) W)) := Lib.hid (fun W => s_DiscRegion x y r W)
    obtain ⟨N, L, hN, hL, HLen, HI2, HS2⟩ : ∃ (N : Nat) (L : List Int), N = cond (dscOk x y r) (rnN (dscG x y r)) 0 ∧ L = cond (dscOk x y r) (rnL (dscG x y r)) [] ∧ Hid (L.length = 3 * N ∧ N ≤ 300) ∧ Hid (∀ W : World, Calls Try.prog 24 #[.int .i64 x, .int .i64 y, .int .i64 r] W fun e w' => ∃ v, e = .returned v ∧ OwnT 75 3 w' W.heap.size v N L ∧ Below W.heap.size W w') ∧ Hid (∀ W : World, Calls Try.prog 23 #[.int .i64 x, .int .i64 y, .int .i64 r] W fun e w' => ∃ v, e = .returned v ∧ OwnT 75 3 w' W.heap.size v N L ∧ Below W.heap.size W w') :=
      ⟨_, _, rfl, rfl, Lib.hid (by have := rnL_len (dscG x y r); cases dscOk x y r <;> simp <;> omega), Lib.hid (fun W => HI.out W), Lib.hid (fun W => HS.out W)⟩
    have hN300 := HLen.out.2
    have HN := Lib.hid hN
    have HL := Lib.hid hL
    clear HI HS hN hL
    go_wp2_with fail
    refine (HI2.out w1).mono ?_
    rintro e w2 ⟨v2, rfl, hO2, hb2⟩
    obtain ⟨A2, c2, rfl, hc2⟩ := hO2.slice
    have HO2 := Lib.hid hO2
    have HB2 := Lib.hid (HB1.out.trans (hb2.mono HB1.out.size))
    clear hb2 HB1 hO2
    go_wp2_with fail
    refine (HS2.out w2).mono ?_
    rintro e w3 ⟨v3, rfl, hO3, hb3⟩
    obtain ⟨A3, c3, rfl, hc3⟩ := hO3.slice
    have HR3 := Lib.hid hO3.rds
    have HO23 := Lib.hid (HO2.out.below hb3 (Nat.le_refl _))
    have HB3 := Lib.hid (HB2.out.trans (hb3.mono HB2.out.size))
    clear hb3 HB2 hO3 HO2
    go_wp2_with fail
    refine (equalRuns_same A2 A3 N c2 c3 L w3.heap.size w3.heap.size w3 HLen.out.1 HO23.out.rds HR3.out (by omega)).mono ?_
    rintro e w4 ⟨rfl, m4, rfl⟩
    by_cases hN0 : N = 0
    · subst hN0
      have HO4 := Lib.hid (show OwnT 75 3 (w3.drewN m4) _ _ 0 L from HO23.out)
      have HB4 : Hid (Below w.heap.size w (w3.drewN m4)) := Lib.hid (bel_dn HB3.out m4)
      clear HO23 HB3 HR3
      generalize w3.drewN m4 = w5 at *
      go_wp2_with fail
      refine (HS2.out w5).mono ?_
      rintro e w6 ⟨v6, rfl, hO6, hb6⟩
      obtain ⟨A6, c6, rfl, hc6⟩ := hO6.slice
      have HR6 := Lib.hid hO6.rds
      have HO46 := Lib.hid (HO4.out.below hb6 (by first | exact Nat.le_refl _ | simp))
      have HB6 := Lib.hid (HB4.out.trans (hb6.mono HB4.out.size))
      clear hb6 HB4 hO6 HO4
      go_wp2_with fail
      refine (equalRuns_same A2 A6 0 c2 c6 L w6.heap.size w6.heap.size w6 HLen.out.1 HO46.out.rds HR6.out (by omega)).mono ?_
      rintro e w7 ⟨rfl, m7, rfl⟩
      have HB7 : Hid (Below w.heap.size w (w6.drewN m7)) := Lib.hid (bel_dn HB6.out m7)
      clear HB6
      go_wp2
      go_ret
      exact ⟨rfl, HB7.out⟩
    · have hNI : ((N : Int) == 0) = false := beq_eq_false_iff_ne.2 (by omega)
      have hok : dscOk x y r = true := by
        cases h : dscOk x y r
        · exfalso; apply hN0; rw [HN.out, h]; rfl
        · rfl
      have hLe : L = rnL (dscG x y r) := by rw [HL.out, hok]; rfl
      have hNe : N = rnN (dscG x y r) := by rw [HN.out, hok]; rfl
      have hb : (0 ≤ x ∧ x ≤ 15) ∧ (0 ≤ y ∧ y ≤ 15) ∧ 0 ≤ r ∧ r ≤ 16 := by
        unfold dscOk ongB at hok
        simp only [Bool.and_eq_true, decide_eq_true_eq] at hok
        exact ⟨hok.1.1, hok.1.2, hok.2⟩
      obtain ⟨⟨x0, x1⟩, ⟨y0, y1⟩, r0, r1⟩ := hb
      obtain ⟨rr0, rr1⟩ := mul_bd16 (c := r) (k := 16) (by omega) (by omega)
      have HH : Hid (∀ (a b : Int) (W : World), Rds .i64 W W.heap.size A2 L → Calls Try.prog 34 #[.slice A2 N c2, .int .i64 a, .int .i64 b] W fun e w' => e = .returned (.bool (rhas L N a b)) ∧ Below W.heap.size W w') := Lib.hid (fun a b W hW => i_RegionHas A2 N c2 W.heap.size L a b W HLen.out.1 hW (Nat.le_refl _) (by omega))
      have hsq : ∀ d : Int, 0 ≤ d → d ≤ r → d * d ≤ r * r := fun d h1 h2 => Int.le_trans (Int.mul_le_mul_of_nonneg_left h2 h1) (Int.mul_le_mul_of_nonneg_right h2 r0)
      have hsq2 : r * r < (r + 1) * (r + 1) := by rw [Int.add_mul, Int.mul_add, Int.one_mul, Int.mul_one]; omega
      have HQ1 : Hid (∀ d : Nat, (d : Int) ≤ r → x + (d : Int) < 16 → rhas L N (x + (d : Int)) y = true) := Lib.hid (fun d hd hx => by
        rw [hLe, hNe, rhas_rnL, decide_eq_true (show 0 ≤ x + (d : Int) ∧ x + (d : Int) ≤ 15 by omega), decide_eq_true (show 0 ≤ y ∧ y ≤ 15 by omega)]
        have := hsq d (by omega) hd
        unfold dscG
        rw [show ((y.toNat : Nat) : Int) - y = 0 by omega, show (((x + (d : Int)).toNat : Nat) : Int) - x = (d : Int) by omega]
        simp; omega)
      have HQ2 : Hid (∀ d : Nat, (d : Int) ≤ r → y + (d : Int) < 16 → rhas L N x (y + (d : Int)) = true) := Lib.hid (fun d hd hx => by
        rw [hLe, hNe, rhas_rnL, decide_eq_true (show 0 ≤ y + (d : Int) ∧ y + (d : Int) ≤ 15 by omega), decide_eq_true (show 0 ≤ x ∧ x ≤ 15 by omega)]
        have := hsq d (by omega) hd
        unfold dscG
        rw [show ((x.toNat : Nat) : Int) - x = 0 by omega, show (((y + (d : Int)).toNat : Nat) : Int) - y = (d : Int) by omega]
        simp; omega)
      have hq3 : rhas L N (x + r + 1) y = false := by
        rw [hLe, hNe, rhas_rnL]
        by_cases h : 0 ≤ x + r + 1 ∧ x + r + 1 ≤ 15
        · rw [decide_eq_true h, decide_eq_true (show 0 ≤ y ∧ y ≤ 15 by omega)]
          unfold dscG
          rw [show ((y.toNat : Nat) : Int) - y = 0 by omega, show (((x + r + 1).toNat : Nat) : Int) - x = r + 1 by omega]
          simp; omega
        · rw [decide_eq_false h]; rfl
      have hq4 : rhas L N x (y - r - 1) = false := by
        rw [hLe, hNe, rhas_rnL]
        by_cases h : 0 ≤ y - r - 1 ∧ y - r - 1 ≤ 15
        · rw [decide_eq_true h, decide_eq_true (show 0 ≤ x ∧ x ≤ 15 by omega)]
          unfold dscG
          rw [show ((x.toNat : Nat) : Int) - x = 0 by omega, show (((y - r - 1).toNat : Nat) : Int) - y = -(r + 1) by omega]
          rw [Int.neg_mul_neg]
          simp; omega
        · rw [decide_eq_false h]; simp
      have HO4 := Lib.hid (show Rds .i64 (w3.drewN m4) (w3.drewN m4).heap.size A2 L from HO23.out.rds)
      have HB4 : Hid (Below w.heap.size w (w3.drewN m4)) := Lib.hid (bel_dn HB3.out m4)
      have HQ3 := Lib.hid hq3
      have HQ4 := Lib.hid hq4
      clear HO23 HB3 HR3 hq3 hq4 hsq hsq2 hLe hNe hok HI2 HS2 HN HL
      generalize w3.drewN m4 = w5 at *
      go_wp2
      go_loopw [7] (fun i wr => ∃ d : Nat, (d : Int) ≤ r + 1 ∧ i = .int .i64 d ∧ Hid (Rds .i64 wr wr.heap.size A2 L ∧ Below w.heap.size w wr)) (fun i _ => (r + 1 - intOf i).toNat)
      case atStart => exact ⟨0, by omega, rfl, Lib.hid ⟨HO4.out, HB4.out⟩⟩
      case round =>
        clear HO4 HB4
        obtain ⟨d, hd, rfl, hI⟩ := hrel
        have HR := Lib.hid hI.out.1
        have HB := Lib.hid hI.out.2
        clear hI
        by_cases hlt : (d : Int) ≤ r
        · cases hc1 : decide (x + (d : Int) < 16) <;> cases hc2 : decide (y + (d : Int) < 16)
          · have g1 : ¬ x + (d : Int) < 16 := of_decide_eq_false hc1
            have g2 : ¬ y + (d : Int) < 16 := of_decide_eq_false hc2
            clear hc1 hc2
            go_wp2
            go_roundw
            case rel => exact ⟨d + 1, by omega, by go_num, Lib.hid ⟨HR.out, HB.out⟩⟩
            case measure => simp [intOf]; omega
          · have g1 : ¬ x + (d : Int) < 16 := of_decide_eq_false hc1
            have g2 :  y + (d : Int) < 16 := of_decide_eq_true hc2
            clear hc1 hc2
            go_wp2_with fail
            refine (HH.out (x) (y + (d : Int)) wr HR.out).mono ?_
            rintro e w5 ⟨rfl, hb5⟩
            rw [HQ2.out d (by omega) g2]
            have HR5 := Lib.hid ((HR.out.below hb5).more hb5.size)
            have HB5 := Lib.hid (HB.out.trans (hb5.mono HB.out.size))
            clear hb5 HR HB
            go_wp2
            go_roundw
            case rel => exact ⟨d + 1, by omega, by go_num, Lib.hid ⟨HR5.out, HB5.out⟩⟩
            case measure => simp [intOf]; omega
          · have g1 :  x + (d : Int) < 16 := of_decide_eq_true hc1
            have g2 : ¬ y + (d : Int) < 16 := of_decide_eq_false hc2
            clear hc1 hc2
            go_wp2_with fail
            refine (HH.out (x + (d : Int)) (y) wr HR.out).mono ?_
            rintro e w5 ⟨rfl, hb5⟩
            rw [HQ1.out d (by omega) g1]
            have HR5 := Lib.hid ((HR.out.below hb5).more hb5.size)
            have HB5 := Lib.hid (HB.out.trans (hb5.mono HB.out.size))
            clear hb5 HR HB
            go_wp2
            go_roundw
            case rel => exact ⟨d + 1, by omega, by go_num, Lib.hid ⟨HR5.out, HB5.out⟩⟩
            case measure => simp [intOf]; omega
          · have g1 :  x + (d : Int) < 16 := of_decide_eq_true hc1
            have g2 :  y + (d : Int) < 16 := of_decide_eq_true hc2
            clear hc1 hc2
            go_wp2_with fail
            refine (HH.out (x + (d : Int)) (y) wr HR.out).mono ?_
            rintro e w5 ⟨rfl, hb5⟩
            rw [HQ1.out d (by omega) g1]
            have HR5 := Lib.hid ((HR.out.below hb5).more hb5.size)
            have HB5 := Lib.hid (HB.out.trans (hb5.mono HB.out.size))
            clear hb5 HR HB
            go_wp2_with fail
            refine (HH.out (x) (y + (d : Int)) w5 HR5.out).mono ?_
            rintro e w6 ⟨rfl, hb6⟩
            rw [HQ2.out d (by omega) g2]
            have HR6 := Lib.hid ((HR5.out.below hb6).more hb6.size)
            have HB6 := Lib.hid (HB5.out.trans (hb6.mono HB5.out.size))
            clear hb6 HR5 HB5
            go_wp2
            go_roundw
            case rel => exact ⟨d + 1, by omega, by go_num, Lib.hid ⟨HR6.out, HB6.out⟩⟩
            case measure => simp [intOf]; omega
        · go_wp2_with fail
          refine (HH.out (x + r + 1) y wr HR.out).mono ?_
          rintro e w5 ⟨rfl, hb5⟩
          rw [HQ3.out]
          have HR5 := Lib.hid ((HR.out.below hb5).more hb5.size)
          have HB5 := Lib.hid (HB.out.trans (hb5.mono HB.out.size))
          clear hb5 HR HB
          go_wp2_with fail
          refine (HH.out x (y - r - 1) w5 HR5.out).mono ?_
          rintro e w6 ⟨rfl, hb6⟩
          rw [HQ4.out]
          have HB6 := Lib.hid (HB5.out.trans (hb6.mono HB5.out.size))
          clear hb6 HR5 HB5
          go_wp2
          go_ret
          exact ⟨rfl, HB6.out⟩

/-! ### From the walk to the statement. -/
theorem own : ownKnob Try.prog.godebug = none := by kernel_rfl
theorem laidOut : laidOutB Try.prog = true := by kernel_rfl
set_option maxRecDepth 100000 in
theorem lifted (os : Os) (started : os.Started) (H : Type) (enc : TypeId × Value → H) :
    ReturnsInHanded {} Try.checked os 13 .any (Rows.fnDiscRegionGrowSpec.pre6 enc Try.prog Try.f13 Rows.fnDiscRegionGrowRow.domain false) (Rows.fnDiscRegionGrowSpec.post enc Try.prog Try.f13 false true false false) := by
  refine returnsInHanded_of_change (C := Try.checked) own started (by kernel_rfl) Try.func13
    (ChangeSpec.witness6 (enc := enc) (C := Try.checked) false ⟨#[], #[.slice none 0 0], []⟩ 8 (by kernel_rfl) (by kernel_rfl) (by kernel_rfl) (by kernel_rfl)) ?_
  intro W base args ds gs before hval0 hW hcnd _
  have hval : ∀ (j : Nat) t v, Try.f13.params[j]? = some t → args[j]? = some v → Value.okWide Try.prog W .any base t v := hval0
  have hW' := hW
  obtain ⟨p, q, hA0, hV, rfl, hfz, hnd⟩ := hW
  have hA : DataW.TrodAll enc Try.prog W 0 (fun _ => true) true Try.f13.params.toList args.toList ds p := hA0
  rw [Try.params13] at hA hval
  obtain ⟨v0, vs0, d0, ds0, p0, q0, hargs, rfl, rfl, h0, r0⟩ := trodAll_cons hA
  obtain ⟨rfl, rfl, rfl⟩ := trodAll_nil r0
  obtain rfl : args = #[v0] := by cases args; simp_all
  obtain ⟨rfl, rfl⟩ := trodVars_none hV
  obtain ⟨a0, len0, cap0, rfl⟩ := okWide_slice Try.underlying43 (hval 0 43 v0 rfl rfl)
  have k0 := h0
  have lt0 : ∀ x ∈ p0, x.block < W.heap.size := by obtain ⟨m, hm⟩ := k0; exact DataW.trod_lt m _ _ _ hm
  obtain ⟨z0, hl0, hc0, w0⟩ : ∃ zs : List Int, len0 = zs.length ∧ zs.length ≤ cap0 ∧ Rdw .u8 W W.heap.size a0 zs := by
    obtain ⟨fuel, hf⟩ := h0
    rcases open_ints Try.underlying43 Try.underlying5 (by kernel_rfl) hf with ⟨hcs, _⟩ | ⟨x, l, c, zs, hcs, _, hl, hm, hz, _, hcell, hwz⟩
    · simp [Value.cells] at hcs
      obtain ⟨rfl, rfl, rfl⟩ := hcs
      exact ⟨[], rfl, Nat.le_refl _, Rdw.nil⟩
    · simp [Value.cells] at hcs
      obtain ⟨rfl, rfl, rfl⟩ := hcs
      exact ⟨zs.take len0, by simp at hz ⊢; omega, by simp at hz ⊢; omega, Rdw.of_row hl hm (by simpa using hz) hcell hwz⟩
  subst hl0
  clear hA0 hval0
  refine (walk W a0 cap0 z0 hc0 w0).mono fun e W' ⟨he, bel⟩ => ?_
  subst he
  exact ⟨_, rfl, _, _, _, [], _, [], hW', trodAll_mk1 (shut_bool Try.underlying4 _), (trodAll_cons_mk (Below.trod laidOut (by kernel_rfl) (of_decide_eq_true (by kernel_rfl)) k0 bel lt0) trodAll_mk0), rfl, bel.frame _, fun h => by cases h⟩

theorem over : Rows.fnDiscRegionGrowRow.holds Try.pinned (OpenSpec.ofChange Rows.fnDiscRegionGrowSpec) :=
  OpenClaim.holds_of_wide 13 Try.f13 rfl rfl rfl rfl rfl rfl rfl ⟨rfl, rfl, rfl, rfl, rfl⟩ rfl rfl rfl rfl rfl (by kernel_rfl) Try.func13 (by kernel_rfl)
    (of_decide_eq_true (by kernel_rfl)) (by unfold Func.isWrapper; first | (rw [if_pos (by decide +kernel)]; kernel_rfl) | (rw [if_neg (by decide +kernel)]; exact ⟨rfl, rfl⟩))
    (fun os started H enc _ => lifted os started H enc)

theorem proved : Rows.FnDiscRegionGrowSaid := over
end Go.Proofs.Ytjekhlhnjknbeaa.fnDiscRegionGrow
