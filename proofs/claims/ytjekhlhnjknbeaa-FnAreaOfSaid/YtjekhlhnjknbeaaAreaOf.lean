/- Whatever the code: the area of drawn runs is what the model tells; of a region it is 0 exactly if there are no runs, and at most the area of its bounds. -/
import Derived.Test.YtjekhlhnjknbeaaRows
import Derived.WalkKit
import Derived.ProofKit
import Derived.OpenShut
import Derived.ShutString
import Derived.ChangeOld
import Derived.Below
import Derived.Test.YtjekhlhnjknbeaaAreM
import Derived.Test.YtjekhlhnjknbeaaBnd
import Derived.Test.YtjekhlhnjknbeaaDrawRg
import Derived.Deep.RegionHeld3
namespace Go.Proofs.Ytjekhlhnjknbeaa.fnAreaOf
open Go.ChangeShapes Go.WideShapes Go.ChangeAt Go.RowKit
open Go.ChangeMaps (open_string shut_string)
set_option linter.unusedVariables false

set_option maxHeartbeats 16000000 in
theorem walk (w : World) (a0 : Option Addr) (cap0 : Nat) (z0 : List Int) (hc0 : z0.length ≤ cap0) (w0 : Rdw .u8 w w.heap.size a0 z0) :
    Calls Try.prog 6 #[.slice a0 z0.length cap0] w fun e w' => e = .returned (.bool true) ∧ Below w.heap.size w w' := by
  have hm := w0.2.1
  unfold maxLen at hm
  by_cases hlen : 1048576 < z0.length
  · go_enter Try.func6, Try.ntmps6
    go_wp2
    go_ret
    exact ⟨rfl, Below.refl _ _⟩
  · have HD := Lib.hid (drawArea_any a0 cap0 z0 w hc0 w0)
    clear w0 hc0
    go_enter Try.func6, Try.ntmps6
    go_wp2_with fail
    refine HD.out.mono ?_
    rintro e w1 ⟨v, n, xs, rfl, hn, hO, hb1⟩
    obtain ⟨A1, c1, rfl, hc1⟩ := hO.slice
    have HLn : Hid (xs.length = 3 * n) := Lib.hid (by have := hO.len; omega)
    have HR1 := Lib.hid hO.rds
    have HB1 := Lib.hid hb1
    clear hO hb1
    obtain ⟨a, ha⟩ : ∃ a, a = areaV xs n := ⟨_, rfl⟩
    have HI : Hid (∀ W : World, Rds .i64 W W.heap.size A1 xs → Calls Try.prog 30 #[.slice A1 n c1] W fun e w' => e = .returned (.int .i64 a) ∧ Below W.heap.size W w') := Lib.hid (fun W hW => by rw [ha]; exact i_AreaOf A1 n c1 W.heap.size xs W HLn.out hW (Nat.le_refl _) (by omega))
    have HS : Hid (∀ W : World, Rds .i64 W W.heap.size A1 xs → Calls Try.prog 31 #[.slice A1 n c1] W fun e w' => e = .returned (.int .i64 a) ∧ Below W.heap.size W w') := Lib.hid (fun W hW => by rw [ha]; exact s_AreaOf A1 n c1 W.heap.size xs W HLn.out hW (Nat.le_refl _) (by omega))
    have HB : Hid (∀ W : World, Rds .i64 W W.heap.size A1 xs → Calls Try.prog 32 #[.slice A1 n c1] W (BoxOf xs n W)) := Lib.hid (fun W hW => i_BoundsOf A1 n c1 W.heap.size xs W HLn.out hW (Nat.le_refl _) (by omega))
    go_wp2_with fail
    refine (HI.out w1 HR1.out).mono ?_
    rintro e w2 ⟨rfl, hb2⟩
    have HR2 := Lib.hid ((HR1.out.below hb2).more hb2.size)
    have HB2 := Lib.hid (HB1.out.trans (hb2.mono HB1.out.size))
    clear hb2 HB1 HR1
    cases hv : regB xs n
    · have ha1 : a = -1 := by rw [ha]; unfold areaV; rw [hv]; rfl
      clear ha
      subst ha1
      go_wp2_with fail
      refine (HS.out w2 HR2.out).mono ?_
      rintro e w3 ⟨rfl, hb3⟩
      have HR3 := Lib.hid ((HR2.out.below hb3).more hb3.size)
      have HB3 := Lib.hid (HB2.out.trans (hb3.mono HB2.out.size))
      clear hb3 HB2 HR2
      go_wp2_with fail
      refine (HS.out w3 HR3.out).mono ?_
      rintro e w4 ⟨rfl, hb4⟩
      have HB4 := Lib.hid (HB3.out.trans (hb4.mono HB3.out.size))
      clear hb4 HB3 HR3
      go_wp2
      go_ret
      exact ⟨rfl, HB4.out⟩
    · have hr := regB_of hv
      have ha1 : a = area xs n := by rw [ha]; unfold areaV; rw [hv]; rfl
      have hpos := area_pos hr n (Nat.le_refl _)
      have hbd := (area_bd hr n (Nat.le_refl _)).2
      rw [← ha1] at hpos hbd
      have h0 : ¬ a < 0 := by omega
      have HV := Lib.hid hv
      have Ha1 := Lib.hid ha1
      clear ha hv ha1
      go_wp2_with fail
      refine (HS.out w2 HR2.out).mono ?_
      rintro e w3 ⟨rfl, hb3⟩
      have HR3 := Lib.hid ((HR2.out.below hb3).more hb3.size)
      have HB3 := Lib.hid (HB2.out.trans (hb3.mono HB2.out.size))
      clear hb3 HB2 HR2
      go_wp2_with fail
      refine (HB.out w3 HR3.out).mono ?_
      rintro e w4 ⟨rfl, hb4⟩
      have HB4 := Lib.hid ((HB3.out.trans (hb4.mono HB3.out.size)).alloc (HB3.out.trans (hb4.mono HB3.out.size)).size (.cells #[.int .i64 (bX xs n), .int .i64 (bY xs n), .int .i64 (bW xs n), .int .i64 (bH xs n)] 47))
      clear hb4 HB3 HR3
      by_cases hn0 : n = 0
      · have hbk : bok xs n = false := by unfold bok; rw [decide_eq_false (by omega)]; rfl
        obtain ⟨e1, e2, e3, e4⟩ := b_no hbk
        rw [e1, e2, e3, e4] at HB4
        rw [e1, e2, e3, e4, hbk]
        have ha0 : a = 0 := by rw [Ha1.out, hn0]; rfl
        subst ha0
        subst hn0
        clear hbk e1 e2 e3 e4
        go_wp2
        go_ret
        exact ⟨rfl, HB4.out⟩
      · have hbk : bok xs n = true := by unfold bok; rw [decide_eq_true (by omega), HV.out]; rfl
        obtain ⟨e1, e2, e3, e4⟩ := b_yes hbk
        have hbox := area_box hr (show 0 < n by omega)
        have hlo := (lohi_bd hr (show 0 < n by omega) n (Nat.le_refl _))
        have hy0 := reg_bd hr (show 0 < n by omega)
        have hy1 := reg_bd hr (show n - 1 < n by omega)
        have hmo := gY_mono hr (n - 1) (by omega)
        have h00 := lohi_in (xs := xs) n 0 (by omega)
        have hy2 := bnds hr (show 0 < n by omega)
        have hp2 : (bW xs n) * (bH xs n) ≤ 16 * (bH xs n) := Int.mul_le_mul_of_nonneg_right (by omega) (by omega)
        have hp1 : 0 ≤ (bW xs n) * (bH xs n) := Int.mul_nonneg (by omega) (by omega)
        rw [← e3, ← e4, ← Ha1.out] at hbox
        have hbH : bH xs n ≤ 16 := by omega
        rw [hbk]
        have hnI : ((n : Int) == 0) = false := beq_eq_false_iff_ne.2 (by omega)
        have haI : (a == 0) = false := beq_eq_false_iff_ne.2 (by omega)
        have haP : 0 < a := by omega
        clear hbk e1 e2 e3 e4 hlo hy0 hy1 hmo h00 hy2 hr
        generalize bX xs n = X at *
        generalize bY xs n = Y at *
        generalize bW xs n = WW at *
        generalize bH xs n = HH at *
        go_wp2
        go_ret
        exact ⟨rfl, HB4.out⟩

/-! ### From the walk to the statement. -/
theorem own : ownKnob Try.prog.godebug = none := by kernel_rfl
theorem laidOut : laidOutB Try.prog = true := by kernel_rfl
set_option maxRecDepth 100000 in
theorem lifted (os : Os) (started : os.Started) (H : Type) (enc : TypeId × Value → H) :
    ReturnsInHanded {} Try.checked os 6 .any (Rows.fnAreaOfSpec.pre6 enc Try.prog Try.f6 Rows.fnAreaOfRow.domain false) (Rows.fnAreaOfSpec.post enc Try.prog Try.f6 false true false false) := by
  refine returnsInHanded_of_change (C := Try.checked) own started (by kernel_rfl) Try.func6
    (ChangeSpec.witness6 (enc := enc) (C := Try.checked) false ⟨#[], #[.slice none 0 0], []⟩ 8 (by kernel_rfl) (by kernel_rfl) (by kernel_rfl) (by kernel_rfl)) ?_
  intro W base args ds gs before hval0 hW hcnd _
  have hval : ∀ (j : Nat) t v, Try.f6.params[j]? = some t → args[j]? = some v → Value.okWide Try.prog W .any base t v := hval0
  have hW' := hW
  obtain ⟨p, q, hA0, hV, rfl, hfz, hnd⟩ := hW
  have hA : DataW.TrodAll enc Try.prog W 0 (fun _ => true) true Try.f6.params.toList args.toList ds p := hA0
  rw [Try.params6] at hA hval
  obtain ⟨v0, vs0, d0, ds0, p0, q0, hargs, rfl, rfl, h0, r0⟩ := trodAll_cons hA
  obtain ⟨rfl, rfl, rfl⟩ := trodAll_nil r0
  obtain rfl : args = #[v0] := by cases args; simp_all
  obtain ⟨rfl, rfl⟩ := trodVars_none hV
  obtain ⟨a0, len0, cap0, rfl⟩ := okWide_slice Try.underlying43 (hval 0 43 v0 rfl rfl)
  have k0 := h0
  have lt0 : ∀ x ∈ p0, x.block < W.heap.size := by obtain ⟨m, hm⟩ := k0; exact DataW.trod_lt m _ _ _ hm
  obtain ⟨z0, hl0, hc0, w0⟩ : ∃ zs : List Int, len0 = zs.length ∧ zs.length ≤ cap0 ∧ Rdw .u8 W W.heap.size a0 zs := by
    obtain ⟨fuel, hf⟩ := h0
    rcases open_ints Try.underlying43 Try.underlying5 (by kernel_rfl) hf with ⟨hcs, _⟩ | ⟨x, l, c, zs, hcs, _, hl, hm, hz, _, hcell, hwz⟩
    · simp [Value.cells] at hcs
      obtain ⟨rfl, rfl, rfl⟩ := hcs
      exact ⟨[], rfl, Nat.le_refl _, Rdw.nil⟩
    · simp [Value.cells] at hcs
      obtain ⟨rfl, rfl, rfl⟩ := hcs
      exact ⟨zs.take len0, by simp at hz ⊢; omega, by simp at hz ⊢; omega, Rdw.of_row hl hm (by simpa using hz) hcell hwz⟩
  subst hl0
  clear hA0 hval0
  refine (walk W a0 cap0 z0 hc0 w0).mono fun e W' ⟨he, bel⟩ => ?_
  subst he
  exact ⟨_, rfl, _, _, _, [], _, [], hW', trodAll_mk1 (shut_bool Try.underlying4 _), (trodAll_cons_mk (Below.trod laidOut (by kernel_rfl) (of_decide_eq_true (by kernel_rfl)) k0 bel lt0) trodAll_mk0), rfl, bel.frame _, fun h => by cases h⟩

theorem over : Rows.fnAreaOfRow.holds Try.pinned (OpenSpec.ofChange Rows.fnAreaOfSpec) :=
  OpenClaim.holds_of_wide 6 Try.f6 rfl rfl rfl rfl rfl rfl rfl ⟨rfl, rfl, rfl, rfl, rfl⟩ rfl rfl rfl rfl rfl (by kernel_rfl) Try.func6 (by kernel_rfl)
    (of_decide_eq_true (by kernel_rfl)) (by unfold Func.isWrapper; first | (rw [if_pos (by decide +kernel)]; kernel_rfl) | (rw [if_neg (by decide +kernel)]; exact ⟨rfl, rfl⟩))
    (fun os started H enc _ => lifted os started H enc)

theorem proved : Rows.FnAreaOfSaid := over
end Go.Proofs.Ytjekhlhnjknbeaa.fnAreaOf
