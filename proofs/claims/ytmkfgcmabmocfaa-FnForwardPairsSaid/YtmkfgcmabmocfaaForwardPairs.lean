/- Whatever the code: ForwardPairs of the drawn list answers what the model answers, and BackPairs of it is the list. -/
import Derived.Test.YtmkfgcmabmocfaaRows
import Derived.WalkKit
import Derived.ProofKit
import Derived.OpenShut
import Derived.ShutString
import Derived.ChangeOld
import Derived.Below
import Derived.Test.YtmkfgcmabmocfaaPrsW
import Derived.Deep.QuietTactic
import Derived.BigQuiet
namespace Go.Proofs.Ytmkfgcmabmocfaa.fnForwardPairs
open Go.ChangeShapes Go.WideShapes Go.ChangeAt Go.RowKit
open Go.ChangeMaps (open_string shut_string)
set_option linter.unusedVariables false

set_option linter.unusedSimpArgs false
set_option maxRecDepth 20000
set_option maxHeartbeats 16000000 in
theorem walk (w : World) (a0 : Option Addr) (cap0 : Nat) (z0 : List Int) (hc0 : z0.length ≤ cap0) (w0 : Rdw .u8 w w.heap.size a0 z0) :
    Calls Try.prog 3 #[.slice a0 z0.length cap0] w fun e w' => e = .returned (.bool true) ∧ Below w.heap.size w w' := by
  have hm := w0.2.1
  unfold maxLen at hm
  by_cases hlen : 1048576 < z0.length
  · go_enter Try.func3, Try.ntmps3
    go_wp2
    go_ret
    exact ⟨rfl, Below.refl _ _⟩
  · go_enter Try.func3, Try.ntmps3
    go_wp2_with fail
    refine (dFw_any a0 cap0 z0 w hc0 w0).mono ?_
    rintro e u1 ⟨A, c, xs, rfl, hxc, hxl, hr, hbel⟩
    have S1 := Lib.hid (Rws.start hbel hr)
    obtain ⟨ys, hyl, HI, HS, hor⟩ := fw_law xs hxl
    clear w0 hr hbel hm
    go_wp2_with fail
    refine (HI.out A c u1 (S1.out.rds (by simp))).mono ?_
    rintro e u2 ⟨v2, rfl, hO2, hB2⟩
    obtain ⟨A2, c2, rfl, _⟩ := hO2.slice
    have S2 := Lib.hid (S1.out.add hO2 hB2)
    clear hO2 hB2 S1
    go_wp2_with fail
    refine (HS.out A c u2 (S2.out.rds (by simp))).mono ?_
    rintro e u3 ⟨v3, rfl, hO3, hB3⟩
    obtain ⟨A3, c3, rfl, _⟩ := hO3.slice
    have S3 := Lib.hid (S2.out.add hO3 hB3)
    clear hO3 hB3 S2
    go_wp2_with fail
    refine (lEq_same A2 A3 c2 c3 ys u3 (S3.out.rds (by simp)) (S3.out.rds (by simp)) (by omega)).mono ?_
    rintro e u4 ⟨rfl, n4, rfl⟩
    have S4 := Lib.hid (S3.out.drewN n4)
    clear S3
    generalize u3.drewN n4 = u4 at *
    rcases hor with h0 | ⟨h0, hyx, HP, HK⟩
    · have hI0 : (ys.length : Int) = 0 := by omega
      clear h0
      go_wp2_with fail
      refine (HS.out A c u4 (S4.out.rds (by simp))).mono ?_
      rintro e u5 ⟨v5, rfl, hO5, hB5⟩
      obtain ⟨A5, c5, rfl, _⟩ := hO5.slice
      have S5 := Lib.hid (S4.out.add hO5 hB5)
      clear hO5 hB5 S4
      go_wp2_with fail
      refine (lEq_same A2 A5 c2 c5 ys u5 (S5.out.rds (by simp)) (S5.out.rds (by simp)) (by omega)).mono ?_
      rintro e u6 ⟨rfl, n6, rfl⟩
      have S6 := Lib.hid (S5.out.drewN n6)
      clear S5
      go_wp2
      go_ret
      exact ⟨rfl, S6.out.1⟩
    · have hI0 : ¬ ((ys.length : Int) = 0) := by omega
      have hb0 : ((ys.length : Int) == 0) = false := beq_eq_false_iff_ne.2 hI0
      have HYX := Lib.hid hyx
      clear hyx h0
      have HB := Lib.hid (HK.out A2 c2 u4 (S4.out.rds (by simp)))
      clear HP
      go_wp2_with fail
      refine HB.out.mono ?_
      rintro e u5 ⟨v5, rfl, hO5, hB5⟩
      obtain ⟨A5, c5, rfl, _⟩ := hO5.slice
      have S5 := Lib.hid (S4.out.add hO5 hB5)
      clear hO5 hB5 S4 HB
      go_wp2_with fail
      refine (lEq_same A5 A c5 c xs u5 (S5.out.rds (by simp)) (S5.out.rds (by simp)) (by omega)).mono ?_
      rintro e u6 ⟨rfl, n6, rfl⟩
      have S6 := Lib.hid (S5.out.drewN n6)
      clear S5
      go_wp2
      go_ret
      exact ⟨ret_bool (by have := HYX.out; first | exact decide_eq_true (by omega) | simp [this]), S6.out.1⟩

/-! ### From the walk to the statement. -/
theorem own : ownKnob Try.prog.godebug = none := by kernel_rfl
theorem laidOut : laidOutB Try.prog = true := by kernel_rfl
set_option maxRecDepth 100000 in
theorem lifted (os : Os) (started : os.Started) (H : Type) (enc : TypeId × Value → H) :
    ReturnsInHanded {} Try.checked os 3 .any (Rows.fnForwardPairsSpec.pre6 enc Try.prog Try.f3 Rows.fnForwardPairsRow.domain false) (Rows.fnForwardPairsSpec.post enc Try.prog Try.f3 false true false false) := by
  refine returnsInHanded_of_change (C := Try.checked) own started (by kernel_rfl) Try.func3
    (ChangeSpec.witness6 (enc := enc) (C := Try.checked) false ⟨#[], #[.slice none 0 0], []⟩ 8 (by kernel_rfl) (by kernel_rfl) (by kernel_rfl) (by kernel_rfl)) ?_
  intro W base args ds gs before hval0 hW hcnd _
  have hval : ∀ (j : Nat) t v, Try.f3.params[j]? = some t → args[j]? = some v → Value.okWide Try.prog W .any base t v := hval0
  have hW' := hW
  obtain ⟨p, q, hA0, hV, rfl, hfz, hnd⟩ := hW
  have hA : DataW.TrodAll enc Try.prog W 0 (fun _ => true) true Try.f3.params.toList args.toList ds p := hA0
  rw [Try.params3] at hA hval
  obtain ⟨v0, vs0, d0, ds0, p0, q0, hargs, rfl, rfl, h0, r0⟩ := trodAll_cons hA
  obtain ⟨rfl, rfl, rfl⟩ := trodAll_nil r0
  obtain rfl : args = #[v0] := by cases args; simp_all
  obtain ⟨rfl, rfl⟩ := trodVars_none hV
  obtain ⟨a0, len0, cap0, rfl⟩ := okWide_slice Try.underlying22 (hval 0 22 v0 rfl rfl)
  have k0 := h0
  have lt0 : ∀ x ∈ p0, x.block < W.heap.size := by obtain ⟨m, hm⟩ := k0; exact DataW.trod_lt m _ _ _ hm
  obtain ⟨z0, hl0, hc0, w0⟩ : ∃ zs : List Int, len0 = zs.length ∧ zs.length ≤ cap0 ∧ Rdw .u8 W W.heap.size a0 zs := by
    obtain ⟨fuel, hf⟩ := h0
    rcases open_ints Try.underlying22 Try.underlying5 (by kernel_rfl) hf with ⟨hcs, _⟩ | ⟨x, l, c, zs, hcs, _, hl, hm, hz, _, hcell, hwz⟩
    · simp [Value.cells] at hcs
      obtain ⟨rfl, rfl, rfl⟩ := hcs
      exact ⟨[], rfl, Nat.le_refl _, Rdw.nil⟩
    · simp [Value.cells] at hcs
      obtain ⟨rfl, rfl, rfl⟩ := hcs
      exact ⟨zs.take len0, by simp at hz ⊢; omega, by simp at hz ⊢; omega, Rdw.of_row hl hm (by simpa using hz) hcell hwz⟩
  subst hl0
  clear hA0 hval0
  refine (walk W a0 cap0 z0 hc0 w0).mono fun e W' ⟨he, bel⟩ => ?_
  subst he
  exact ⟨_, rfl, _, _, _, [], _, [], hW', trodAll_mk1 (shut_bool Try.underlying4 _), (trodAll_cons_mk (Below.trod laidOut (by kernel_rfl) (of_decide_eq_true (by kernel_rfl)) k0 bel lt0) trodAll_mk0), rfl, bel.frame _, fun h => by cases h⟩

theorem over : Rows.fnForwardPairsRow.holds Try.pinned (OpenSpec.ofChange Rows.fnForwardPairsSpec) :=
  OpenClaim.holds_of_wide 3 Try.f3 rfl rfl rfl rfl rfl rfl rfl ⟨rfl, rfl, rfl, rfl, rfl⟩ rfl rfl rfl rfl rfl (by kernel_rfl) Try.func3 (by kernel_rfl)
    (of_decide_eq_true (by kernel_rfl)) (by unfold Func.isWrapper; first | (rw [if_pos (by decide +kernel)]; kernel_rfl) | (rw [if_neg (by decide +kernel)]; exact ⟨rfl, rfl⟩))
    (fun os started H enc _ => lifted os started H enc)

theorem proved : Rows.FnForwardPairsSaid := over
end Go.Proofs.Ytmkfgcmabmocfaa.fnForwardPairs
