/- RegionHas of the program answers what the model answers, for every list of runs and every place, and changes nothing of the list. -/
import Derived.Test.YtkchhcphljcloaaRows
import Derived.WalkKit
import Derived.ProofKit
import Derived.OpenShut
import Derived.ShutString
import Derived.ChangeOld
import Derived.Below
import Derived.Test.YtkchhcphljcloaaTriO
import Derived.Test.YtkchhcphljcloaaTri2
import Derived.Test.YtkchhcphljcloaaHasS
namespace Go.Proofs.Ytkchhcphljcloaa.fnExactRegionHas
open Go.ChangeShapes Go.WideShapes Go.ChangeAt Go.RowKit
open Go.ChangeMaps (open_string shut_string)
set_option linter.unusedVariables false

set_option maxRecDepth 20000
set_option maxHeartbeats 4000000 in
theorem walk (w : World) (a0 : Option Addr) (len0 cap0 : Nat) (z0 : List Int) (hl0 : z0.length = 3 * len0) (hc0 : len0 ≤ cap0) (hm0 : cap0 ≤ maxLen) (w0 : Rds .i64 w w.heap.size a0 z0) (f0 : ∀ n ∈ z0, (Lit.int .i64 n).wf = true) (a1 : Int) (w1 : (Lit.int .i64 a1).wf = true) (a2 : Int) (w2 : (Lit.int .i64 a2).wf = true) :
    Calls Try.prog 5 #[.slice a0 len0 cap0, .int .i64 a1, .int .i64 a2] w fun e w' => e = .returned (.bool true) ∧ Below w.heap.size w w' := by
  unfold maxLen at hm0
  by_cases hlen : 1048576 < len0
  · go_enter Try.func5, Try.ntmps5
    go_wp2_with fail
    refine (szRunS_no a0 len0 cap0 _ hlen (by omega)).mono ?_
    rintro e w' ⟨rfl, rfl⟩
    go_wp2
    go_ret
    exact ⟨rfl, Below.refl _ _⟩
  · have HL := Lib.hid hl0
    have HR := Lib.hid w0
    clear hl0 w0 f0
    go_enter Try.func5, Try.ntmps5
    go_wp2_with fail
    refine (szRunS_ok a0 len0 cap0 _ (by omega)).mono ?_
    rintro e w' ⟨rfl, rfl⟩
    go_wp2_with fail
    refine (toRunS_any a0 len0 cap0 z0 w HL.out HR.out (by omega)).mono ?_
    rintro e u1 ⟨A1, c1, rfl, hc1, hr1, hB1, _⟩
    have H1 := Lib.hid hr1
    clear hr1
    go_wp2_with fail
    refine (s_RegionHas A1 len0 c1 u1.heap.size z0 a1 a2 u1 HL.out H1.out (Nat.le_refl _) (by omega)).mono ?_
    rintro e u2 ⟨rfl, hB2⟩
    have hb2 := hB1.trans (hB2.mono hB1.size)
    clear hB2
    go_wp2_with fail
    refine (toRunS_any a0 len0 cap0 z0 u2 HL.out ((HR.out.below hb2).more hb2.size) (by omega)).mono ?_
    rintro e u3 ⟨A3, c3, rfl, hc3, hr3, hB3, _⟩
    have hb3 := hb2.trans (hB3.mono hb2.size)
    have H3 := Lib.hid hr3
    clear hr3 hB3
    go_wp2_with fail
    refine (i_RegionHas A3 len0 c3 u3.heap.size z0 a1 a2 u3 HL.out H3.out (Nat.le_refl _) (by omega)).mono ?_
    rintro e u4 ⟨rfl, hB4⟩
    have hb4 := hb3.trans (hB4.mono hb3.size)
    have H4 := Lib.hid ((H3.out.below hB4).more hB4.size)
    clear hB4
    generalize rhas z0 len0 a1 a2 = V at *
    go_wp2_with fail
    refine (toRunS_any a0 len0 cap0 z0 u4 HL.out ((HR.out.below hb4).more hb4.size) (by omega)).mono ?_
    rintro e u5 ⟨A5, c5, rfl, hc5, hr5, hB5, _⟩
    have hb5 := hb4.trans (hB5.mono hb4.size)
    have H5 := Lib.hid hr5
    have H45 := Lib.hid ((H4.out.below hB5).more hB5.size)
    clear hr5 hB5
    go_wp2_with fail
    refine (eqRunS_same A3 A5 len0 c3 c5 z0 u5.heap.size u5.heap.size u5 HL.out H45.out H5.out (Nat.le_refl _) (Nat.le_refl _) (by omega)).mono ?_
    rintro e u6 ⟨rfl, hB6⟩
    have hb6 := hb5.trans (hB6.mono hb5.size)
    go_wp2_with fail
    go_ret
    exact ⟨rfl, hb6⟩

/-! ### From the walk to the statement. -/
theorem own : ownKnob Try.prog.godebug = none := by kernel_rfl
theorem laidOut : laidOutB Try.prog = true := by kernel_rfl
set_option maxRecDepth 100000 in
theorem lifted (os : Os) (started : os.Started) (H : Type) (enc : TypeId × Value → H) :
    ReturnsInHanded {} Try.checked os 5 .any (Rows.fnExactRegionHasSpec.pre6 enc Try.prog Try.f5 Rows.fnExactRegionHasRow.domain false) (Rows.fnExactRegionHasSpec.post enc Try.prog Try.f5 false true false false) := by
  refine returnsInHanded_of_change (C := Try.checked) own started (by kernel_rfl) Try.func5
    (ChangeSpec.witness6 (enc := enc) (C := Try.checked) false ⟨#[], #[.slice none 0 0, .int .i64 0, .int .i64 0], []⟩ 8 (by kernel_rfl) (by kernel_rfl) (by kernel_rfl) (by kernel_rfl)) ?_
  intro W base args ds gs before hval0 hW hcnd _
  have hval : ∀ (j : Nat) t v, Try.f5.params[j]? = some t → args[j]? = some v → Value.okWide Try.prog W .any base t v := hval0
  have hW' := hW
  obtain ⟨p, q, hA0, hV, rfl, hfz, hnd⟩ := hW
  have hA : DataW.TrodAll enc Try.prog W 0 (fun _ => true) true Try.f5.params.toList args.toList ds p := hA0
  rw [Try.params5] at hA hval
  obtain ⟨v0, vs0, d0, ds0, p0, q0, hargs, rfl, rfl, h0, r0⟩ := trodAll_cons hA
  obtain ⟨v1, vs1, d1, ds1, p1, q1, rfl, rfl, rfl, h1, r1⟩ := trodAll_cons r0
  obtain ⟨v2, vs2, d2, ds2, p2, q2, rfl, rfl, rfl, h2, r2⟩ := trodAll_cons r1
  obtain ⟨rfl, rfl, rfl⟩ := trodAll_nil r2
  obtain rfl : args = #[v0, v1, v2] := by cases args; simp_all
  obtain ⟨rfl, rfl⟩ := trodVars_none hV
  obtain ⟨a0, len0, cap0, rfl⟩ := okWide_slice Try.underlying22 (hval 0 22 v0 rfl rfl)
  have k0 := h0
  have lt0 : ∀ x ∈ p0, x.block < W.heap.size := by obtain ⟨m, hm⟩ := k0; exact DataW.trod_lt m _ _ _ hm
  obtain ⟨z0, hl0, hc0, hm0, w0, f0⟩ : ∃ zs : List Int, zs.length = 3 * len0 ∧ len0 ≤ cap0 ∧ cap0 ≤ maxLen ∧ Rds .i64 W W.heap.size a0 zs ∧ ∀ n ∈ zs, (Lit.int .i64 n).wf = true := by
    obtain ⟨fuel, hf⟩ := h0
    obtain ⟨A, l, c, zs, hcs, r⟩ := open_flat (C := 3) Try.underlying22 Try.underlying71 Try.underlying3 (by decide) rfl (by kernel_rfl) (by kernel_rfl) (by intro q f hq; rcases q with _ | _ | _ | q <;> simp at hq <;> (subst hq; exact ⟨rfl, rfl⟩)) hf
    simp [Value.cells] at hcs
    obtain ⟨rfl, rfl, rfl⟩ := hcs
    exact ⟨zs, r⟩
  obtain ⟨a1, rfl, rfl, rfl, w1⟩ := open_int Try.underlying3 (hval 1 3 v1 rfl rfl) h1
  obtain ⟨a2, rfl, rfl, rfl, w2⟩ := open_int Try.underlying3 (hval 2 3 v2 rfl rfl) h2
  clear hA0 hval0
  refine (walk W a0 len0 cap0 z0 hl0 hc0 hm0 w0 f0 a1 w1 a2 w2).mono fun e W' ⟨he, bel⟩ => ?_
  subst he
  exact ⟨_, rfl, _, _, _, [], _, [], hW', trodAll_mk1 (shut_bool Try.underlying4 _), (trodAll_cons_mk (Below.trod laidOut (by kernel_rfl) (of_decide_eq_true (by kernel_rfl)) k0 bel lt0) (trodAll_cons_mk (shut_int Try.underlying3 w1) (trodAll_cons_mk (shut_int Try.underlying3 w2) trodAll_mk0))), rfl, bel.frame _, fun h => by cases h⟩

theorem over : Rows.fnExactRegionHasRow.holds Try.pinned (OpenSpec.ofChange Rows.fnExactRegionHasSpec) :=
  OpenClaim.holds_of_wide 5 Try.f5 rfl rfl rfl rfl rfl rfl rfl ⟨rfl, rfl, rfl, rfl, rfl⟩ rfl rfl rfl rfl rfl (by kernel_rfl) Try.func5 (by kernel_rfl)
    (of_decide_eq_true (by kernel_rfl)) (by unfold Func.isWrapper; first | (rw [if_pos (by decide +kernel)]; kernel_rfl) | (rw [if_neg (by decide +kernel)]; exact ⟨rfl, rfl⟩))
    (fun os started H enc _ => lifted os started H enc)

theorem proved : Rows.FnExactRegionHasSaid := over
end Go.Proofs.Ytkchhcphljcloaa.fnExactRegionHas
