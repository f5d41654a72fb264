/- CheckOf of the program answers what the model answers, for every list; it writes into no argument. -/
import Derived.Test.YtaieialjpiojeaaRows
import Derived.WalkKit
import Derived.ProofKit
import Derived.OpenShut
import Derived.ShutString
import Derived.ChangeOld
import Derived.Below
import Derived.Test.YtaieialjpiojeaaCheck
import Derived.Test.YtaieialjpiojeaaExact
namespace Go.Proofs.Ytaieialjpiojeaa.fnExactCheckOf
open Go.ChangeShapes Go.WideShapes Go.ChangeAt Go.RowKit
open Go.ChangeMaps (open_string shut_string)
set_option linter.unusedVariables false

set_option maxHeartbeats 8000000 in
theorem walk (w : World) (a0 : Option Addr) (cap0 : Nat) (z0 : List Int) (hc0 : z0.length ≤ cap0) (w0 : Rdw .i64 w w.heap.size a0 z0) :
    Calls Try.prog 10 #[.slice a0 z0.length cap0] w fun e w' => e = .returned (.bool true) ∧ Below w.heap.size w w' := by
  have hm0 := w0.2.1
  unfold maxLen at hm0
  have HR0 := Lib.hid w0.1
  by_cases hlen0 : 1048576 < z0.length
  · go_enter Try.func10, Try.ntmps10
    go_wp2
    go_ret
    exact ⟨rfl, Below.refl _ _⟩
  go_enter Try.func10, Try.ntmps10
  have S0 := St.start w
  go_wp2_with fail
  refine (toIntS_any a0 cap0 z0 w (S0.arg HR0.out) (by omega)).mono ?_
  rintro e w1x ⟨v1, rfl, hO1, hB1⟩
  obtain ⟨A1, c1, rfl, hcc1⟩ := hO1.slice
  have S1 := S0.add hO1 hB1
  clear S0 hO1 hB1
  go_wp2_with fail
  refine (s_CheckOf A1 c1 _ z0 w1x (S1.rds (lo := w.heap.size) (hi := w1x.heap.size) (n := z0.length) (c := c1) (by simp)) (by omega)).mono ?_
  rintro e w2x ⟨rfl, rfl⟩
  go_wp2_with fail
  refine (toIntS_any a0 cap0 z0 w1x (S1.arg HR0.out) (by omega)).mono ?_
  rintro e w3x ⟨v3, rfl, hO3, hB3⟩
  obtain ⟨A3, c3, rfl, hcc3⟩ := hO3.slice
  have S3 := S1.add hO3 hB3
  clear S1 hO3 hB3
  go_wp2_with fail
  refine (i_CheckOf A3 c3 _ z0 w3x (S3.rds (lo := w1x.heap.size) (hi := w3x.heap.size) (n := z0.length) (c := c3) (by simp)) (by omega)).mono ?_
  rintro e w4x ⟨rfl, rfl⟩
  go_wp2_with fail
  refine (toIntS_any a0 cap0 z0 w3x (S3.arg HR0.out) (by omega)).mono ?_
  rintro e w5x ⟨v5, rfl, hO5, hB5⟩
  obtain ⟨A5, c5, rfl, hcc5⟩ := hO5.slice
  have S5 := S3.add hO5 hB5
  clear S3 hO5 hB5
  go_wp2_with fail
  refine (eqIntS_any A3 A5 c3 c5 (z0) (z0) _ _ w5x (S5.rds (lo := w1x.heap.size) (hi := w3x.heap.size) (n := z0.length) (c := c3) (by simp)) (S5.rds (lo := w3x.heap.size) (hi := w5x.heap.size) (n := z0.length) (c := c5) (by simp)) (by omega) (by omega)).mono ?_
  rintro e w6x ⟨rfl, n6, rfl⟩
  have S6 := S5.drewN n6
  clear S5
  generalize hw6 : w5x.drewN n6 = w6x at *
  have Hw6 := Lib.hid hw6
  clear hw6
  go_wp2_with fail
  go_ret
  exact ⟨rfl, S6.below⟩

/-! ### From the walk to the statement. -/
theorem own : ownKnob Try.prog.godebug = none := by kernel_rfl
theorem laidOut : laidOutB Try.prog = true := by kernel_rfl
set_option maxRecDepth 100000 in
theorem lifted (os : Os) (started : os.Started) (H : Type) (enc : TypeId × Value → H) :
    ReturnsInHanded {} Try.checked os 10 .any (Rows.fnExactCheckOfSpec.pre6 enc Try.prog Try.f10 Rows.fnExactCheckOfRow.domain false) (Rows.fnExactCheckOfSpec.post enc Try.prog Try.f10 false true false false) := by
  refine returnsInHanded_of_change (C := Try.checked) own started (by kernel_rfl) Try.func10
    (ChangeSpec.witness6 (enc := enc) (C := Try.checked) false ⟨#[], #[.slice none 0 0], []⟩ 8 (by kernel_rfl) (by kernel_rfl) (by kernel_rfl) (by kernel_rfl)) ?_
  intro W base args ds gs before hval0 hW hcnd _
  have hval : ∀ (j : Nat) t v, Try.f10.params[j]? = some t → args[j]? = some v → Value.okWide Try.prog W .any base t v := hval0
  have hW' := hW
  obtain ⟨p, q, hA0, hV, rfl, hfz, hnd⟩ := hW
  have hA : DataW.TrodAll enc Try.prog W 0 (fun _ => true) true Try.f10.params.toList args.toList ds p := hA0
  rw [Try.params10] at hA hval
  obtain ⟨v0, vs0, d0, ds0, p0, q0, hargs, rfl, rfl, h0, r0⟩ := trodAll_cons hA
  obtain ⟨rfl, rfl, rfl⟩ := trodAll_nil r0
  obtain rfl : args = #[v0] := by cases args; simp_all
  obtain ⟨rfl, rfl⟩ := trodVars_none hV
  obtain ⟨a0, len0, cap0, rfl⟩ := okWide_slice Try.underlying22 (hval 0 22 v0 rfl rfl)
  have k0 := h0
  have lt0 : ∀ x ∈ p0, x.block < W.heap.size := by obtain ⟨m, hm⟩ := k0; exact DataW.trod_lt m _ _ _ hm
  obtain ⟨z0, hl0, hc0, w0⟩ : ∃ zs : List Int, len0 = zs.length ∧ zs.length ≤ cap0 ∧ Rdw .i64 W W.heap.size a0 zs := by
    obtain ⟨fuel, hf⟩ := h0
    rcases open_ints Try.underlying22 Try.underlying3 (by kernel_rfl) hf with ⟨hcs, _⟩ | ⟨x, l, c, zs, hcs, _, hl, hm, hz, _, hcell, hwz⟩
    · simp [Value.cells] at hcs
      obtain ⟨rfl, rfl, rfl⟩ := hcs
      exact ⟨[], rfl, Nat.le_refl _, Rdw.nil⟩
    · simp [Value.cells] at hcs
      obtain ⟨rfl, rfl, rfl⟩ := hcs
      exact ⟨zs.take len0, by simp at hz ⊢; omega, by simp at hz ⊢; omega, Rdw.of_row hl hm (by simpa using hz) hcell hwz⟩
  subst hl0
  clear hA0 hval0
  refine (walk W a0 cap0 z0 hc0 w0).mono fun e W' ⟨he, bel⟩ => ?_
  subst he
  exact ⟨_, rfl, _, _, _, [], _, [], hW', trodAll_mk1 (shut_bool Try.underlying4 _), (trodAll_cons_mk (Below.trod laidOut (by kernel_rfl) (of_decide_eq_true (by kernel_rfl)) k0 bel lt0) trodAll_mk0), rfl, bel.frame _, fun h => by cases h⟩

theorem over : Rows.fnExactCheckOfRow.holds Try.pinned (OpenSpec.ofChange Rows.fnExactCheckOfSpec) :=
  OpenClaim.holds_of_wide 10 Try.f10 rfl rfl rfl rfl rfl rfl rfl ⟨rfl, rfl, rfl, rfl, rfl⟩ rfl rfl rfl rfl rfl (by kernel_rfl) Try.func10 (by kernel_rfl)
    (of_decide_eq_true (by kernel_rfl)) (by unfold Func.isWrapper; first | (rw [if_pos (by decide +kernel)]; kernel_rfl) | (rw [if_neg (by decide +kernel)]; exact ⟨rfl, rfl⟩))
    (fun os started H enc _ => lifted os started H enc)

theorem proved : Rows.FnExactCheckOfSaid := over
end Go.Proofs.Ytaieialjpiojeaa.fnExactCheckOf
