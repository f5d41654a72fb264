/- BestFilter of the program answers what the model answers, for every two lists and a number; it writes into no argument. -/
import Derived.Test.YtaieialjpiojeaaRows
import Derived.WalkKit
import Derived.ProofKit
import Derived.OpenShut
import Derived.ShutString
import Derived.ChangeOld
import Derived.Below
import Derived.Test.YtaieialjpiojeaaFilterG
import Derived.Test.YtaieialjpiojeaaExact
namespace Go.Proofs.Ytaieialjpiojeaa.fnExactBestFilter
open Go.ChangeShapes Go.WideShapes Go.ChangeAt Go.RowKit
open Go.ChangeMaps (open_string shut_string)
set_option linter.unusedVariables false

set_option maxHeartbeats 8000000 in
theorem walk (w : World) (a0 : Option Addr) (cap0 : Nat) (z0 : List Int) (hc0 : z0.length ≤ cap0) (w0 : Rdw .i64 w w.heap.size a0 z0) (a1 : Option Addr) (cap1 : Nat) (z1 : List Int) (hc1 : z1.length ≤ cap1) (w1 : Rdw .i64 w w.heap.size a1 z1) (a2 : Int) (w2 : (Lit.int .i64 a2).wf = true) :
    Calls Try.prog 5 #[.slice a0 z0.length cap0, .slice a1 z1.length cap1, .int .i64 a2] w fun e w' => e = .returned (.bool true) ∧ Below w.heap.size w w' := by
  have hm0 := w0.2.1
  unfold maxLen at hm0
  have HR0 := Lib.hid w0.1
  have hm1 := w1.2.1
  unfold maxLen at hm1
  have HR1 := Lib.hid w1.1
  by_cases hlen0 : 1048576 < z0.length
  · go_enter Try.func5, Try.ntmps5
    go_wp2
    go_ret
    exact ⟨rfl, Below.refl _ _⟩
  by_cases hlen1 : 1048576 < z1.length
  · go_enter Try.func5, Try.ntmps5
    go_wp2
    go_ret
    exact ⟨rfl, Below.refl _ _⟩
  go_enter Try.func5, Try.ntmps5
  have S0 := St.start w
  go_wp2_with fail
  refine (toIntS_any a0 cap0 z0 w (S0.arg HR0.out) (by omega)).mono ?_
  rintro e w1x ⟨v1, rfl, hO1, hB1⟩
  obtain ⟨A1, c1, rfl, hcc1⟩ := hO1.slice
  have S1 := S0.add hO1 hB1
  clear S0 hO1 hB1
  go_wp2_with fail
  refine (toIntS_any a1 cap1 z1 w1x (S1.arg HR1.out) (by omega)).mono ?_
  rintro e w2x ⟨v2, rfl, hO2, hB2⟩
  obtain ⟨A2, c2, rfl, hcc2⟩ := hO2.slice
  have S2 := S1.add hO2 hB2
  clear S1 hO2 hB2
  go_wp2_with fail
  refine (s_BestFilter A1 A2 c1 c2 z0 z1 a2 w2x (S2.rds (lo := w.heap.size) (hi := w1x.heap.size) (n := z0.length) (c := c1) (by simp)) (S2.rds (lo := w1x.heap.size) (hi := w2x.heap.size) (n := z1.length) (c := c2) (by simp)) (by omega) (by omega)).mono ?_
  rintro e w3x ⟨rfl, hB3⟩
  have S3 := S2.call hB3
  clear S2 hB3
  go_wp2_with fail
  refine (toIntS_any a0 cap0 z0 w3x (S3.arg HR0.out) (by omega)).mono ?_
  rintro e w4x ⟨v4, rfl, hO4, hB4⟩
  obtain ⟨A4, c4, rfl, hcc4⟩ := hO4.slice
  have S4 := S3.add hO4 hB4
  clear S3 hO4 hB4
  go_wp2_with fail
  refine (toIntS_any a1 cap1 z1 w4x (S4.arg HR1.out) (by omega)).mono ?_
  rintro e w5x ⟨v5, rfl, hO5, hB5⟩
  obtain ⟨A5, c5, rfl, hcc5⟩ := hO5.slice
  have S5 := S4.add hO5 hB5
  clear S4 hO5 hB5
  go_wp2_with fail
  refine (i_BestFilter A4 A5 c4 c5 z0 z1 a2 w5x (S5.rds (lo := w3x.heap.size) (hi := w4x.heap.size) (n := z0.length) (c := c4) (by simp)) (S5.rds (lo := w4x.heap.size) (hi := w5x.heap.size) (n := z1.length) (c := c5) (by simp)) (by omega) (by omega)).mono ?_
  rintro e w6x ⟨rfl, hB6⟩
  have S6 := S5.call hB6
  clear S5 hB6
  go_wp2_with fail
  refine (toIntS_any a0 cap0 z0 w6x (S6.arg HR0.out) (by omega)).mono ?_
  rintro e w7x ⟨v7, rfl, hO7, hB7⟩
  obtain ⟨A7, c7, rfl, hcc7⟩ := hO7.slice
  have S7 := S6.add hO7 hB7
  clear S6 hO7 hB7
  go_wp2_with fail
  refine (eqIntS_any A4 A7 c4 c7 (z0) (z0) _ _ w7x (S7.rds (lo := w3x.heap.size) (hi := w4x.heap.size) (n := z0.length) (c := c4) (by simp)) (S7.rds (lo := w6x.heap.size) (hi := w7x.heap.size) (n := z0.length) (c := c7) (by simp)) (by omega) (by omega)).mono ?_
  rintro e w8x ⟨rfl, n8, rfl⟩
  have S8 := S7.drewN n8
  clear S7
  generalize hw8 : w7x.drewN n8 = w8x at *
  have Hw8 := Lib.hid hw8
  clear hw8
  go_wp2_with fail
  refine (toIntS_any a1 cap1 z1 w8x (S8.arg HR1.out) (by omega)).mono ?_
  rintro e w9x ⟨v9, rfl, hO9, hB9⟩
  obtain ⟨A9, c9, rfl, hcc9⟩ := hO9.slice
  have S9 := S8.add hO9 hB9
  clear S8 hO9 hB9
  go_wp2_with fail
  refine (eqIntS_any A5 A9 c5 c9 (z1) (z1) _ _ w9x (S9.rds (lo := w4x.heap.size) (hi := w5x.heap.size) (n := z1.length) (c := c5) (by simp)) (S9.rds (lo := w8x.heap.size) (hi := w9x.heap.size) (n := z1.length) (c := c9) (by simp)) (by omega) (by omega)).mono ?_
  rintro e w10x ⟨rfl, n10, rfl⟩
  have S10 := S9.drewN n10
  clear S9
  generalize hw10 : w9x.drewN n10 = w10x at *
  have Hw10 := Lib.hid hw10
  clear hw10
  go_wp2_with fail
  go_ret
  exact ⟨rfl, S10.below⟩

/-! ### From the walk to the statement. -/
theorem own : ownKnob Try.prog.godebug = none := by kernel_rfl
theorem laidOut : laidOutB Try.prog = true := by kernel_rfl
set_option maxRecDepth 100000 in
theorem lifted (os : Os) (started : os.Started) (H : Type) (enc : TypeId × Value → H) :
    ReturnsInHanded {} Try.checked os 5 .any (Rows.fnExactBestFilterSpec.pre6 enc Try.prog Try.f5 Rows.fnExactBestFilterRow.domain false) (Rows.fnExactBestFilterSpec.post enc Try.prog Try.f5 false true false false) := by
  refine returnsInHanded_of_change (C := Try.checked) own started (by kernel_rfl) Try.func5
    (ChangeSpec.witness6 (enc := enc) (C := Try.checked) false ⟨#[], #[.slice none 0 0, .slice none 0 0, .int .i64 0], []⟩ 8 (by kernel_rfl) (by kernel_rfl) (by kernel_rfl) (by kernel_rfl)) ?_
  intro W base args ds gs before hval0 hW hcnd _
  have hval : ∀ (j : Nat) t v, Try.f5.params[j]? = some t → args[j]? = some v → Value.okWide Try.prog W .any base t v := hval0
  have hW' := hW
  obtain ⟨p, q, hA0, hV, rfl, hfz, hnd⟩ := hW
  have hA : DataW.TrodAll enc Try.prog W 0 (fun _ => true) true Try.f5.params.toList args.toList ds p := hA0
  rw [Try.params5] at hA hval
  obtain ⟨v0, vs0, d0, ds0, p0, q0, hargs, rfl, rfl, h0, r0⟩ := trodAll_cons hA
  obtain ⟨v1, vs1, d1, ds1, p1, q1, rfl, rfl, rfl, h1, r1⟩ := trodAll_cons r0
  obtain ⟨v2, vs2, d2, ds2, p2, q2, rfl, rfl, rfl, h2, r2⟩ := trodAll_cons r1
  obtain ⟨rfl, rfl, rfl⟩ := trodAll_nil r2
  obtain rfl : args = #[v0, v1, v2] := by cases args; simp_all
  obtain ⟨rfl, rfl⟩ := trodVars_none hV
  obtain ⟨a0, len0, cap0, rfl⟩ := okWide_slice Try.underlying22 (hval 0 22 v0 rfl rfl)
  have k0 := h0
  have lt0 : ∀ x ∈ p0, x.block < W.heap.size := by obtain ⟨m, hm⟩ := k0; exact DataW.trod_lt m _ _ _ hm
  obtain ⟨z0, hl0, hc0, w0⟩ : ∃ zs : List Int, len0 = zs.length ∧ zs.length ≤ cap0 ∧ Rdw .i64 W W.heap.size a0 zs := by
    obtain ⟨fuel, hf⟩ := h0
    rcases open_ints Try.underlying22 Try.underlying3 (by kernel_rfl) hf with ⟨hcs, _⟩ | ⟨x, l, c, zs, hcs, _, hl, hm, hz, _, hcell, hwz⟩
    · simp [Value.cells] at hcs
      obtain ⟨rfl, rfl, rfl⟩ := hcs
      exact ⟨[], rfl, Nat.le_refl _, Rdw.nil⟩
    · simp [Value.cells] at hcs
      obtain ⟨rfl, rfl, rfl⟩ := hcs
      exact ⟨zs.take len0, by simp at hz ⊢; omega, by simp at hz ⊢; omega, Rdw.of_row hl hm (by simpa using hz) hcell hwz⟩
  subst hl0
  obtain ⟨a1, len1, cap1, rfl⟩ := okWide_slice Try.underlying22 (hval 1 22 v1 rfl rfl)
  have k1 := h1
  have lt1 : ∀ x ∈ p1, x.block < W.heap.size := by obtain ⟨m, hm⟩ := k1; exact DataW.trod_lt m _ _ _ hm
  obtain ⟨z1, hl1, hc1, w1⟩ : ∃ zs : List Int, len1 = zs.length ∧ zs.length ≤ cap1 ∧ Rdw .i64 W W.heap.size a1 zs := by
    obtain ⟨fuel, hf⟩ := h1
    rcases open_ints Try.underlying22 Try.underlying3 (by kernel_rfl) hf with ⟨hcs, _⟩ | ⟨x, l, c, zs, hcs, _, hl, hm, hz, _, hcell, hwz⟩
    · simp [Value.cells] at hcs
      obtain ⟨rfl, rfl, rfl⟩ := hcs
      exact ⟨[], rfl, Nat.le_refl _, Rdw.nil⟩
    · simp [Value.cells] at hcs
      obtain ⟨rfl, rfl, rfl⟩ := hcs
      exact ⟨zs.take len1, by simp at hz ⊢; omega, by simp at hz ⊢; omega, Rdw.of_row hl hm (by simpa using hz) hcell hwz⟩
  subst hl1
  obtain ⟨a2, rfl, rfl, rfl, w2⟩ := open_int Try.underlying3 (hval 2 3 v2 rfl rfl) h2
  clear hA0 hval0
  refine (walk W a0 cap0 z0 hc0 w0 a1 cap1 z1 hc1 w1 a2 w2).mono fun e W' ⟨he, bel⟩ => ?_
  subst he
  exact ⟨_, rfl, _, _, _, [], _, [], hW', trodAll_mk1 (shut_bool Try.underlying4 _), (trodAll_cons_mk (Below.trod laidOut (by kernel_rfl) (of_decide_eq_true (by kernel_rfl)) k0 bel lt0) (trodAll_cons_mk (Below.trod laidOut (by kernel_rfl) (of_decide_eq_true (by kernel_rfl)) k1 bel lt1) (trodAll_cons_mk (shut_int Try.underlying3 w2) trodAll_mk0))), rfl, bel.frame _, fun h => by cases h⟩

theorem over : Rows.fnExactBestFilterRow.holds Try.pinned (OpenSpec.ofChange Rows.fnExactBestFilterSpec) :=
  OpenClaim.holds_of_wide 5 Try.f5 rfl rfl rfl rfl rfl rfl rfl ⟨rfl, rfl, rfl, rfl, rfl⟩ rfl rfl rfl rfl rfl (by kernel_rfl) Try.func5 (by kernel_rfl)
    (of_decide_eq_true (by kernel_rfl)) (by unfold Func.isWrapper; first | (rw [if_pos (by decide +kernel)]; kernel_rfl) | (rw [if_neg (by decide +kernel)]; exact ⟨rfl, rfl⟩))
    (fun os started H enc _ => lifted os started H enc)

theorem proved : Rows.FnExactBestFilterSaid := over
end Go.Proofs.Ytaieialjpiojeaa.fnExactBestFilter
