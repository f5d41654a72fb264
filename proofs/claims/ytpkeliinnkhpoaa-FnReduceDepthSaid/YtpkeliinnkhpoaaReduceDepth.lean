/- Whatever the code: the number and depth drawn from it are reduced as the model reduces them, expanding gives the nearest number, and reducing keeps the order. -/
import Derived.Test.YtpkeliinnkhpoaaRows
import Derived.WalkKit
import Derived.ProofKit
import Derived.OpenShut
import Derived.ShutString
import Derived.ChangeOld
import Derived.Below
import Derived.Test.YtpkeliinnkhpoaaDepthA
import Derived.Test.YtpkeliinnkhpoaaDraw3
namespace Go.Proofs.Ytpkeliinnkhpoaa.fnReduceDepth
open Go.ChangeShapes Go.WideShapes Go.ChangeAt Go.RowKit
open Go.ChangeMaps (open_string shut_string)
set_option linter.unusedVariables false

theorem red_facts (n d : Int) (h : d = 1 ∨ d = 2 ∨ d = 4 ∨ d = 8) (h0 : 0 ≤ n) (h1 : n ≤ 255) :
    0 ≤ red n d ∧ 0 ≤ exd (red n d) d ∧ exd (red n d) d ≤ 255 ∧ 2 * absI (exd (red n d) d - n) * top d ≤ 255 ∧ (n < 255 → red n d ≤ red (n + 1) d) := by
  rcases h with rfl | rfl | rfl | rfl
  all_goals
    simp only [red, exd, vd, top, absI]
    simp [h0, h1]
    refine ⟨by omega, ?_⟩
    rw [if_pos (by omega)]
    refine ⟨by omega, by omega, ?_, fun h => ?_⟩
    · split <;> omega
    · rw [if_pos (by omega)]; omega
theorem red_neg (n d : Int) (h : ¬ ((d = 1 ∨ d = 2 ∨ d = 4 ∨ d = 8) ∧ 0 ≤ n ∧ n ≤ 255)) : red n d < 0 := by
  unfold red
  rw [if_neg (by simp [vd]; omega)]
  omega
set_option maxHeartbeats 2000000 in
theorem walk (w : World) (a0 : Option Addr) (cap0 : Nat) (z0 : List Int) (hc0 : z0.length ≤ cap0) (w0 : Rdw .u8 w w.heap.size a0 z0) :
    Calls Try.prog 11 #[.slice a0 z0.length cap0] w fun e w' => e = .returned (.bool true) ∧ Below w.heap.size w w' := by
  have hm := w0.2.1
  unfold maxLen at hm
  by_cases hlen : 1048576 < z0.length
  · go_enter Try.func11, Try.ntmps11
    go_wp2
    go_ret
    exact ⟨rfl, Below.refl _ _⟩
  · go_enter Try.func11, Try.ntmps11
    go_wp2_with fail
    refine (drawReduceDepth_any a0 cap0 z0 w hc0 w0).mono ?_
    rintro e w1 ⟨n, d, rfl, hn0, hn1, hd0, hd1, hb⟩
    go_wp2_with fail
    refine (i_reduce n d _).mono ?_
    rintro e w' ⟨rfl, rfl⟩
    go_wp2_with fail
    refine (s_reduce n d _).mono ?_
    rintro e w' ⟨rfl, rfl⟩
    by_cases hv : (d = 1 ∨ d = 2 ∨ d = 4 ∨ d = 8) ∧ 0 ≤ n ∧ n ≤ 255
    · obtain ⟨hd, h0, h1⟩ := hv
      obtain ⟨f1, f2, f3, f4, f5⟩ := red_facts n d hd h0 h1
      by_cases hn : n = 255
      · rcases hd with rfl | rfl | rfl | rfl
        all_goals
          simp only [top] at f4
          simp at f4
          subst hn
          clear f5 hd0 hd1 hn0 hn1 h0 h1
          generalize hk : red 255 _ = k at *
          have Hk := Lib.hid hk
          clear hk
          generalize hx : exd k _ = x at *
          have Hx := Lib.hid hx
          clear hx
          go_wp2_with fail
          refine (i_expand k _ _).mono ?_
          rintro e w' ⟨rfl, rfl⟩
          rw [Hx.out]
          go_wp2_with fail
          refine (absolute_any _ _ (by omega) (by omega)).mono ?_
          rintro e w' ⟨rfl, rfl⟩
          have ha := absI_bd (x - 255) (by omega) (by omega)
          go_wp2_with fail
          go_ret
          exact ⟨rfl, hb⟩
      · have hn' : (n == 255) = false := beq_eq_false_iff_ne.2 hn
        have f6 := f5 (by omega)
        clear f5
        rcases hd with rfl | rfl | rfl | rfl
        all_goals
          simp only [top] at f4
          simp at f4
          clear hd0 hd1 hn0 hn1 hn
          generalize hk : red n _ = k at *
          have Hk := Lib.hid hk
          clear hk
          generalize hx : exd k _ = x at *
          have Hx := Lib.hid hx
          clear hx
          go_wp2_with fail
          refine (i_expand k _ _).mono ?_
          rintro e w' ⟨rfl, rfl⟩
          rw [Hx.out]
          go_wp2_with fail
          refine (absolute_any _ _ (by omega) (by omega)).mono ?_
          rintro e w' ⟨rfl, rfl⟩
          have ha := absI_bd (x - n) (by omega) (by omega)
          go_wp2_with fail
          refine (i_reduce (n + 1) _ _).mono ?_
          rintro e w' ⟨rfl, rfl⟩
          go_wp2_with fail
          go_ret
          exact ⟨rfl, hb⟩
    · have hneg := red_neg n d hv
      clear hv
      go_wp2_with fail
      refine (s_reduce n d _).mono ?_
      rintro e w' ⟨rfl, rfl⟩
      go_wp2_with fail
      go_ret
      exact ⟨rfl, hb⟩

/-! ### From the walk to the statement. -/
theorem own : ownKnob Try.prog.godebug = none := by kernel_rfl
theorem laidOut : laidOutB Try.prog = true := by kernel_rfl
set_option maxRecDepth 100000 in
theorem lifted (os : Os) (started : os.Started) (H : Type) (enc : TypeId × Value → H) :
    ReturnsInHanded {} Try.checked os 11 .any (Rows.fnReduceDepthSpec.pre6 enc Try.prog Try.f11 Rows.fnReduceDepthRow.domain false) (Rows.fnReduceDepthSpec.post enc Try.prog Try.f11 false true false false) := by
  refine returnsInHanded_of_change (C := Try.checked) own started (by kernel_rfl) Try.func11
    (ChangeSpec.witness6 (enc := enc) (C := Try.checked) false ⟨#[], #[.slice none 0 0], []⟩ 8 (by kernel_rfl) (by kernel_rfl) (by kernel_rfl) (by kernel_rfl)) ?_
  intro W base args ds gs before hval0 hW hcnd _
  have hval : ∀ (j : Nat) t v, Try.f11.params[j]? = some t → args[j]? = some v → Value.okWide Try.prog W .any base t v := hval0
  have hW' := hW
  obtain ⟨p, q, hA0, hV, rfl, hfz, hnd⟩ := hW
  have hA : DataW.TrodAll enc Try.prog W 0 (fun _ => true) true Try.f11.params.toList args.toList ds p := hA0
  rw [Try.params11] at hA hval
  obtain ⟨v0, vs0, d0, ds0, p0, q0, hargs, rfl, rfl, h0, r0⟩ := trodAll_cons hA
  obtain ⟨rfl, rfl, rfl⟩ := trodAll_nil r0
  obtain rfl : args = #[v0] := by cases args; simp_all
  obtain ⟨rfl, rfl⟩ := trodVars_none hV
  obtain ⟨a0, len0, cap0, rfl⟩ := okWide_slice Try.underlying24 (hval 0 24 v0 rfl rfl)
  have k0 := h0
  have lt0 : ∀ x ∈ p0, x.block < W.heap.size := by obtain ⟨m, hm⟩ := k0; exact DataW.trod_lt m _ _ _ hm
  obtain ⟨z0, hl0, hc0, w0⟩ : ∃ zs : List Int, len0 = zs.length ∧ zs.length ≤ cap0 ∧ Rdw .u8 W W.heap.size a0 zs := by
    obtain ⟨fuel, hf⟩ := h0
    rcases open_ints Try.underlying24 Try.underlying5 (by kernel_rfl) hf with ⟨hcs, _⟩ | ⟨x, l, c, zs, hcs, _, hl, hm, hz, _, hcell, hwz⟩
    · simp [Value.cells] at hcs
      obtain ⟨rfl, rfl, rfl⟩ := hcs
      exact ⟨[], rfl, Nat.le_refl _, Rdw.nil⟩
    · simp [Value.cells] at hcs
      obtain ⟨rfl, rfl, rfl⟩ := hcs
      exact ⟨zs.take len0, by simp at hz ⊢; omega, by simp at hz ⊢; omega, Rdw.of_row hl hm (by simpa using hz) hcell hwz⟩
  subst hl0
  clear hA0 hval0
  refine (walk W a0 cap0 z0 hc0 w0).mono fun e W' ⟨he, bel⟩ => ?_
  subst he
  exact ⟨_, rfl, _, _, _, [], _, [], hW', trodAll_mk1 (shut_bool Try.underlying4 _), (trodAll_cons_mk (Below.trod laidOut (by kernel_rfl) (of_decide_eq_true (by kernel_rfl)) k0 bel lt0) trodAll_mk0), rfl, bel.frame _, fun h => by cases h⟩

theorem over : Rows.fnReduceDepthRow.holds Try.pinned (OpenSpec.ofChange Rows.fnReduceDepthSpec) :=
  OpenClaim.holds_of_wide 11 Try.f11 rfl rfl rfl rfl rfl rfl rfl ⟨rfl, rfl, rfl, rfl, rfl⟩ rfl rfl rfl rfl rfl (by kernel_rfl) Try.func11 (by kernel_rfl)
    (of_decide_eq_true (by kernel_rfl)) (by unfold Func.isWrapper; first | (rw [if_pos (by decide +kernel)]; kernel_rfl) | (rw [if_neg (by decide +kernel)]; exact ⟨rfl, rfl⟩))
    (fun os started H enc _ => lifted os started H enc)

theorem proved : Rows.FnReduceDepthSaid := over
end Go.Proofs.Ytpkeliinnkhpoaa.fnReduceDepth
