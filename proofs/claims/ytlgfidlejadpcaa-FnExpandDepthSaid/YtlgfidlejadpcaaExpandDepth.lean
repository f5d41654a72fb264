/- Whatever the code: the number and depth drawn from it are expanded as the model expands them, reducing gives the number back, 0 stays 0 and the greatest number becomes 255. -/
import Derived.Test.YtlgfidlejadpcaaRows
import Derived.WalkKit
import Derived.ProofKit
import Derived.OpenShut
import Derived.ShutString
import Derived.ChangeOld
import Derived.Below
import Derived.Test.YtlgfidlejadpcaaDepthA
import Derived.Test.YtlgfidlejadpcaaDraw3
namespace Go.Proofs.Ytlgfidlejadpcaa.fnExpandDepth
open Go.ChangeShapes Go.WideShapes Go.ChangeAt Go.RowKit
open Go.ChangeMaps (open_string shut_string)
set_option linter.unusedVariables false

theorem exd_facts (n d : Int) (h : d = 1 ∨ d = 2 ∨ d = 4 ∨ d = 8) (h0 : 0 ≤ n) (h1 : n ≤ top d) :
    0 ≤ exd n d ∧ red (exd n d) d = n := by
  rcases h with rfl | rfl | rfl | rfl
  all_goals
    simp [top] at h1
    simp only [red, exd, vd, top]
    simp [h0, h1]
    first
      | (refine ⟨by omega, ?_⟩; split <;> omega)
      | (split <;> omega)
      | omega
theorem exd_zero (d : Int) (h : d = 1 ∨ d = 2 ∨ d = 4 ∨ d = 8) : exd 0 d = 0 ∧ exd (top d) d = 255 := by
  rcases h with rfl | rfl | rfl | rfl <;> decide
theorem exd_neg (n d : Int) (h : ¬ ((d = 1 ∨ d = 2 ∨ d = 4 ∨ d = 8) ∧ 0 ≤ n ∧ n ≤ top d)) : exd n d < 0 := by
  unfold exd
  rw [if_neg (by simp [vd]; omega)]
  omega
set_option maxHeartbeats 2000000 in
theorem walk (w : World) (a0 : Option Addr) (cap0 : Nat) (z0 : List Int) (hc0 : z0.length ≤ cap0) (w0 : Rdw .u8 w w.heap.size a0 z0) :
    Calls Try.prog 6 #[.slice a0 z0.length cap0] w fun e w' => e = .returned (.bool true) ∧ Below w.heap.size w w' := by
  have hm := w0.2.1
  unfold maxLen at hm
  by_cases hlen : 1048576 < z0.length
  · go_enter Try.func6, Try.ntmps6
    go_wp2
    go_ret
    exact ⟨rfl, Below.refl _ _⟩
  · go_enter Try.func6, Try.ntmps6
    go_wp2_with fail
    refine (drawExpandDepth_any a0 cap0 z0 w hc0 w0).mono ?_
    rintro e w1 ⟨n, d, rfl, hn0, hn1, hd0, hd1, hb⟩
    go_wp2_with fail
    refine (i_expand n d _).mono ?_
    rintro e w' ⟨rfl, rfl⟩
    go_wp2_with fail
    refine (s_expand n d _).mono ?_
    rintro e w' ⟨rfl, rfl⟩
    by_cases hv : (d = 1 ∨ d = 2 ∨ d = 4 ∨ d = 8) ∧ 0 ≤ n ∧ n ≤ top d
    · obtain ⟨hd, h0, h1⟩ := hv
      obtain ⟨f1, f2⟩ := exd_facts n d hd h0 h1
      obtain ⟨f3, f4⟩ := exd_zero d hd
      have F2 := Lib.hid f2
      have F3 := Lib.hid f3
      have F4 := Lib.hid f4
      clear f2 f3 f4 h0 h1 hn0 hn1 hd0 hd1
      rcases hd with rfl | rfl | rfl | rfl
      all_goals
        go_wp2_with fail
        refine (i_reduce _ _ _).mono ?_
        rintro e w' ⟨rfl, rfl⟩
        rw [F2.out]
        go_wp2_with fail
        refine (i_expand 0 _ _).mono ?_
        rintro e w' ⟨rfl, rfl⟩
        rw [F3.out]
        go_wp2_with fail
        refine (i_expand _ _ _).mono ?_
        rintro e w' ⟨rfl, rfl⟩
        have F5 := F4.out
        simp only [top] at F5
        simp at F5
        rw [F5]
        clear F5
        go_wp2_with fail
        go_ret
        exact ⟨rfl, hb⟩
    · have hneg := exd_neg n d hv
      clear hv
      go_wp2_with fail
      refine (s_expand n d _).mono ?_
      rintro e w' ⟨rfl, rfl⟩
      go_wp2_with fail
      go_ret
      exact ⟨rfl, hb⟩

/-! ### From the walk to the statement. -/
theorem own : ownKnob Try.prog.godebug = none := by kernel_rfl
theorem laidOut : laidOutB Try.prog = true := by kernel_rfl
set_option maxRecDepth 100000 in
theorem lifted (os : Os) (started : os.Started) (H : Type) (enc : TypeId × Value → H) :
    ReturnsInHanded {} Try.checked os 6 .any (Rows.fnExpandDepthSpec.pre6 enc Try.prog Try.f6 Rows.fnExpandDepthRow.domain false) (Rows.fnExpandDepthSpec.post enc Try.prog Try.f6 false true false false) := by
  refine returnsInHanded_of_change (C := Try.checked) own started (by kernel_rfl) Try.func6
    (ChangeSpec.witness6 (enc := enc) (C := Try.checked) false ⟨#[], #[.slice none 0 0], []⟩ 8 (by kernel_rfl) (by kernel_rfl) (by kernel_rfl) (by kernel_rfl)) ?_
  intro W base args ds gs before hval0 hW hcnd _
  have hval : ∀ (j : Nat) t v, Try.f6.params[j]? = some t → args[j]? = some v → Value.okWide Try.prog W .any base t v := hval0
  have hW' := hW
  obtain ⟨p, q, hA0, hV, rfl, hfz, hnd⟩ := hW
  have hA : DataW.TrodAll enc Try.prog W 0 (fun _ => true) true Try.f6.params.toList args.toList ds p := hA0
  rw [Try.params6] at hA hval
  obtain ⟨v0, vs0, d0, ds0, p0, q0, hargs, rfl, rfl, h0, r0⟩ := trodAll_cons hA
  obtain ⟨rfl, rfl, rfl⟩ := trodAll_nil r0
  obtain rfl : args = #[v0] := by cases args; simp_all
  obtain ⟨rfl, rfl⟩ := trodVars_none hV
  obtain ⟨a0, len0, cap0, rfl⟩ := okWide_slice Try.underlying24 (hval 0 24 v0 rfl rfl)
  have k0 := h0
  have lt0 : ∀ x ∈ p0, x.block < W.heap.size := by obtain ⟨m, hm⟩ := k0; exact DataW.trod_lt m _ _ _ hm
  obtain ⟨z0, hl0, hc0, w0⟩ : ∃ zs : List Int, len0 = zs.length ∧ zs.length ≤ cap0 ∧ Rdw .u8 W W.heap.size a0 zs := by
    obtain ⟨fuel, hf⟩ := h0
    rcases open_ints Try.underlying24 Try.underlying5 (by kernel_rfl) hf with ⟨hcs, _⟩ | ⟨x, l, c, zs, hcs, _, hl, hm, hz, _, hcell, hwz⟩
    · simp [Value.cells] at hcs
      obtain ⟨rfl, rfl, rfl⟩ := hcs
      exact ⟨[], rfl, Nat.le_refl _, Rdw.nil⟩
    · simp [Value.cells] at hcs
      obtain ⟨rfl, rfl, rfl⟩ := hcs
      exact ⟨zs.take len0, by simp at hz ⊢; omega, by simp at hz ⊢; omega, Rdw.of_row hl hm (by simpa using hz) hcell hwz⟩
  subst hl0
  clear hA0 hval0
  refine (walk W a0 cap0 z0 hc0 w0).mono fun e W' ⟨he, bel⟩ => ?_
  subst he
  exact ⟨_, rfl, _, _, _, [], _, [], hW', trodAll_mk1 (shut_bool Try.underlying4 _), (trodAll_cons_mk (Below.trod laidOut (by kernel_rfl) (of_decide_eq_true (by kernel_rfl)) k0 bel lt0) trodAll_mk0), rfl, bel.frame _, fun h => by cases h⟩

theorem over : Rows.fnExpandDepthRow.holds Try.pinned (OpenSpec.ofChange Rows.fnExpandDepthSpec) :=
  OpenClaim.holds_of_wide 6 Try.f6 rfl rfl rfl rfl rfl rfl rfl ⟨rfl, rfl, rfl, rfl, rfl⟩ rfl rfl rfl rfl rfl (by kernel_rfl) Try.func6 (by kernel_rfl)
    (of_decide_eq_true (by kernel_rfl)) (by unfold Func.isWrapper; first | (rw [if_pos (by decide +kernel)]; kernel_rfl) | (rw [if_neg (by decide +kernel)]; exact ⟨rfl, rfl⟩))
    (fun os started H enc _ => lifted os started H enc)

theorem proved : Rows.FnExpandDepthSaid := over
end Go.Proofs.Ytlgfidlejadpcaa.fnExpandDepth
