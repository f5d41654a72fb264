/- Whatever the code: the drawn number has the level that the model tells; it is below the number of levels; greater numbers have no smaller levels; and the value of a level has this level. -/
import Derived.Test.YtpkeliinnkhpoaaRows
import Derived.WalkKit
import Derived.ProofKit
import Derived.OpenShut
import Derived.ShutString
import Derived.ChangeOld
import Derived.Below
import Derived.Test.YtpkeliinnkhpoaaLevel
import Derived.Test.YtpkeliinnkhpoaaDrawLevel
namespace Go.Proofs.Ytpkeliinnkhpoaa.fnLevelOf
open Go.ChangeShapes Go.WideShapes Go.ChangeAt Go.RowKit
open Go.ChangeMaps (open_string shut_string)
set_option linter.unusedVariables false

set_option maxHeartbeats 4000000 in
theorem walk (w : World) (a0 : Option Addr) (cap0 : Nat) (z0 : List Int) (hc0 : z0.length ≤ cap0) (w0 : Rdw .u8 w w.heap.size a0 z0) :
    Calls Try.prog 4 #[.slice a0 z0.length cap0] w fun e w' => e = .returned (.bool true) ∧ Below w.heap.size w w' := by
  have hm := w0.2.1
  unfold maxLen at hm
  by_cases hlen : 1048576 < z0.length
  · go_enter Try.func4, Try.ntmps4
    go_wp2
    go_ret
    exact ⟨rfl, Below.refl _ _⟩
  · go_enter Try.func4, Try.ntmps4
    go_wp2_with fail
    refine (drawLevelOf_any a0 cap0 z0 w hc0 w0).mono ?_
    rintro e w1 ⟨n, L, rfl, hn0, hn1, hL0, hL1, hb⟩
    go_wp2_with fail
    refine (i_LevelOf n L _).mono ?_
    rintro e w' ⟨rfl, rfl⟩
    go_wp2_with fail
    refine (s_LevelOf n L _).mono ?_
    rintro e w' ⟨rfl, rfl⟩
    by_cases hneg : lev n L < 0
    · go_wp2_with fail
      refine (s_LevelOf n L _).mono ?_
      rintro e w' ⟨rfl, rfl⟩
      go_wp2_with fail
      go_ret
      exact ⟨rfl, hb⟩
    · obtain ⟨h2, h3, g0, g1, f1, f1b, f2, f3⟩ := lev_law n L (by omega)
      have hk0 : 0 ≤ lev n L := by omega
      have hdiv : (255 * lev n L).tdiv (L - 1) = 255 * lev n L / (L - 1) := Int.tdiv_eq_ediv_of_nonneg (by omega)
      have hdb : 0 ≤ 255 * lev n L / (L - 1) ∧ 255 * lev n L / (L - 1) ≤ 10000 := ⟨Int.ediv_nonneg (by omega) (by omega), by have := Int.ediv_le_self (a := 255 * lev n L) (L - 1) (by omega); omega⟩
      have H3 := Lib.hid f3
      have H2 := Lib.hid f2
      clear f3 f2
      generalize lev n L = k at *
      have HD := Lib.hid hdiv
      clear hdiv
      by_cases hn : n = 9999
      · have hn' : (n == 9999) = true := by rw [hn]; rfl
        go_wp2_with fail
        (try rw [HD.out])
        refine (i_LevelOf _ L _).mono ?_
        rintro e w' ⟨rfl, rfl⟩
        rw [H3.out]
        go_wp2_with fail
        go_ret
        exact ⟨by simp, hb⟩
      · have hn' : (n == 9999) = false := beq_eq_false_iff_ne.2 hn
        have H4 := Lib.hid (H2.out (by omega))
        clear hn
        go_wp2_with fail
        refine (i_LevelOf (n + 1) L _).mono ?_
        rintro e w' ⟨rfl, rfl⟩
        have h4 := H4.out
        generalize lev (n + 1) L = k2 at *
        go_wp2_with fail
        (try rw [HD.out])
        refine (i_LevelOf _ L _).mono ?_
        rintro e w' ⟨rfl, rfl⟩
        rw [H3.out]
        go_wp2_with fail
        go_ret
        exact ⟨by simp, hb⟩

/-! ### From the walk to the statement. -/
theorem own : ownKnob Try.prog.godebug = none := by kernel_rfl
theorem laidOut : laidOutB Try.prog = true := by kernel_rfl
set_option maxRecDepth 100000 in
theorem lifted (os : Os) (started : os.Started) (H : Type) (enc : TypeId × Value → H) :
    ReturnsInHanded {} Try.checked os 4 .any (Rows.fnLevelOfSpec.pre6 enc Try.prog Try.f4 Rows.fnLevelOfRow.domain false) (Rows.fnLevelOfSpec.post enc Try.prog Try.f4 false true false false) := by
  refine returnsInHanded_of_change (C := Try.checked) own started (by kernel_rfl) Try.func4
    (ChangeSpec.witness6 (enc := enc) (C := Try.checked) false ⟨#[], #[.slice none 0 0], []⟩ 8 (by kernel_rfl) (by kernel_rfl) (by kernel_rfl) (by kernel_rfl)) ?_
  intro W base args ds gs before hval0 hW hcnd _
  have hval : ∀ (j : Nat) t v, Try.f4.params[j]? = some t → args[j]? = some v → Value.okWide Try.prog W .any base t v := hval0
  have hW' := hW
  obtain ⟨p, q, hA0, hV, rfl, hfz, hnd⟩ := hW
  have hA : DataW.TrodAll enc Try.prog W 0 (fun _ => true) true Try.f4.params.toList args.toList ds p := hA0
  rw [Try.params4] at hA hval
  obtain ⟨v0, vs0, d0, ds0, p0, q0, hargs, rfl, rfl, h0, r0⟩ := trodAll_cons hA
  obtain ⟨rfl, rfl, rfl⟩ := trodAll_nil r0
  obtain rfl : args = #[v0] := by cases args; simp_all
  obtain ⟨rfl, rfl⟩ := trodVars_none hV
  obtain ⟨a0, len0, cap0, rfl⟩ := okWide_slice Try.underlying24 (hval 0 24 v0 rfl rfl)
  have k0 := h0
  have lt0 : ∀ x ∈ p0, x.block < W.heap.size := by obtain ⟨m, hm⟩ := k0; exact DataW.trod_lt m _ _ _ hm
  obtain ⟨z0, hl0, hc0, w0⟩ : ∃ zs : List Int, len0 = zs.length ∧ zs.length ≤ cap0 ∧ Rdw .u8 W W.heap.size a0 zs := by
    obtain ⟨fuel, hf⟩ := h0
    rcases open_ints Try.underlying24 Try.underlying5 (by kernel_rfl) hf with ⟨hcs, _⟩ | ⟨x, l, c, zs, hcs, _, hl, hm, hz, _, hcell, hwz⟩
    · simp [Value.cells] at hcs
      obtain ⟨rfl, rfl, rfl⟩ := hcs
      exact ⟨[], rfl, Nat.le_refl _, Rdw.nil⟩
    · simp [Value.cells] at hcs
      obtain ⟨rfl, rfl, rfl⟩ := hcs
      exact ⟨zs.take len0, by simp at hz ⊢; omega, by simp at hz ⊢; omega, Rdw.of_row hl hm (by simpa using hz) hcell hwz⟩
  subst hl0
  clear hA0 hval0
  refine (walk W a0 cap0 z0 hc0 w0).mono fun e W' ⟨he, bel⟩ => ?_
  subst he
  exact ⟨_, rfl, _, _, _, [], _, [], hW', trodAll_mk1 (shut_bool Try.underlying4 _), (trodAll_cons_mk (Below.trod laidOut (by kernel_rfl) (of_decide_eq_true (by kernel_rfl)) k0 bel lt0) trodAll_mk0), rfl, bel.frame _, fun h => by cases h⟩

theorem over : Rows.fnLevelOfRow.holds Try.pinned (OpenSpec.ofChange Rows.fnLevelOfSpec) :=
  OpenClaim.holds_of_wide 4 Try.f4 rfl rfl rfl rfl rfl rfl rfl ⟨rfl, rfl, rfl, rfl, rfl⟩ rfl rfl rfl rfl rfl (by kernel_rfl) Try.func4 (by kernel_rfl)
    (of_decide_eq_true (by kernel_rfl)) (by unfold Func.isWrapper; first | (rw [if_pos (by decide +kernel)]; kernel_rfl) | (rw [if_neg (by decide +kernel)]; exact ⟨rfl, rfl⟩))
    (fun os started H enc _ => lifted os started H enc)

theorem proved : Rows.FnLevelOfSaid := over
end Go.Proofs.Ytpkeliinnkhpoaa.fnLevelOf
