/- Whatever the code: screens are inverted products of inverted numbers. -/
import Derived.Test.YtakloadpmpffdaaRows
import Derived.WalkKit
import Derived.ProofKit
import Derived.OpenShut
import Derived.ShutString
import Derived.ChangeOld
import Derived.Below
import Derived.Test.YtakloadpmpffdaaBlend
import Derived.Test.YtakloadpmpffdaaDrawBlend
namespace Go.Proofs.Ytakloadpmpffdaa.fnBlendNumberInvert
open Go.ChangeShapes Go.WideShapes Go.ChangeAt Go.RowKit
open Go.ChangeMaps (open_string shut_string)
set_option linter.unusedVariables false

set_option maxHeartbeats 4000000 in
theorem walk (w : World) (a0 : Option Addr) (cap0 : Nat) (z0 : List Int) (hc0 : z0.length ≤ cap0) (w0 : Rdw .u8 w w.heap.size a0 z0) :
    Calls Try.prog 5 #[.slice a0 z0.length cap0] w fun e w' => e = .returned (.bool true) ∧ Below w.heap.size w w' := by
  have hm := w0.2.1
  unfold maxLen at hm
  by_cases hlen : 1048576 < z0.length
  · go_enter Try.func5, Try.ntmps5
    go_wp2
    go_ret
    exact ⟨rfl, Below.refl _ _⟩
  · go_enter Try.func5, Try.ntmps5
    go_wp2_with fail
    refine (drawBlend_any a0 cap0 z0 w hc0 w0).mono ?_
    rintro e w1 ⟨m, a, b, al, rfl, ⟨hm0, hm1⟩, ⟨ha0, ha1⟩, ⟨hb0, hb1⟩, ⟨hl0, hl1⟩, hb⟩
    go_wp2_with fail
    refine (i_BlendNumber m a b al _).mono ?_
    rintro e w2 ⟨rfl, hB2⟩
    have hb2 := bch hb hB2
    go_wp2_with fail
    refine (s_BlendNumber m a b al _).mono ?_
    rintro e w3 ⟨rfl, hB3⟩
    have hb3 := bch hb2 hB3
    clear hb hb2 hB2 hB3
    by_cases hneg : bln m a b al < 0
    · go_wp2_with fail
      refine (s_BlendNumber m a b al _).mono ?_
      rintro e w4 ⟨rfl, hB4⟩
      have hb4 := bch hb3 hB4
      go_wp2_with fail
      go_ret
      exact ⟨rfl, hb4⟩
    · obtain ⟨⟨h0, h4⟩, ⟨a0', a1'⟩, ⟨b0', b1'⟩, ⟨l0, l1⟩, _, _, _, _, _⟩ := bln_law hneg
      have H1 := Lib.hid ((bln_full (m := 2) (by omega) (by omega) a0' a1' b0' b1').trans (mix_inv a b))
      have H2 := Lib.hid (bln_full (m := 1) (a := 255 - a) (b := 255 - b) (by omega) (by omega) (by omega) (by omega) (by omega) (by omega))
      have hx := mix_bd 1 (a := 255 - a) (b := 255 - b) (by omega) (by omega) (by omega) (by omega)
      generalize bln m a b al = n at *
      generalize mixv 1 (255 - a) (255 - b) = X at *
      go_wp2_with fail
      refine (i_BlendNumber 2 a b 255 _).mono ?_
      rintro e w4 ⟨rfl, hB4⟩
      have hb4 := bch hb3 hB4
      clear hb3 hB4
      rw [H1.out]
      go_wp2_with fail
      refine (i_BlendNumber 1 (255 - a) (255 - b) 255 _).mono ?_
      rintro e w5 ⟨rfl, hB5⟩
      have hb5 := bch hb4 hB5
      clear hb4 hB5
      rw [H2.out]
      go_wp2_with fail
      go_ret
      exact ⟨by simp <;> omega, hb5⟩

/-! ### From the walk to the statement. -/
theorem own : ownKnob Try.prog.godebug = none := by kernel_rfl
theorem laidOut : laidOutB Try.prog = true := by kernel_rfl
set_option maxRecDepth 100000 in
theorem lifted (os : Os) (started : os.Started) (H : Type) (enc : TypeId × Value → H) :
    ReturnsInHanded {} Try.checked os 5 .any (Rows.fnBlendNumberInvertSpec.pre6 enc Try.prog Try.f5 Rows.fnBlendNumberInvertRow.domain false) (Rows.fnBlendNumberInvertSpec.post enc Try.prog Try.f5 false true false false) := by
  refine returnsInHanded_of_change (C := Try.checked) own started (by kernel_rfl) Try.func5
    (ChangeSpec.witness6 (enc := enc) (C := Try.checked) false ⟨#[], #[.slice none 0 0], []⟩ 8 (by kernel_rfl) (by kernel_rfl) (by kernel_rfl) (by kernel_rfl)) ?_
  intro W base args ds gs before hval0 hW hcnd _
  have hval : ∀ (j : Nat) t v, Try.f5.params[j]? = some t → args[j]? = some v → Value.okWide Try.prog W .any base t v := hval0
  have hW' := hW
  obtain ⟨p, q, hA0, hV, rfl, hfz, hnd⟩ := hW
  have hA : DataW.TrodAll enc Try.prog W 0 (fun _ => true) true Try.f5.params.toList args.toList ds p := hA0
  rw [Try.params5] at hA hval
  obtain ⟨v0, vs0, d0, ds0, p0, q0, hargs, rfl, rfl, h0, r0⟩ := trodAll_cons hA
  obtain ⟨rfl, rfl, rfl⟩ := trodAll_nil r0
  obtain rfl : args = #[v0] := by cases args; simp_all
  obtain ⟨rfl, rfl⟩ := trodVars_none hV
  obtain ⟨a0, len0, cap0, rfl⟩ := okWide_slice Try.underlying22 (hval 0 22 v0 rfl rfl)
  have k0 := h0
  have lt0 : ∀ x ∈ p0, x.block < W.heap.size := by obtain ⟨m, hm⟩ := k0; exact DataW.trod_lt m _ _ _ hm
  obtain ⟨z0, hl0, hc0, w0⟩ : ∃ zs : List Int, len0 = zs.length ∧ zs.length ≤ cap0 ∧ Rdw .u8 W W.heap.size a0 zs := by
    obtain ⟨fuel, hf⟩ := h0
    rcases open_ints Try.underlying22 Try.underlying5 (by kernel_rfl) hf with ⟨hcs, _⟩ | ⟨x, l, c, zs, hcs, _, hl, hm, hz, _, hcell, hwz⟩
    · simp [Value.cells] at hcs
      obtain ⟨rfl, rfl, rfl⟩ := hcs
      exact ⟨[], rfl, Nat.le_refl _, Rdw.nil⟩
    · simp [Value.cells] at hcs
      obtain ⟨rfl, rfl, rfl⟩ := hcs
      exact ⟨zs.take len0, by simp at hz ⊢; omega, by simp at hz ⊢; omega, Rdw.of_row hl hm (by simpa using hz) hcell hwz⟩
  subst hl0
  clear hA0 hval0
  refine (walk W a0 cap0 z0 hc0 w0).mono fun e W' ⟨he, bel⟩ => ?_
  subst he
  exact ⟨_, rfl, _, _, _, [], _, [], hW', trodAll_mk1 (shut_bool Try.underlying4 _), (trodAll_cons_mk (Below.trod laidOut (by kernel_rfl) (of_decide_eq_true (by kernel_rfl)) k0 bel lt0) trodAll_mk0), rfl, bel.frame _, fun h => by cases h⟩

theorem over : Rows.fnBlendNumberInvertRow.holds Try.pinned (OpenSpec.ofChange Rows.fnBlendNumberInvertSpec) :=
  OpenClaim.holds_of_wide 5 Try.f5 rfl rfl rfl rfl rfl rfl rfl ⟨rfl, rfl, rfl, rfl, rfl⟩ rfl rfl rfl rfl rfl (by kernel_rfl) Try.func5 (by kernel_rfl)
    (of_decide_eq_true (by kernel_rfl)) (by unfold Func.isWrapper; first | (rw [if_pos (by decide +kernel)]; kernel_rfl) | (rw [if_neg (by decide +kernel)]; exact ⟨rfl, rfl⟩))
    (fun os started H enc _ => lifted os started H enc)

theorem proved : Rows.FnBlendNumberInvertSaid := over
end Go.Proofs.Ytakloadpmpffdaa.fnBlendNumberInvert
