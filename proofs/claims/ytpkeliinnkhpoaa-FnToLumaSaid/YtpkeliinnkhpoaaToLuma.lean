/- Whatever the code: ToLuma of the drawn pixel answers what the model answers, and where it is not empty, FromLuma leads back to the pixel, and the luma is a byte. -/
import Derived.Test.YtpkeliinnkhpoaaRows
import Derived.WalkKit
import Derived.ProofKit
import Derived.OpenShut
import Derived.ShutString
import Derived.ChangeOld
import Derived.Below
import Derived.Test.YtpkeliinnkhpoaaLumaI
import Derived.Test.YtpkeliinnkhpoaaDrawLuma
import Derived.Test.YtpkeliinnkhpoaaExact
namespace Go.Proofs.Ytpkeliinnkhpoaa.fnToLuma
open Go.ChangeShapes Go.WideShapes Go.ChangeAt Go.RowKit
open Go.ChangeMaps (open_string shut_string)
set_option linter.unusedVariables false

set_option maxHeartbeats 8000000 in
theorem walk (w : World) (a0 : Option Addr) (cap0 : Nat) (z0 : List Int) (hc0 : z0.length ≤ cap0) (w0 : Rdw .u8 w w.heap.size a0 z0) :
    Calls Try.prog 7 #[.slice a0 z0.length cap0] w fun e w' => e = .returned (.bool true) ∧ Below w.heap.size w w' := by
  have hm := w0.2.1
  unfold maxLen at hm
  by_cases hlen : 1048576 < z0.length
  · go_enter Try.func7, Try.ntmps7
    go_wp2
    go_ret
    exact ⟨rfl, Below.refl _ _⟩
  · go_enter Try.func7, Try.ntmps7
    go_wp2_with fail
    refine (drawToLuma_any a0 cap0 z0 w hc0 w0).mono ?_
    rintro e w1 ⟨A, c, xs, rfl, hxl, hX, hbel⟩
    have HX := Lib.hid hX
    have S0 := St.start w1
    clear hX w0
    go_wp2_with fail
    refine (i_ToLuma A c xs w1 (S0.arg HX.out) (by omega)).mono ?_
    rintro e w2 ⟨v2, rfl, hO2, hB2⟩
    obtain ⟨A2, c2, rfl, _⟩ := hO2.slice
    have S2 := S0.add hO2 hB2
    clear S0 hO2 hB2
    go_wp2_with fail
    refine (s_ToLuma A c xs w2 (S2.arg HX.out) (by omega)).mono ?_
    rintro e w3 ⟨v3, rfl, hO3, hB3⟩
    obtain ⟨A3, c3, rfl, _⟩ := hO3.slice
    have S3 := S2.add hO3 hB3
    clear S2 hO3 hB3
    go_wp2_with fail
    refine (lEqualInts_any A2 A3 c2 c3 (lum xs) (lum xs) _ _ w3 (S3.rds (lo := w1.heap.size) (hi := w2.heap.size) (n := (lum xs).length) (c := c2) (by simp)) (S3.rds (lo := w2.heap.size) (hi := w3.heap.size) (n := (lum xs).length) (c := c3) (by simp)) (by first | omega | (simp; done) | (have := lum_len xs; omega) | (have := frl_len xs; omega)) (by first | omega | (simp; done) | (have := lum_len xs; omega) | (have := frl_len xs; omega))).mono ?_
    rintro e w4 ⟨rfl, n4, rfl⟩
    have S4 := S3.drewN n4
    clear S3
    generalize hw4 : w3.drewN n4 = w4 at *
    clear hw4
    by_cases h0 : lum xs = []
    · have h0' : (((lum xs).length : Int) == 0) = true := by rw [h0]; rfl
      have H0 := Lib.hid h0
      clear h0
      go_wp2_with fail
      refine (s_ToLuma A c xs w4 (S4.arg HX.out) (by omega)).mono ?_
      rintro e w5 ⟨v5, rfl, hO5, hB5⟩
      obtain ⟨A5, c5, rfl, _⟩ := hO5.slice
      have S5 := S4.add hO5 hB5
      clear S4 hO5 hB5
      go_wp2_with fail
      refine (lEqualInts_any A2 A5 c2 c5 (lum xs) (lum xs) _ _ w5 (S5.rds (lo := w1.heap.size) (hi := w2.heap.size) (n := (lum xs).length) (c := c2) (by simp)) (S5.rds (lo := w4.heap.size) (hi := w5.heap.size) (n := (lum xs).length) (c := c5) (by simp)) (by first | omega | (simp; done) | (have := lum_len xs; omega) | (have := frl_len xs; omega)) (by first | omega | (simp; done) | (have := lum_len xs; omega) | (have := frl_len xs; omega))).mono ?_
      rintro e w6 ⟨rfl, n6, rfl⟩
      have S6 := S5.drewN n6
      clear S5
      generalize hw6 : w5.drewN n6 = w6 at *
      clear hw6
      go_wp2
      go_ret
      exact ⟨by simp, hbel.trans (S6.below.mono hbel.size)⟩
    · obtain ⟨b1, b2, b3, b4, b5, b6⟩ := lum_back h0
      have hne : (((lum xs).length : Int) == 0) = false := beq_eq_false_iff_ne.2 (by omega)
      have hne3 : (((lum xs).length : Int) == 3) = true := by rw [b3]; rfl
      have H3 := Lib.hid b3
      have HB := Lib.hid b2
      have HB1 := Lib.hid b1
      have hfl : (frl (lum xs)).length ≤ 3 := frl_len _
      clear b1 b2 b3 b6 h0
      go_wp2_with fail
      refine (i_FromLuma A2 c2 (lum xs) w4 (S4.rds (lo := w1.heap.size) (hi := w2.heap.size) (n := (lum xs).length) (c := c2) (by simp)) (by first | omega | (have := lum_len xs; omega))).mono ?_
      rintro e w5 ⟨v5, rfl, hO5, hB5⟩
      obtain ⟨A5, c5, rfl, _⟩ := hO5.slice
      have S5 := S4.add hO5 hB5
      clear S4 hO5 hB5
      rw [HB1.out]
      have hdec : decide (frl (lum xs) = xs) = true := decide_eq_true HB.out
      go_wp2_with fail
      refine (lEqualInts_any A5 A c5 c (frl (lum xs)) (xs) _ _ w5 (S5.rds (lo := w4.heap.size) (hi := w5.heap.size) (n := (frl (lum xs)).length) (c := c5) (by simp)) (S5.arg HX.out) (by first | omega | (have := lum_len xs; omega)) (by first | omega | (have := lum_len xs; omega))).mono ?_
      rintro e w6 ⟨rfl, n6, rfl⟩
      have S6 := S5.drewN n6
      clear S5
      generalize hw6 : w5.drewN n6 = w6 at *
      clear hw6
      rw [hdec]
      obtain ⟨bq, oq, hAq, hbq, hcq⟩ := ((S6.rds (lo := w1.heap.size) (hi := w2.heap.size) (n := (lum xs).length) (c := c2) (A := A2) (xs := lum xs) (by simp)).cells_ (j := 0) (by have := H3.out; omega))
      have hc0 : w6.cell? ⟨bq, oq, none⟩ = some (.int .i64 ((lum xs).getD 0 0)) := hcq 0 (by have := H3.out; omega)
      subst hAq
      have hl3 := H3.out
      clear hcq hne hne3 HB HB1 H3 hfl hdec
      generalize (lum xs).getD 0 0 = y0 at *
      generalize (lum xs).length = ln at *
      subst hl3
      go_wp2
      go_ret
      exact ⟨by simp, hbel.trans (S6.below.mono hbel.size)⟩

/-! ### From the walk to the statement. -/
theorem own : ownKnob Try.prog.godebug = none := by kernel_rfl
theorem laidOut : laidOutB Try.prog = true := by kernel_rfl
set_option maxRecDepth 100000 in
theorem lifted (os : Os) (started : os.Started) (H : Type) (enc : TypeId × Value → H) :
    ReturnsInHanded {} Try.checked os 7 .any (Rows.fnToLumaSpec.pre6 enc Try.prog Try.f7 Rows.fnToLumaRow.domain false) (Rows.fnToLumaSpec.post enc Try.prog Try.f7 false true false false) := by
  refine returnsInHanded_of_change (C := Try.checked) own started (by kernel_rfl) Try.func7
    (ChangeSpec.witness6 (enc := enc) (C := Try.checked) false ⟨#[], #[.slice none 0 0], []⟩ 8 (by kernel_rfl) (by kernel_rfl) (by kernel_rfl) (by kernel_rfl)) ?_
  intro W base args ds gs before hval0 hW hcnd _
  have hval : ∀ (j : Nat) t v, Try.f7.params[j]? = some t → args[j]? = some v → Value.okWide Try.prog W .any base t v := hval0
  have hW' := hW
  obtain ⟨p, q, hA0, hV, rfl, hfz, hnd⟩ := hW
  have hA : DataW.TrodAll enc Try.prog W 0 (fun _ => true) true Try.f7.params.toList args.toList ds p := hA0
  rw [Try.params7] at hA hval
  obtain ⟨v0, vs0, d0, ds0, p0, q0, hargs, rfl, rfl, h0, r0⟩ := trodAll_cons hA
  obtain ⟨rfl, rfl, rfl⟩ := trodAll_nil r0
  obtain rfl : args = #[v0] := by cases args; simp_all
  obtain ⟨rfl, rfl⟩ := trodVars_none hV
  obtain ⟨a0, len0, cap0, rfl⟩ := okWide_slice Try.underlying24 (hval 0 24 v0 rfl rfl)
  have k0 := h0
  have lt0 : ∀ x ∈ p0, x.block < W.heap.size := by obtain ⟨m, hm⟩ := k0; exact DataW.trod_lt m _ _ _ hm
  obtain ⟨z0, hl0, hc0, w0⟩ : ∃ zs : List Int, len0 = zs.length ∧ zs.length ≤ cap0 ∧ Rdw .u8 W W.heap.size a0 zs := by
    obtain ⟨fuel, hf⟩ := h0
    rcases open_ints Try.underlying24 Try.underlying5 (by kernel_rfl) hf with ⟨hcs, _⟩ | ⟨x, l, c, zs, hcs, _, hl, hm, hz, _, hcell, hwz⟩
    · simp [Value.cells] at hcs
      obtain ⟨rfl, rfl, rfl⟩ := hcs
      exact ⟨[], rfl, Nat.le_refl _, Rdw.nil⟩
    · simp [Value.cells] at hcs
      obtain ⟨rfl, rfl, rfl⟩ := hcs
      exact ⟨zs.take len0, by simp at hz ⊢; omega, by simp at hz ⊢; omega, Rdw.of_row hl hm (by simpa using hz) hcell hwz⟩
  subst hl0
  clear hA0 hval0
  refine (walk W a0 cap0 z0 hc0 w0).mono fun e W' ⟨he, bel⟩ => ?_
  subst he
  exact ⟨_, rfl, _, _, _, [], _, [], hW', trodAll_mk1 (shut_bool Try.underlying4 _), (trodAll_cons_mk (Below.trod laidOut (by kernel_rfl) (of_decide_eq_true (by kernel_rfl)) k0 bel lt0) trodAll_mk0), rfl, bel.frame _, fun h => by cases h⟩

theorem over : Rows.fnToLumaRow.holds Try.pinned (OpenSpec.ofChange Rows.fnToLumaSpec) :=
  OpenClaim.holds_of_wide 7 Try.f7 rfl rfl rfl rfl rfl rfl rfl ⟨rfl, rfl, rfl, rfl, rfl⟩ rfl rfl rfl rfl rfl (by kernel_rfl) Try.func7 (by kernel_rfl)
    (of_decide_eq_true (by kernel_rfl)) (by unfold Func.isWrapper; first | (rw [if_pos (by decide +kernel)]; kernel_rfl) | (rw [if_neg (by decide +kernel)]; exact ⟨rfl, rfl⟩))
    (fun os started H enc _ => lifted os started H enc)

theorem proved : Rows.FnToLumaSaid := over
end Go.Proofs.Ytpkeliinnkhpoaa.fnToLuma
