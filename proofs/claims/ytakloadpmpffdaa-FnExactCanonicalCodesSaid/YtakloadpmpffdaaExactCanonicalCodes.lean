/- CanonicalCodes of the program answers what the model answers, for every list of lengths, in memory of its own, and changes nothing of the list. -/
import Derived.Test.YtakloadpmpffdaaRows
import Derived.WalkKit
import Derived.ProofKit
import Derived.OpenShut
import Derived.ShutString
import Derived.ChangeOld
import Derived.Below
import Derived.Test.YtakloadpmpffdaaExact
import Derived.Test.YtakloadpmpffdaaCode2
namespace Go.Proofs.Ytakloadpmpffdaa.fnExactCanonicalCodes
open Go.ChangeShapes Go.WideShapes Go.ChangeAt Go.RowKit
open Go.ChangeMaps (open_string shut_string)
set_option linter.unusedVariables false

set_option maxHeartbeats 8000000 in
theorem walk (w : World) (a0 : Option Addr) (cap0 : Nat) (z0 : List Int) (hc0 : z0.length ≤ cap0) (w0 : Rdw .i64 w w.heap.size a0 z0) :
    Calls Try.prog 8 #[.slice a0 z0.length cap0] w fun e w' => e = .returned (.bool true) ∧ Below w.heap.size w w' := by
  have hm0 := w0.2.1
  unfold maxLen at hm0
  have HR0 := Lib.hid w0.1
  by_cases hlen0 : 1048576 < z0.length
  · go_enter Try.func8, Try.ntmps8
    go_wp2
    go_ret
    exact ⟨rfl, Below.refl _ _⟩
  go_enter Try.func8, Try.ntmps8
  have S0 := St.start w
  go_wp2_with fail
  refine (toIntS_any a0 cap0 z0 w (S0.arg HR0.out) (by omega)).mono ?_
  rintro e w1x ⟨v1, rfl, hO1, hB1⟩
  obtain ⟨A1, c1, rfl, hcc1⟩ := hO1.slice
  have S1 := S0.add hO1 hB1
  clear S0 hO1 hB1
  go_wp2_with fail
  refine (s_CanonicalCodes A1 c1 z0 w1x (S1.rds (lo := w.heap.size) (hi := w1x.heap.size) (n := z0.length) (c := c1) (by simp)) (by omega)).mono ?_
  rintro e w2x ⟨v2, rfl, hO2, hB2⟩
  obtain ⟨A2, c2, rfl, hcc2⟩ := hO2.slice
  have S2 := S1.add hO2 hB2
  clear S1 hO2 hB2
  go_wp2_with fail
  refine (toIntS_any a0 cap0 z0 w2x (S2.arg HR0.out) (by omega)).mono ?_
  rintro e w3x ⟨v3, rfl, hO3, hB3⟩
  obtain ⟨A3, c3, rfl, hcc3⟩ := hO3.slice
  have S3 := S2.add hO3 hB3
  clear S2 hO3 hB3
  go_wp2_with fail
  refine (i_CanonicalCodes A3 c3 z0 w3x (S3.rds (lo := w2x.heap.size) (hi := w3x.heap.size) (n := z0.length) (c := c3) (by simp)) (by omega)).mono ?_
  rintro e w4x ⟨v4, rfl, hO4, hB4⟩
  obtain ⟨A4, c4, rfl, hcc4⟩ := hO4.slice
  have S4 := S3.add hO4 hB4
  clear S3 hO4 hB4
  go_wp2_with fail
  refine (eqIntS_any A4 A2 c4 c2 (codes z0) (codes z0) _ _ w4x (S4.rds (lo := w3x.heap.size) (hi := w4x.heap.size) (n := (codes z0).length) (c := c4) (by simp)) (S4.rds (lo := w1x.heap.size) (hi := w2x.heap.size) (n := (codes z0).length) (c := c2) (by simp)) (by first | omega | (have := codes_len z0; omega)) (by first | omega | (have := codes_len z0; omega))).mono ?_
  rintro e w5x ⟨rfl, n5, rfl⟩
  have S5 := S4.drewN n5
  clear S4
  generalize hw5 : w4x.drewN n5 = w5x at *
  have Hw5 := Lib.hid hw5
  clear hw5
  go_wp2_with fail
  refine (toIntS_any a0 cap0 z0 w5x (S5.arg HR0.out) (by omega)).mono ?_
  rintro e w6x ⟨v6, rfl, hO6, hB6⟩
  obtain ⟨A6, c6, rfl, hcc6⟩ := hO6.slice
  have S6 := S5.add hO6 hB6
  clear S5 hO6 hB6
  go_wp2_with fail
  refine (eqIntS_any A3 A6 c3 c6 (z0) (z0) _ _ w6x (S6.rds (lo := w2x.heap.size) (hi := w3x.heap.size) (n := z0.length) (c := c3) (by simp)) (S6.rds (lo := w5x.heap.size) (hi := w6x.heap.size) (n := z0.length) (c := c6) (by simp)) (by first | omega | (have := codes_len z0; omega)) (by first | omega | (have := codes_len z0; omega))).mono ?_
  rintro e w7x ⟨rfl, n7, rfl⟩
  have S7 := S6.drewN n7
  clear S6
  generalize hw7 : w6x.drewN n7 = w7x at *
  have Hw7 := Lib.hid hw7
  clear hw7
  go_wp2_with fail
  refine (markIntS_any (.slice A3 z0.length c3) w2x.heap.size (z0) 1 w7x (S7.own ⟨w2x.heap.size, w3x.heap.size, .slice A3 z0.length c3, z0⟩ (by simp)) (by first | omega | (have := codes_len z0; omega)) (by omega) (by omega)).mono ?_
  rintro e w8x ⟨rfl, hO8, hG8, hZ8⟩
  have S8 := St.mark (L1 := [⟨w5x.heap.size, w6x.heap.size, .slice A6 z0.length c6, z0⟩, ⟨w3x.heap.size, w4x.heap.size, .slice A4 (codes z0).length c4, codes z0⟩]) (t := ⟨w2x.heap.size, w3x.heap.size, .slice A3 z0.length c3, z0⟩) (L2 := [⟨w1x.heap.size, w2x.heap.size, .slice A2 (codes z0).length c2, codes z0⟩, ⟨w.heap.size, w1x.heap.size, .slice A1 z0.length c1, z0⟩]) S7 hO8 hG8 hZ8
  clear S7 hO8 hG8 hZ8
  go_wp2_with fail
  refine (eqIntS_any A4 A2 c4 c2 (codes z0) (codes z0) _ _ w8x (S8.rds (lo := w3x.heap.size) (hi := w4x.heap.size) (n := (codes z0).length) (c := c4) (by simp)) (S8.rds (lo := w1x.heap.size) (hi := w2x.heap.size) (n := (codes z0).length) (c := c2) (by simp)) (by first | omega | (have := codes_len z0; omega)) (by first | omega | (have := codes_len z0; omega))).mono ?_
  rintro e w9x ⟨rfl, n9, rfl⟩
  have S9 := S8.drewN n9
  clear S8
  generalize hw9 : w8x.drewN n9 = w9x at *
  have Hw9 := Lib.hid hw9
  clear hw9
  go_wp2_with fail
  refine (markIntS_any (.slice A4 (codes z0).length c4) w3x.heap.size (codes z0) 1 w9x (S9.own ⟨w3x.heap.size, w4x.heap.size, .slice A4 (codes z0).length c4, codes z0⟩ (by simp)) (by first | omega | (have := codes_len z0; omega)) (by omega) (by omega)).mono ?_
  rintro e w10x ⟨rfl, hO10, hG10, hZ10⟩
  have S10 := St.mark (L1 := [⟨w5x.heap.size, w6x.heap.size, .slice A6 z0.length c6, z0⟩]) (t := ⟨w3x.heap.size, w4x.heap.size, .slice A4 (codes z0).length c4, codes z0⟩) (L2 := [⟨w2x.heap.size, w3x.heap.size, .slice A3 z0.length c3, marks 1 (z0).length⟩, ⟨w1x.heap.size, w2x.heap.size, .slice A2 (codes z0).length c2, codes z0⟩, ⟨w.heap.size, w1x.heap.size, .slice A1 z0.length c1, z0⟩]) S9 hO10 hG10 hZ10
  clear S9 hO10 hG10 hZ10
  go_wp2_with fail
  refine (heldIntS_any A4 c4 _ (codes z0).length 1 w10x (S10.rds (lo := w3x.heap.size) (hi := w4x.heap.size) (n := (codes z0).length) (c := c4) (by simp)) (by first | omega | (have := codes_len z0; omega)) (by omega) (by omega)).mono ?_
  rintro e w11x ⟨rfl, rfl⟩
  go_wp2_with fail
  refine (toIntS_any a0 cap0 z0 w10x (S10.arg HR0.out) (by omega)).mono ?_
  rintro e w12x ⟨v12, rfl, hO12, hB12⟩
  obtain ⟨A12, c12, rfl, hcc12⟩ := hO12.slice
  have S12 := S10.add hO12 hB12
  clear S10 hO12 hB12
  go_wp2_with fail
  refine (i_CanonicalCodes A12 c12 z0 w12x (S12.rds (lo := w10x.heap.size) (hi := w12x.heap.size) (n := z0.length) (c := c12) (by simp)) (by omega)).mono ?_
  rintro e w13x ⟨v13, rfl, hO13, hB13⟩
  obtain ⟨A13, c13, rfl, hcc13⟩ := hO13.slice
  have S13 := S12.add hO13 hB13
  clear S12 hO13 hB13
  go_wp2_with fail
  refine (eqIntS_any A13 A2 c13 c2 (codes z0) (codes z0) _ _ w13x (S13.rds (lo := w12x.heap.size) (hi := w13x.heap.size) (n := (codes z0).length) (c := c13) (by simp)) (S13.rds (lo := w1x.heap.size) (hi := w2x.heap.size) (n := (codes z0).length) (c := c2) (by simp)) (by first | omega | (have := codes_len z0; omega)) (by first | omega | (have := codes_len z0; omega))).mono ?_
  rintro e w14x ⟨rfl, n14, rfl⟩
  have S14 := S13.drewN n14
  clear S13
  generalize hw14 : w13x.drewN n14 = w14x at *
  have Hw14 := Lib.hid hw14
  clear hw14
  go_wp2_with fail
  refine (heldIntS_any A4 c4 _ (codes z0).length 1 w14x (S14.rds (lo := w3x.heap.size) (hi := w4x.heap.size) (n := (codes z0).length) (c := c4) (by simp)) (by first | omega | (have := codes_len z0; omega)) (by omega) (by omega)).mono ?_
  rintro e w15x ⟨rfl, rfl⟩
  go_wp2_with fail
  go_ret
  exact ⟨rfl, S14.below⟩

/-! ### From the walk to the statement. -/
theorem own : ownKnob Try.prog.godebug = none := by kernel_rfl
theorem laidOut : laidOutB Try.prog = true := by kernel_rfl
set_option maxRecDepth 100000 in
theorem lifted (os : Os) (started : os.Started) (H : Type) (enc : TypeId × Value → H) :
    ReturnsInHanded {} Try.checked os 8 .any (Rows.fnExactCanonicalCodesSpec.pre6 enc Try.prog Try.f8 Rows.fnExactCanonicalCodesRow.domain false) (Rows.fnExactCanonicalCodesSpec.post enc Try.prog Try.f8 false true false false) := by
  refine returnsInHanded_of_change (C := Try.checked) own started (by kernel_rfl) Try.func8
    (ChangeSpec.witness6 (enc := enc) (C := Try.checked) false ⟨#[], #[.slice none 0 0], []⟩ 8 (by kernel_rfl) (by kernel_rfl) (by kernel_rfl) (by kernel_rfl)) ?_
  intro W base args ds gs before hval0 hW hcnd _
  have hval : ∀ (j : Nat) t v, Try.f8.params[j]? = some t → args[j]? = some v → Value.okWide Try.prog W .any base t v := hval0
  have hW' := hW
  obtain ⟨p, q, hA0, hV, rfl, hfz, hnd⟩ := hW
  have hA : DataW.TrodAll enc Try.prog W 0 (fun _ => true) true Try.f8.params.toList args.toList ds p := hA0
  rw [Try.params8] at hA hval
  obtain ⟨v0, vs0, d0, ds0, p0, q0, hargs, rfl, rfl, h0, r0⟩ := trodAll_cons hA
  obtain ⟨rfl, rfl, rfl⟩ := trodAll_nil r0
  obtain rfl : args = #[v0] := by cases args; simp_all
  obtain ⟨rfl, rfl⟩ := trodVars_none hV
  obtain ⟨a0, len0, cap0, rfl⟩ := okWide_slice Try.underlying29 (hval 0 29 v0 rfl rfl)
  have k0 := h0
  have lt0 : ∀ x ∈ p0, x.block < W.heap.size := by obtain ⟨m, hm⟩ := k0; exact DataW.trod_lt m _ _ _ hm
  obtain ⟨z0, hl0, hc0, w0⟩ : ∃ zs : List Int, len0 = zs.length ∧ zs.length ≤ cap0 ∧ Rdw .i64 W W.heap.size a0 zs := by
    obtain ⟨fuel, hf⟩ := h0
    rcases open_ints Try.underlying29 Try.underlying3 (by kernel_rfl) hf with ⟨hcs, _⟩ | ⟨x, l, c, zs, hcs, _, hl, hm, hz, _, hcell, hwz⟩
    · simp [Value.cells] at hcs
      obtain ⟨rfl, rfl, rfl⟩ := hcs
      exact ⟨[], rfl, Nat.le_refl _, Rdw.nil⟩
    · simp [Value.cells] at hcs
      obtain ⟨rfl, rfl, rfl⟩ := hcs
      exact ⟨zs.take len0, by simp at hz ⊢; omega, by simp at hz ⊢; omega, Rdw.of_row hl hm (by simpa using hz) hcell hwz⟩
  subst hl0
  clear hA0 hval0
  refine (walk W a0 cap0 z0 hc0 w0).mono fun e W' ⟨he, bel⟩ => ?_
  subst he
  exact ⟨_, rfl, _, _, _, [], _, [], hW', trodAll_mk1 (shut_bool Try.underlying4 _), (trodAll_cons_mk (Below.trod laidOut (by kernel_rfl) (of_decide_eq_true (by kernel_rfl)) k0 bel lt0) trodAll_mk0), rfl, bel.frame _, fun h => by cases h⟩

theorem over : Rows.fnExactCanonicalCodesRow.holds Try.pinned (OpenSpec.ofChange Rows.fnExactCanonicalCodesSpec) :=
  OpenClaim.holds_of_wide 8 Try.f8 rfl rfl rfl rfl rfl rfl rfl ⟨rfl, rfl, rfl, rfl, rfl⟩ rfl rfl rfl rfl rfl (by kernel_rfl) Try.func8 (by kernel_rfl)
    (of_decide_eq_true (by kernel_rfl)) (by unfold Func.isWrapper; first | (rw [if_pos (by decide +kernel)]; kernel_rfl) | (rw [if_neg (by decide +kernel)]; exact ⟨rfl, rfl⟩))
    (fun os started H enc _ => lifted os started H enc)

theorem proved : Rows.FnExactCanonicalCodesSaid := over
end Go.Proofs.Ytakloadpmpffdaa.fnExactCanonicalCodes
