/- FilterRow of the program answers what the model answers, for every two lists and two numbers; it writes into no argument, and its answer owns its memory. -/
import Derived.Test.YtaieialjpiojeaaRows
import Derived.WalkKit
import Derived.ProofKit
import Derived.OpenShut
import Derived.ShutString
import Derived.ChangeOld
import Derived.Below
import Derived.Test.YtaieialjpiojeaaFilterE
import Derived.Test.YtaieialjpiojeaaExact
namespace Go.Proofs.Ytaieialjpiojeaa.fnExactFilterRow
open Go.ChangeShapes Go.WideShapes Go.ChangeAt Go.RowKit
open Go.ChangeMaps (open_string shut_string)
set_option linter.unusedVariables false

set_option maxHeartbeats 8000000 in
theorem walk (w : World) (a0 : Int) (w0 : (Lit.int .i64 a0).wf = true) (a1 : Option Addr) (cap1 : Nat) (z1 : List Int) (hc1 : z1.length ≤ cap1) (w1 : Rdw .i64 w w.heap.size a1 z1) (a2 : Option Addr) (cap2 : Nat) (z2 : List Int) (hc2 : z2.length ≤ cap2) (w2 : Rdw .i64 w w.heap.size a2 z2) (a3 : Int) (w3 : (Lit.int .i64 a3).wf = true) :
    Calls Try.prog 3 #[.int .i64 a0, .slice a1 z1.length cap1, .slice a2 z2.length cap2, .int .i64 a3] w fun e w' => e = .returned (.bool true) ∧ Below w.heap.size w w' := by
  have hm1 := w1.2.1
  unfold maxLen at hm1
  have HR1 := Lib.hid w1.1
  have hm2 := w2.2.1
  unfold maxLen at hm2
  have HR2 := Lib.hid w2.1
  by_cases hlen1 : 1048576 < z1.length
  · go_enter Try.func3, Try.ntmps3
    go_wp2
    go_ret
    exact ⟨rfl, Below.refl _ _⟩
  by_cases hlen2 : 1048576 < z2.length
  · go_enter Try.func3, Try.ntmps3
    go_wp2
    go_ret
    exact ⟨rfl, Below.refl _ _⟩
  go_enter Try.func3, Try.ntmps3
  have S0 := St.start w
  go_wp2_with fail
  refine (toIntS_any a1 cap1 z1 w (S0.arg HR1.out) (by omega)).mono ?_
  rintro e w1x ⟨v1, rfl, hO1, hB1⟩
  obtain ⟨A1, c1, rfl, hcc1⟩ := hO1.slice
  have S1 := S0.add hO1 hB1
  clear S0 hO1 hB1
  go_wp2_with fail
  refine (toIntS_any a2 cap2 z2 w1x (S1.arg HR2.out) (by omega)).mono ?_
  rintro e w2x ⟨v2, rfl, hO2, hB2⟩
  obtain ⟨A2, c2, rfl, hcc2⟩ := hO2.slice
  have S2 := S1.add hO2 hB2
  clear S1 hO2 hB2
  go_wp2_with fail
  refine (s_FilterRow a0 A1 A2 c1 c2 z1 z2 a3 w2x (S2.rds (lo := w.heap.size) (hi := w1x.heap.size) (n := z1.length) (c := c1) (by simp)) (S2.rds (lo := w1x.heap.size) (hi := w2x.heap.size) (n := z2.length) (c := c2) (by simp)) (by omega) (by omega)).mono ?_
  rintro e w3x ⟨v3, rfl, hO3, hB3⟩
  obtain ⟨A3, c3, rfl, hcc3⟩ := hO3.slice
  have S3 := S2.add hO3 hB3
  clear S2 hO3 hB3
  go_wp2_with fail
  refine (toIntS_any a1 cap1 z1 w3x (S3.arg HR1.out) (by omega)).mono ?_
  rintro e w4x ⟨v4, rfl, hO4, hB4⟩
  obtain ⟨A4, c4, rfl, hcc4⟩ := hO4.slice
  have S4 := S3.add hO4 hB4
  clear S3 hO4 hB4
  go_wp2_with fail
  refine (toIntS_any a2 cap2 z2 w4x (S4.arg HR2.out) (by omega)).mono ?_
  rintro e w5x ⟨v5, rfl, hO5, hB5⟩
  obtain ⟨A5, c5, rfl, hcc5⟩ := hO5.slice
  have S5 := S4.add hO5 hB5
  clear S4 hO5 hB5
  go_wp2_with fail
  refine (i_FilterRow a0 A4 A5 c4 c5 z1 z2 a3 w5x (S5.rds (lo := w3x.heap.size) (hi := w4x.heap.size) (n := z1.length) (c := c4) (by simp)) (S5.rds (lo := w4x.heap.size) (hi := w5x.heap.size) (n := z2.length) (c := c5) (by simp)) (by omega) (by omega)).mono ?_
  rintro e w6x ⟨v6, rfl, hO6, hB6⟩
  obtain ⟨A6, c6, rfl, hcc6⟩ := hO6.slice
  have S6 := S5.add hO6 hB6
  clear S5 hO6 hB6
  go_wp2_with fail
  refine (eqIntS_any A6 A3 c6 c3 (fil a0 z1 z2 a3) (fil a0 z1 z2 a3) _ _ w6x (S6.rds (lo := w5x.heap.size) (hi := w6x.heap.size) (n := (fil a0 z1 z2 a3).length) (c := c6) (by simp)) (S6.rds (lo := w2x.heap.size) (hi := w3x.heap.size) (n := (fil a0 z1 z2 a3).length) (c := c3) (by simp)) (by first | omega | (have := fil_len a0 z1 z2 a3; omega)) (by first | omega | (have := fil_len a0 z1 z2 a3; omega))).mono ?_
  rintro e w7x ⟨rfl, n7, rfl⟩
  have S7 := S6.drewN n7
  clear S6
  generalize hw7 : w6x.drewN n7 = w7x at *
  have Hw7 := Lib.hid hw7
  clear hw7
  go_wp2_with fail
  refine (toIntS_any a1 cap1 z1 w7x (S7.arg HR1.out) (by omega)).mono ?_
  rintro e w8x ⟨v8, rfl, hO8, hB8⟩
  obtain ⟨A8, c8, rfl, hcc8⟩ := hO8.slice
  have S8 := S7.add hO8 hB8
  clear S7 hO8 hB8
  go_wp2_with fail
  refine (eqIntS_any A4 A8 c4 c8 (z1) (z1) _ _ w8x (S8.rds (lo := w3x.heap.size) (hi := w4x.heap.size) (n := z1.length) (c := c4) (by simp)) (S8.rds (lo := w7x.heap.size) (hi := w8x.heap.size) (n := z1.length) (c := c8) (by simp)) (by first | omega | (have := fil_len a0 z1 z2 a3; omega)) (by first | omega | (have := fil_len a0 z1 z2 a3; omega))).mono ?_
  rintro e w9x ⟨rfl, n9, rfl⟩
  have S9 := S8.drewN n9
  clear S8
  generalize hw9 : w8x.drewN n9 = w9x at *
  have Hw9 := Lib.hid hw9
  clear hw9
  go_wp2_with fail
  refine (toIntS_any a2 cap2 z2 w9x (S9.arg HR2.out) (by omega)).mono ?_
  rintro e w10x ⟨v10, rfl, hO10, hB10⟩
  obtain ⟨A10, c10, rfl, hcc10⟩ := hO10.slice
  have S10 := S9.add hO10 hB10
  clear S9 hO10 hB10
  go_wp2_with fail
  refine (eqIntS_any A5 A10 c5 c10 (z2) (z2) _ _ w10x (S10.rds (lo := w4x.heap.size) (hi := w5x.heap.size) (n := z2.length) (c := c5) (by simp)) (S10.rds (lo := w9x.heap.size) (hi := w10x.heap.size) (n := z2.length) (c := c10) (by simp)) (by first | omega | (have := fil_len a0 z1 z2 a3; omega)) (by first | omega | (have := fil_len a0 z1 z2 a3; omega))).mono ?_
  rintro e w11x ⟨rfl, n11, rfl⟩
  have S11 := S10.drewN n11
  clear S10
  generalize hw11 : w10x.drewN n11 = w11x at *
  have Hw11 := Lib.hid hw11
  clear hw11
  go_wp2_with fail
  refine (markIntS_any (.slice A4 z1.length c4) w3x.heap.size (z1) 1 w11x (S11.own ⟨w3x.heap.size, w4x.heap.size, .slice A4 z1.length c4, z1⟩ (by simp)) (by first | omega | (have := fil_len a0 z1 z2 a3; omega)) (by omega) (by omega)).mono ?_
  rintro e w12x ⟨rfl, hO12, hG12, hZ12⟩
  have S12 := St.mark (L1 := [⟨w9x.heap.size, w10x.heap.size, .slice A10 z2.length c10, z2⟩, ⟨w7x.heap.size, w8x.heap.size, .slice A8 z1.length c8, z1⟩, ⟨w5x.heap.size, w6x.heap.size, .slice A6 (fil a0 z1 z2 a3).length c6, fil a0 z1 z2 a3⟩, ⟨w4x.heap.size, w5x.heap.size, .slice A5 z2.length c5, z2⟩]) (t := ⟨w3x.heap.size, w4x.heap.size, .slice A4 z1.length c4, z1⟩) (L2 := [⟨w2x.heap.size, w3x.heap.size, .slice A3 (fil a0 z1 z2 a3).length c3, fil a0 z1 z2 a3⟩, ⟨w1x.heap.size, w2x.heap.size, .slice A2 z2.length c2, z2⟩, ⟨w.heap.size, w1x.heap.size, .slice A1 z1.length c1, z1⟩]) S11 hO12 hG12 hZ12
  clear S11 hO12 hG12 hZ12
  go_wp2_with fail
  refine (markIntS_any (.slice A5 z2.length c5) w4x.heap.size (z2) (1 + (z1.length : Int)) w12x (S12.own ⟨w4x.heap.size, w5x.heap.size, .slice A5 z2.length c5, z2⟩ (by simp)) (by first | omega | (have := fil_len a0 z1 z2 a3; omega)) (by omega) (by omega)).mono ?_
  rintro e w13x ⟨rfl, hO13, hG13, hZ13⟩
  have S13 := St.mark (L1 := [⟨w9x.heap.size, w10x.heap.size, .slice A10 z2.length c10, z2⟩, ⟨w7x.heap.size, w8x.heap.size, .slice A8 z1.length c8, z1⟩, ⟨w5x.heap.size, w6x.heap.size, .slice A6 (fil a0 z1 z2 a3).length c6, fil a0 z1 z2 a3⟩]) (t := ⟨w4x.heap.size, w5x.heap.size, .slice A5 z2.length c5, z2⟩) (L2 := [⟨w3x.heap.size, w4x.heap.size, .slice A4 z1.length c4, marks 1 (z1).length⟩, ⟨w2x.heap.size, w3x.heap.size, .slice A3 (fil a0 z1 z2 a3).length c3, fil a0 z1 z2 a3⟩, ⟨w1x.heap.size, w2x.heap.size, .slice A2 z2.length c2, z2⟩, ⟨w.heap.size, w1x.heap.size, .slice A1 z1.length c1, z1⟩]) S12 hO13 hG13 hZ13
  clear S12 hO13 hG13 hZ13
  go_wp2_with fail
  refine (eqIntS_any A6 A3 c6 c3 (fil a0 z1 z2 a3) (fil a0 z1 z2 a3) _ _ w13x (S13.rds (lo := w5x.heap.size) (hi := w6x.heap.size) (n := (fil a0 z1 z2 a3).length) (c := c6) (by simp)) (S13.rds (lo := w2x.heap.size) (hi := w3x.heap.size) (n := (fil a0 z1 z2 a3).length) (c := c3) (by simp)) (by first | omega | (have := fil_len a0 z1 z2 a3; omega)) (by first | omega | (have := fil_len a0 z1 z2 a3; omega))).mono ?_
  rintro e w14x ⟨rfl, n14, rfl⟩
  have S14 := S13.drewN n14
  clear S13
  generalize hw14 : w13x.drewN n14 = w14x at *
  have Hw14 := Lib.hid hw14
  clear hw14
  go_wp2_with fail
  refine (markIntS_any (.slice A6 (fil a0 z1 z2 a3).length c6) w5x.heap.size (fil a0 z1 z2 a3) 1 w14x (S14.own ⟨w5x.heap.size, w6x.heap.size, .slice A6 (fil a0 z1 z2 a3).length c6, fil a0 z1 z2 a3⟩ (by simp)) (by first | omega | (have := fil_len a0 z1 z2 a3; omega)) (by omega) (by omega)).mono ?_
  rintro e w15x ⟨rfl, hO15, hG15, hZ15⟩
  have S15 := St.mark (L1 := [⟨w9x.heap.size, w10x.heap.size, .slice A10 z2.length c10, z2⟩, ⟨w7x.heap.size, w8x.heap.size, .slice A8 z1.length c8, z1⟩]) (t := ⟨w5x.heap.size, w6x.heap.size, .slice A6 (fil a0 z1 z2 a3).length c6, fil a0 z1 z2 a3⟩) (L2 := [⟨w4x.heap.size, w5x.heap.size, .slice A5 z2.length c5, marks (1 + (z1.length : Int)) (z2).length⟩, ⟨w3x.heap.size, w4x.heap.size, .slice A4 z1.length c4, marks 1 (z1).length⟩, ⟨w2x.heap.size, w3x.heap.size, .slice A3 (fil a0 z1 z2 a3).length c3, fil a0 z1 z2 a3⟩, ⟨w1x.heap.size, w2x.heap.size, .slice A2 z2.length c2, z2⟩, ⟨w.heap.size, w1x.heap.size, .slice A1 z1.length c1, z1⟩]) S14 hO15 hG15 hZ15
  clear S14 hO15 hG15 hZ15
  go_wp2_with fail
  refine (heldIntS_any A6 c6 _ (fil a0 z1 z2 a3).length 1 w15x (S15.rds (lo := w5x.heap.size) (hi := w6x.heap.size) (n := (fil a0 z1 z2 a3).length) (c := c6) (by simp)) (by first | omega | (have := fil_len a0 z1 z2 a3; omega)) (by omega) (by omega)).mono ?_
  rintro e w16x ⟨rfl, rfl⟩
  go_wp2_with fail
  refine (toIntS_any a1 cap1 z1 w15x (S15.arg HR1.out) (by omega)).mono ?_
  rintro e w17x ⟨v17, rfl, hO17, hB17⟩
  obtain ⟨A17, c17, rfl, hcc17⟩ := hO17.slice
  have S17 := S15.add hO17 hB17
  clear S15 hO17 hB17
  go_wp2_with fail
  refine (toIntS_any a2 cap2 z2 w17x (S17.arg HR2.out) (by omega)).mono ?_
  rintro e w18x ⟨v18, rfl, hO18, hB18⟩
  obtain ⟨A18, c18, rfl, hcc18⟩ := hO18.slice
  have S18 := S17.add hO18 hB18
  clear S17 hO18 hB18
  go_wp2_with fail
  refine (i_FilterRow a0 A17 A18 c17 c18 z1 z2 a3 w18x (S18.rds (lo := w15x.heap.size) (hi := w17x.heap.size) (n := z1.length) (c := c17) (by simp)) (S18.rds (lo := w17x.heap.size) (hi := w18x.heap.size) (n := z2.length) (c := c18) (by simp)) (by omega) (by omega)).mono ?_
  rintro e w19x ⟨v19, rfl, hO19, hB19⟩
  obtain ⟨A19, c19, rfl, hcc19⟩ := hO19.slice
  have S19 := S18.add hO19 hB19
  clear S18 hO19 hB19
  go_wp2_with fail
  refine (eqIntS_any A19 A3 c19 c3 (fil a0 z1 z2 a3) (fil a0 z1 z2 a3) _ _ w19x (S19.rds (lo := w18x.heap.size) (hi := w19x.heap.size) (n := (fil a0 z1 z2 a3).length) (c := c19) (by simp)) (S19.rds (lo := w2x.heap.size) (hi := w3x.heap.size) (n := (fil a0 z1 z2 a3).length) (c := c3) (by simp)) (by first | omega | (have := fil_len a0 z1 z2 a3; omega)) (by first | omega | (have := fil_len a0 z1 z2 a3; omega))).mono ?_
  rintro e w20x ⟨rfl, n20, rfl⟩
  have S20 := S19.drewN n20
  clear S19
  generalize hw20 : w19x.drewN n20 = w20x at *
  have Hw20 := Lib.hid hw20
  clear hw20
  go_wp2_with fail
  refine (heldIntS_any A6 c6 _ (fil a0 z1 z2 a3).length 1 w20x (S20.rds (lo := w5x.heap.size) (hi := w6x.heap.size) (n := (fil a0 z1 z2 a3).length) (c := c6) (by simp)) (by first | omega | (have := fil_len a0 z1 z2 a3; omega)) (by omega) (by omega)).mono ?_
  rintro e w21x ⟨rfl, rfl⟩
  go_wp2_with fail
  go_ret
  exact ⟨rfl, S20.below⟩

/-! ### From the walk to the statement. -/
theorem own : ownKnob Try.prog.godebug = none := by kernel_rfl
theorem laidOut : laidOutB Try.prog = true := by kernel_rfl
set_option maxRecDepth 100000 in
theorem lifted (os : Os) (started : os.Started) (H : Type) (enc : TypeId × Value → H) :
    ReturnsInHanded {} Try.checked os 3 .any (Rows.fnExactFilterRowSpec.pre6 enc Try.prog Try.f3 Rows.fnExactFilterRowRow.domain false) (Rows.fnExactFilterRowSpec.post enc Try.prog Try.f3 false true false false) := by
  refine returnsInHanded_of_change (C := Try.checked) own started (by kernel_rfl) Try.func3
    (ChangeSpec.witness6 (enc := enc) (C := Try.checked) false ⟨#[], #[.int .i64 0, .slice none 0 0, .slice none 0 0, .int .i64 0], []⟩ 8 (by kernel_rfl) (by kernel_rfl) (by kernel_rfl) (by kernel_rfl)) ?_
  intro W base args ds gs before hval0 hW hcnd _
  have hval : ∀ (j : Nat) t v, Try.f3.params[j]? = some t → args[j]? = some v → Value.okWide Try.prog W .any base t v := hval0
  have hW' := hW
  obtain ⟨p, q, hA0, hV, rfl, hfz, hnd⟩ := hW
  have hA : DataW.TrodAll enc Try.prog W 0 (fun _ => true) true Try.f3.params.toList args.toList ds p := hA0
  rw [Try.params3] at hA hval
  obtain ⟨v0, vs0, d0, ds0, p0, q0, hargs, rfl, rfl, h0, r0⟩ := trodAll_cons hA
  obtain ⟨v1, vs1, d1, ds1, p1, q1, rfl, rfl, rfl, h1, r1⟩ := trodAll_cons r0
  obtain ⟨v2, vs2, d2, ds2, p2, q2, rfl, rfl, rfl, h2, r2⟩ := trodAll_cons r1
  obtain ⟨v3, vs3, d3, ds3, p3, q3, rfl, rfl, rfl, h3, r3⟩ := trodAll_cons r2
  obtain ⟨rfl, rfl, rfl⟩ := trodAll_nil r3
  obtain rfl : args = #[v0, v1, v2, v3] := by cases args; simp_all
  obtain ⟨rfl, rfl⟩ := trodVars_none hV
  obtain ⟨a0, rfl, rfl, rfl, w0⟩ := open_int Try.underlying3 (hval 0 3 v0 rfl rfl) h0
  obtain ⟨a1, len1, cap1, rfl⟩ := okWide_slice Try.underlying22 (hval 1 22 v1 rfl rfl)
  have k1 := h1
  have lt1 : ∀ x ∈ p1, x.block < W.heap.size := by obtain ⟨m, hm⟩ := k1; exact DataW.trod_lt m _ _ _ hm
  obtain ⟨z1, hl1, hc1, w1⟩ : ∃ zs : List Int, len1 = zs.length ∧ zs.length ≤ cap1 ∧ Rdw .i64 W W.heap.size a1 zs := by
    obtain ⟨fuel, hf⟩ := h1
    rcases open_ints Try.underlying22 Try.underlying3 (by kernel_rfl) hf with ⟨hcs, _⟩ | ⟨x, l, c, zs, hcs, _, hl, hm, hz, _, hcell, hwz⟩
    · simp [Value.cells] at hcs
      obtain ⟨rfl, rfl, rfl⟩ := hcs
      exact ⟨[], rfl, Nat.le_refl _, Rdw.nil⟩
    · simp [Value.cells] at hcs
      obtain ⟨rfl, rfl, rfl⟩ := hcs
      exact ⟨zs.take len1, by simp at hz ⊢; omega, by simp at hz ⊢; omega, Rdw.of_row hl hm (by simpa using hz) hcell hwz⟩
  subst hl1
  obtain ⟨a2, len2, cap2, rfl⟩ := okWide_slice Try.underlying22 (hval 2 22 v2 rfl rfl)
  have k2 := h2
  have lt2 : ∀ x ∈ p2, x.block < W.heap.size := by obtain ⟨m, hm⟩ := k2; exact DataW.trod_lt m _ _ _ hm
  obtain ⟨z2, hl2, hc2, w2⟩ : ∃ zs : List Int, len2 = zs.length ∧ zs.length ≤ cap2 ∧ Rdw .i64 W W.heap.size a2 zs := by
    obtain ⟨fuel, hf⟩ := h2
    rcases open_ints Try.underlying22 Try.underlying3 (by kernel_rfl) hf with ⟨hcs, _⟩ | ⟨x, l, c, zs, hcs, _, hl, hm, hz, _, hcell, hwz⟩
    · simp [Value.cells] at hcs
      obtain ⟨rfl, rfl, rfl⟩ := hcs
      exact ⟨[], rfl, Nat.le_refl _, Rdw.nil⟩
    · simp [Value.cells] at hcs
      obtain ⟨rfl, rfl, rfl⟩ := hcs
      exact ⟨zs.take len2, by simp at hz ⊢; omega, by simp at hz ⊢; omega, Rdw.of_row hl hm (by simpa using hz) hcell hwz⟩
  subst hl2
  obtain ⟨a3, rfl, rfl, rfl, w3⟩ := open_int Try.underlying3 (hval 3 3 v3 rfl rfl) h3
  clear hA0 hval0
  refine (walk W a0 w0 a1 cap1 z1 hc1 w1 a2 cap2 z2 hc2 w2 a3 w3).mono fun e W' ⟨he, bel⟩ => ?_
  subst he
  exact ⟨_, rfl, _, _, _, [], _, [], hW', trodAll_mk1 (shut_bool Try.underlying4 _), (trodAll_cons_mk (shut_int Try.underlying3 w0) (trodAll_cons_mk (Below.trod laidOut (by kernel_rfl) (of_decide_eq_true (by kernel_rfl)) k1 bel lt1) (trodAll_cons_mk (Below.trod laidOut (by kernel_rfl) (of_decide_eq_true (by kernel_rfl)) k2 bel lt2) (trodAll_cons_mk (shut_int Try.underlying3 w3) trodAll_mk0)))), rfl, bel.frame _, fun h => by cases h⟩

theorem over : Rows.fnExactFilterRowRow.holds Try.pinned (OpenSpec.ofChange Rows.fnExactFilterRowSpec) :=
  OpenClaim.holds_of_wide 3 Try.f3 rfl rfl rfl rfl rfl rfl rfl ⟨rfl, rfl, rfl, rfl, rfl⟩ rfl rfl rfl rfl rfl (by kernel_rfl) Try.func3 (by kernel_rfl)
    (of_decide_eq_true (by kernel_rfl)) (by unfold Func.isWrapper; first | (rw [if_pos (by decide +kernel)]; kernel_rfl) | (rw [if_neg (by decide +kernel)]; exact ⟨rfl, rfl⟩))
    (fun os started H enc _ => lifted os started H enc)

theorem proved : Rows.FnExactFilterRowSaid := over
end Go.Proofs.Ytaieialjpiojeaa.fnExactFilterRow
