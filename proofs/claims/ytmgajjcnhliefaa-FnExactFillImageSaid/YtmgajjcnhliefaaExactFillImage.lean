/- FillImage of the program answers what the model answers, for every two numbers and every list; it writes into no argument, and its answer owns its memory. -/
import Derived.Test.YtmgajjcnhliefaaRows
import Derived.WalkKit
import Derived.ProofKit
import Derived.OpenShut
import Derived.ShutString
import Derived.ChangeOld
import Derived.Below
import Derived.Lib.SmallJoins
import Derived.Test.YtmgajjcnhliefaaImgS
import Derived.Test.YtmgajjcnhliefaaFillS
namespace Go.Proofs.Ytmgajjcnhliefaa.fnExactFillImage
open Go.ChangeShapes Go.WideShapes Go.ChangeAt Go.RowKit
open Go.ChangeMaps (open_string shut_string)
set_option linter.unusedVariables false

def FillFn (f : FuncId) (W H : Int) (q : List Int) (X Y Z : Int) (ys : List Int) : Prop :=
  ∀ (A : Option Addr) (c : Nat) (w : World), Rds .i64 w w.heap.size A q → Calls Try.prog f #[.int .i64 W, .int .i64 H, .slice A q.length c] w (MadeI X Y Z ys w)
theorem fill_len (W H : Int) (q : List Int) : (cond (fillOk W H q) (fillL W.toNat H.toNat q) []).length ≤ 2000000 := by
  cases h : fillOk W H q
  · simp
  · have h' : (vsh W H q.length && allB 0 255 q) = true := h
    simp only [Bool.and_eq_true] at h'
    obtain ⟨hW, hH, hP, _⟩ := vsh_bd h'.1
    simp only [cond, fillL, img_len]
    have h1 : W.toNat * H.toNat ≤ 16 * 16 := Nat.mul_le_mul (by omega) (by omega)
    have h2 : W.toNat * H.toNat * q.length ≤ 16 * 16 * 4 := Nat.mul_le_mul h1 (by omega)
    omega
set_option maxHeartbeats 16000000 in
theorem walk (w : World) (a0 : Int) (w0 : (Lit.int .i64 a0).wf = true) (a1 : Int) (w1 : (Lit.int .i64 a1).wf = true) (a2 : Option Addr) (cap2 : Nat) (z2 : List Int) (hc2 : z2.length ≤ cap2) (w2 : Rdw .i64 w w.heap.size a2 z2) :
    Calls Try.prog 5 #[.int .i64 a0, .int .i64 a1, .slice a2 z2.length cap2] w fun e w' => e = .returned (.bool true) ∧ Below w.heap.size w w' := by
  have hm := w2.2.1
  unfold maxLen at hm
  have HR := Lib.hid w2.1
  clear w0 w1 w2
  by_cases hlen : 1048576 < z2.length
  · go_enter Try.func5, Try.ntmps5
    go_wp2
    go_ret
    exact ⟨rfl, Below.refl _ _⟩
  obtain ⟨R1, R2, R3, RX, hRX, HI, HS⟩ : ∃ (R1 R2 R3 : Int) (RX : List Int), RX.length ≤ 2000000 ∧ Hid (FillFn 26 a0 a1 z2 R1 R2 R3 RX) ∧ Hid (FillFn 24 a0 a1 z2 R1 R2 R3 RX) :=
    ⟨_, _, _, _, fill_len a0 a1 z2, Lib.hid (fun A c w hx => i_FillImage a0 a1 A c z2 w hx (by omega)), Lib.hid (fun A c w hx => s_FillImage a0 a1 A c z2 w hx (by omega))⟩
  have S0 := ISt.empty w
  go_enter Try.func5, Try.ntmps5
  go_wp2_with fail
  refine (toIntS_any a2 cap2 z2 _ (S0.1.arg HR.out) (by omega)).mono ?_
  rintro e u1 ⟨v1, rfl, hO1, hB1⟩
  obtain ⟨A1, c1, rfl, hc1⟩ := hO1.slice
  have S1 := S0.add hO1 hB1
  clear hO1 hB1
  clear S0
  go_wp2_with fail
  refine (HS.out A1 c1 _ (S1.1.rds (lo := w.heap.size) (hi := u1.heap.size) (n := z2.length) (c := c1) (by simp))).mono ?_
  rintro e u2 ⟨v2, rfl, hO2, hB2⟩
  obtain ⟨A2, c2, rfl, hc2⟩ := hO2.slice
  have S2 := S1.add hO2 hB2
  clear hO2 hB2
  clear S1
  have S3 : ISt w (u2.alloc (.cells #[.int .i64 R1, .int .i64 R2, .int .i64 R3, .slice A2 RX.length c2] 26)) [⟨u1.heap.size, u2.heap.size, .slice A2 RX.length c2, RX⟩, ⟨w.heap.size, u1.heap.size, .slice A1 z2.length c1, z2⟩] [⟨u2.heap.size, 26, imC R1 R2 R3 (.slice A2 RX.length c2)⟩] := ISt.box S2 26 (imC R1 R2 R3 (.slice A2 RX.length c2)) (by decide)
  go_wp2_with fail
  clear S2
  generalize u2.alloc (.cells #[.int .i64 R1, .int .i64 R2, .int .i64 R3, .slice A2 RX.length c2] 26) = u3 at *
  refine (toIntS_any a2 cap2 z2 _ (S3.1.arg HR.out) (by omega)).mono ?_
  rintro e u4 ⟨v4, rfl, hO4, hB4⟩
  obtain ⟨A4, c4, rfl, hc4⟩ := hO4.slice
  have S4 := S3.add hO4 hB4
  clear hO4 hB4
  clear S3
  go_wp2_with fail
  refine (HI.out A4 c4 _ (S4.1.rds (lo := u3.heap.size) (hi := u4.heap.size) (n := z2.length) (c := c4) (by simp))).mono ?_
  rintro e u5 ⟨v5, rfl, hO5, hB5⟩
  obtain ⟨A5, c5, rfl, hc5⟩ := hO5.slice
  have S5 := S4.add hO5 hB5
  clear hO5 hB5
  clear S4
  obtain ⟨w00, w01, w02, w03⟩ := S5.im (g := u2.heap.size) (T := 26) (X := R1) (Y := R2) (Z := R3) (v := .slice A2 RX.length c2) (by simp)
  have w0l := S5.lt (g := u2.heap.size) (T := 26) (cs := imC R1 R2 R3 (.slice A2 RX.length c2)) (by simp)
  have S6 : ISt w (u5.alloc (.cells #[.int .i64 R1, .int .i64 R2, .int .i64 R3, .slice A5 RX.length c5] 26)) [⟨u4.heap.size, u5.heap.size, .slice A5 RX.length c5, RX⟩, ⟨u3.heap.size, u4.heap.size, .slice A4 z2.length c4, z2⟩, ⟨u1.heap.size, u2.heap.size, .slice A2 RX.length c2, RX⟩, ⟨w.heap.size, u1.heap.size, .slice A1 z2.length c1, z2⟩] [⟨u5.heap.size, 26, imC R1 R2 R3 (.slice A5 RX.length c5)⟩, ⟨u2.heap.size, 26, imC R1 R2 R3 (.slice A2 RX.length c2)⟩] := ISt.box S5 26 (imC R1 R2 R3 (.slice A5 RX.length c5)) (by decide)
  go_wp2_with fail
  clear w00 w01 w02 w03 w0l
  clear S5
  generalize u5.alloc (.cells #[.int .i64 R1, .int .i64 R2, .int .i64 R3, .slice A5 RX.length c5] 26) = u6 at *
  refine (eqImage_same R1 R2 R3 A5 A2 c5 c2 _ _ RX _ rfl rfl (S6.1.rds (lo := u4.heap.size) (hi := u5.heap.size) (n := RX.length) (c := c5) (by simp)) (S6.1.rds (lo := u1.heap.size) (hi := u2.heap.size) (n := RX.length) (c := c2) (by simp)) (by omega)).mono ?_
  rintro e u7 ⟨rfl, hB7⟩
  have S7 := S6.call hB7
  clear hB7
  clear S6
  go_wp2_with fail
  refine (toIntS_any a2 cap2 z2 _ (S7.1.arg HR.out) (by omega)).mono ?_
  rintro e u8 ⟨v8, rfl, hO8, hB8⟩
  obtain ⟨A8, c8, rfl, hc8⟩ := hO8.slice
  have S8 := S7.add hO8 hB8
  clear hO8 hB8
  clear S7
  go_wp2_with fail
  refine (eqIntS_any A4 A8 c4 c8 z2 z2 _ _ _ (S8.1.rds (lo := u3.heap.size) (hi := u4.heap.size) (n := z2.length) (c := c4) (by simp)) (S8.1.rds (lo := u7.heap.size) (hi := u8.heap.size) (n := z2.length) (c := c8) (by simp)) (by omega) (by omega)).mono ?_
  rintro e u9 ⟨rfl, n9, rfl⟩
  have S9 := S8.drewN n9
  clear S8
  generalize hw9 : u8.drewN n9 = u9 at *
  clear hw9
  go_wp2_with fail
  refine (markIntS_any (.slice A4 z2.length c4) u3.heap.size z2 1 _ (S9.1.own ⟨u3.heap.size, u4.heap.size, .slice A4 z2.length c4, z2⟩ (by simp)) (by omega) (by omega) (by omega)).mono ?_
  rintro e u10 ⟨rfl, hO10, hG10, hZ10⟩
  have S10 := ISt.mark (L1 := [⟨u7.heap.size, u8.heap.size, .slice A8 z2.length c8, z2⟩, ⟨u4.heap.size, u5.heap.size, .slice A5 RX.length c5, RX⟩]) (t := ⟨u3.heap.size, u4.heap.size, .slice A4 z2.length c4, z2⟩) (L2 := [⟨u1.heap.size, u2.heap.size, .slice A2 RX.length c2, RX⟩, ⟨w.heap.size, u1.heap.size, .slice A1 z2.length c1, z2⟩]) S9 hO10 hG10
  clear hO10 hG10 hZ10
  clear S9
  obtain ⟨g00, g01, g02, g03⟩ := S10.im (g := u5.heap.size) (T := 26) (X := R1) (Y := R2) (Z := R3) (v := .slice A5 RX.length c5) (by simp)
  have g0l := S10.lt (g := u5.heap.size) (T := 26) (cs := imC R1 R2 R3 (.slice A5 RX.length c5)) (by simp)
  obtain ⟨w00, w01, w02, w03⟩ := S10.im (g := u2.heap.size) (T := 26) (X := R1) (Y := R2) (Z := R3) (v := .slice A2 RX.length c2) (by simp)
  have w0l := S10.lt (g := u2.heap.size) (T := 26) (cs := imC R1 R2 R3 (.slice A2 RX.length c2)) (by simp)
  go_wp2_with fail
  refine (eqImage_same R1 R2 R3 A5 A2 c5 c2 _ _ RX _ rfl rfl (S10.1.rds (lo := u4.heap.size) (hi := u5.heap.size) (n := RX.length) (c := c5) (by simp)) (S10.1.rds (lo := u1.heap.size) (hi := u2.heap.size) (n := RX.length) (c := c2) (by simp)) (by omega)).mono ?_
  rintro e u11 ⟨rfl, hB11⟩
  have S11 := S10.call hB11
  clear hB11
  clear S10
  clear g00 g01 g02 g03 g0l w00 w01 w02 w03 w0l
  obtain ⟨g00, g01, g02, g03⟩ := S11.im (g := u5.heap.size) (T := 26) (X := R1) (Y := R2) (Z := R3) (v := .slice A5 RX.length c5) (by simp)
  have g0l := S11.lt (g := u5.heap.size) (T := 26) (cs := imC R1 R2 R3 (.slice A5 RX.length c5)) (by simp)
  go_wp2_with fail
  refine (markImage_any R1 R2 R3 (.slice A5 RX.length c5) u4.heap.size (RX) 1 _ (S11.1.own ⟨u4.heap.size, u5.heap.size, .slice A5 RX.length c5, RX⟩ (by simp)) (by omega) (by omega) (by omega)).mono ?_
  rintro e u12 ⟨rfl, hO12, hG12⟩
  have S12 := ISt.mark (L1 := [⟨u7.heap.size, u8.heap.size, .slice A8 z2.length c8, z2⟩]) (t := ⟨u4.heap.size, u5.heap.size, .slice A5 RX.length c5, RX⟩) (L2 := [⟨u3.heap.size, u4.heap.size, .slice A4 z2.length c4, marks 1 z2.length⟩, ⟨u1.heap.size, u2.heap.size, .slice A2 RX.length c2, RX⟩, ⟨w.heap.size, u1.heap.size, .slice A1 z2.length c1, z2⟩]) S11 hO12 hG12
  clear g00 g01 g02 g03 g0l
  clear hO12 hG12
  clear S11
  obtain ⟨g00, g01, g02, g03⟩ := S12.im (g := u5.heap.size) (T := 26) (X := R1) (Y := R2) (Z := R3) (v := .slice A5 RX.length c5) (by simp)
  have g0l := S12.lt (g := u5.heap.size) (T := 26) (cs := imC R1 R2 R3 (.slice A5 RX.length c5)) (by simp)
  go_wp2_with fail
  refine (heldImage_any R1 R2 R3 A5 c5 RX.length 1 _ (S12.1.rds (lo := u4.heap.size) (hi := u5.heap.size) (n := RX.length) (c := c5) (by simp)) (by omega) (by omega) (by omega)).mono ?_
  rintro e u13 ⟨rfl, hB13⟩
  have S13 := S12.call hB13
  clear g00 g01 g02 g03 g0l
  clear hB13
  clear S12
  go_wp2_with fail
  refine (toIntS_any a2 cap2 z2 _ (S13.1.arg HR.out) (by omega)).mono ?_
  rintro e u14 ⟨v14, rfl, hO14, hB14⟩
  obtain ⟨A14, c14, rfl, hc14⟩ := hO14.slice
  have S14 := S13.add hO14 hB14
  clear hO14 hB14
  clear S13
  go_wp2_with fail
  refine (HI.out A14 c14 _ (S14.1.rds (lo := u13.heap.size) (hi := u14.heap.size) (n := z2.length) (c := c14) (by simp))).mono ?_
  rintro e u15 ⟨v15, rfl, hO15, hB15⟩
  obtain ⟨A15, c15, rfl, hc15⟩ := hO15.slice
  have S15 := S14.add hO15 hB15
  clear hO15 hB15
  clear S14
  obtain ⟨w00, w01, w02, w03⟩ := S15.im (g := u2.heap.size) (T := 26) (X := R1) (Y := R2) (Z := R3) (v := .slice A2 RX.length c2) (by simp)
  have w0l := S15.lt (g := u2.heap.size) (T := 26) (cs := imC R1 R2 R3 (.slice A2 RX.length c2)) (by simp)
  have S16 : ISt w (u15.alloc (.cells #[.int .i64 R1, .int .i64 R2, .int .i64 R3, .slice A15 RX.length c15] 26)) [⟨u14.heap.size, u15.heap.size, .slice A15 RX.length c15, RX⟩, ⟨u13.heap.size, u14.heap.size, .slice A14 z2.length c14, z2⟩, ⟨u7.heap.size, u8.heap.size, .slice A8 z2.length c8, z2⟩, ⟨u4.heap.size, u5.heap.size, .slice A5 RX.length c5, marks 1 RX.length⟩, ⟨u3.heap.size, u4.heap.size, .slice A4 z2.length c4, marks 1 z2.length⟩, ⟨u1.heap.size, u2.heap.size, .slice A2 RX.length c2, RX⟩, ⟨w.heap.size, u1.heap.size, .slice A1 z2.length c1, z2⟩] [⟨u15.heap.size, 26, imC R1 R2 R3 (.slice A15 RX.length c15)⟩, ⟨u5.heap.size, 26, imC R1 R2 R3 (.slice A5 RX.length c5)⟩, ⟨u2.heap.size, 26, imC R1 R2 R3 (.slice A2 RX.length c2)⟩] := ISt.box S15 26 (imC R1 R2 R3 (.slice A15 RX.length c15)) (by decide)
  go_wp2_with fail
  clear w00 w01 w02 w03 w0l
  clear S15
  generalize u15.alloc (.cells #[.int .i64 R1, .int .i64 R2, .int .i64 R3, .slice A15 RX.length c15] 26) = u16 at *
  refine (eqImage_same R1 R2 R3 A15 A2 c15 c2 _ _ RX _ rfl rfl (S16.1.rds (lo := u14.heap.size) (hi := u15.heap.size) (n := RX.length) (c := c15) (by simp)) (S16.1.rds (lo := u1.heap.size) (hi := u2.heap.size) (n := RX.length) (c := c2) (by simp)) (by omega)).mono ?_
  rintro e u17 ⟨rfl, hB17⟩
  have S17 := S16.call hB17
  clear hB17
  clear S16
  obtain ⟨g00, g01, g02, g03⟩ := S17.im (g := u5.heap.size) (T := 26) (X := R1) (Y := R2) (Z := R3) (v := .slice A5 RX.length c5) (by simp)
  have g0l := S17.lt (g := u5.heap.size) (T := 26) (cs := imC R1 R2 R3 (.slice A5 RX.length c5)) (by simp)
  go_wp2_with fail
  refine (heldImage_any R1 R2 R3 A5 c5 RX.length 1 _ (S17.1.rds (lo := u4.heap.size) (hi := u5.heap.size) (n := RX.length) (c := c5) (by simp)) (by omega) (by omega) (by omega)).mono ?_
  rintro e u18 ⟨rfl, hB18⟩
  have S18 := S17.call hB18
  clear g00 g01 g02 g03 g0l
  clear hB18
  clear S17
  go_wp2
  go_ret
  exact ⟨rfl, S18.1.below⟩

/-! ### From the walk to the statement. -/
theorem own : ownKnob Try.prog.godebug = none := by kernel_rfl
theorem laidOut : laidOutB Try.prog = true := by kernel_rfl
set_option maxRecDepth 100000 in
theorem lifted (os : Os) (started : os.Started) (H : Type) (enc : TypeId × Value → H) :
    ReturnsInHanded {} Try.checked os 5 .any (Rows.fnExactFillImageSpec.pre6 enc Try.prog Try.f5 Rows.fnExactFillImageRow.domain false) (Rows.fnExactFillImageSpec.post enc Try.prog Try.f5 false true false false) := by
  refine returnsInHanded_of_change (C := Try.checked) own started (by kernel_rfl) Try.func5
    (ChangeSpec.witness6 (enc := enc) (C := Try.checked) false ⟨#[], #[.int .i64 0, .int .i64 0, .slice none 0 0], []⟩ 8 (by kernel_rfl) (by kernel_rfl) (by kernel_rfl) (by kernel_rfl)) ?_
  intro W base args ds gs before hval0 hW hcnd _
  have hval : ∀ (j : Nat) t v, Try.f5.params[j]? = some t → args[j]? = some v → Value.okWide Try.prog W .any base t v := hval0
  have hW' := hW
  obtain ⟨p, q, hA0, hV, rfl, hfz, hnd⟩ := hW
  have hA : DataW.TrodAll enc Try.prog W 0 (fun _ => true) true Try.f5.params.toList args.toList ds p := hA0
  rw [Try.params5] at hA hval
  obtain ⟨v0, vs0, d0, ds0, p0, q0, hargs, rfl, rfl, h0, r0⟩ := trodAll_cons hA
  obtain ⟨v1, vs1, d1, ds1, p1, q1, rfl, rfl, rfl, h1, r1⟩ := trodAll_cons r0
  obtain ⟨v2, vs2, d2, ds2, p2, q2, rfl, rfl, rfl, h2, r2⟩ := trodAll_cons r1
  obtain ⟨rfl, rfl, rfl⟩ := trodAll_nil r2
  obtain rfl : args = #[v0, v1, v2] := by cases args; simp_all
  obtain ⟨rfl, rfl⟩ := trodVars_none hV
  obtain ⟨a0, rfl, rfl, rfl, w0⟩ := open_int Try.underlying3 (hval 0 3 v0 rfl rfl) h0
  obtain ⟨a1, rfl, rfl, rfl, w1⟩ := open_int Try.underlying3 (hval 1 3 v1 rfl rfl) h1
  obtain ⟨a2, len2, cap2, rfl⟩ := okWide_slice Try.underlying22 (hval 2 22 v2 rfl rfl)
  have k2 := h2
  have lt2 : ∀ x ∈ p2, x.block < W.heap.size := by obtain ⟨m, hm⟩ := k2; exact DataW.trod_lt m _ _ _ hm
  obtain ⟨z2, hl2, hc2, w2⟩ : ∃ zs : List Int, len2 = zs.length ∧ zs.length ≤ cap2 ∧ Rdw .i64 W W.heap.size a2 zs := by
    obtain ⟨fuel, hf⟩ := h2
    rcases open_ints Try.underlying22 Try.underlying3 (by kernel_rfl) hf with ⟨hcs, _⟩ | ⟨x, l, c, zs, hcs, _, hl, hm, hz, _, hcell, hwz⟩
    · simp [Value.cells] at hcs
      obtain ⟨rfl, rfl, rfl⟩ := hcs
      exact ⟨[], rfl, Nat.le_refl _, Rdw.nil⟩
    · simp [Value.cells] at hcs
      obtain ⟨rfl, rfl, rfl⟩ := hcs
      exact ⟨zs.take len2, by simp at hz ⊢; omega, by simp at hz ⊢; omega, Rdw.of_row hl hm (by simpa using hz) hcell hwz⟩
  subst hl2
  clear hA0 hval0
  refine (walk W a0 w0 a1 w1 a2 cap2 z2 hc2 w2).mono fun e W' ⟨he, bel⟩ => ?_
  subst he
  exact ⟨_, rfl, _, _, _, [], _, [], hW', trodAll_mk1 (shut_bool Try.underlying4 _), (trodAll_cons_mk (shut_int Try.underlying3 w0) (trodAll_cons_mk (shut_int Try.underlying3 w1) (trodAll_cons_mk (Below.trod laidOut (by kernel_rfl) (of_decide_eq_true (by kernel_rfl)) k2 bel lt2) trodAll_mk0))), rfl, bel.frame _, fun h => by cases h⟩

theorem over : Rows.fnExactFillImageRow.holds Try.pinned (OpenSpec.ofChange Rows.fnExactFillImageSpec) :=
  OpenClaim.holds_of_wide 5 Try.f5 rfl rfl rfl rfl rfl rfl rfl ⟨rfl, rfl, rfl, rfl, rfl⟩ rfl rfl rfl rfl rfl (by kernel_rfl) Try.func5 (by kernel_rfl)
    (of_decide_eq_true (by kernel_rfl)) (by unfold Func.isWrapper; first | (rw [if_pos (by decide +kernel)]; kernel_rfl) | (rw [if_neg (by decide +kernel)]; exact ⟨rfl, rfl⟩))
    (fun os started H enc _ => lifted os started H enc)

theorem proved : Rows.FnExactFillImageSaid := over
end Go.Proofs.Ytmgajjcnhliefaa.fnExactFillImage
