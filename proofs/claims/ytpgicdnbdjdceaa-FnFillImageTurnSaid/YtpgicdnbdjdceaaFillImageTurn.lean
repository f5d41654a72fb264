/- Whatever the code: FillImage of the drawn numbers answers what the model answers, and where there is an image, a quarter turn of it is the image filled with width and height exchanged, and its mirror is the image itself. -/
import Derived.Test.YtpgicdnbdjdceaaRows
import Derived.WalkKit
import Derived.ProofKit
import Derived.OpenShut
import Derived.ShutString
import Derived.ChangeOld
import Derived.Below
import Derived.Test.YtpgicdnbdjdceaaImgF
import Derived.Test.YtpgicdnbdjdceaaDrawFill
import Derived.Deep.QuietTactic
import Derived.BigQuiet
namespace Go.Proofs.Ytpgicdnbdjdceaa.fnFillImageTurn
open Go.ChangeShapes Go.WideShapes Go.ChangeAt Go.RowKit
open Go.ChangeMaps (open_string shut_string)
set_option linter.unusedVariables false

set_option maxHeartbeats 16000000 in
theorem walk (w : World) (a0 : Option Addr) (cap0 : Nat) (z0 : List Int) (hc0 : z0.length ≤ cap0) (w0 : Rdw .u8 w w.heap.size a0 z0) :
    Calls Try.prog 7 #[.slice a0 z0.length cap0] w fun e w' => e = .returned (.bool true) ∧ Below w.heap.size w w' := by
  have hm := w0.2.1
  unfold maxLen at hm
  by_cases hlen : 1048576 < z0.length
  · go_enter Try.func7, Try.ntmps7
    go_wp2
    go_ret
    exact ⟨rfl, Below.refl _ _⟩
  · go_enter Try.func7, Try.ntmps7
    go_wp2_with fail
    refine (drawFill_any a0 cap0 z0 w hc0 w0).mono ?_
    rintro e u1 ⟨W, H, A, c, q, rfl, hWb, hHb, hx, hxc, hr, hbel⟩
    have S1 : LSt w u1 [(A, q)] [] := (LSt.start hbel).add hr
    obtain ⟨X, Y, Z, ys, hys, HI, HQ, hor⟩ := fll_law W H q hx
    clear w0 hr hbel hm
    go_wp2_with fail
    refine (FillC.use HI A c _ ((S1).rds (A := A) (xs := q) (by simp)) hxc).mono ?_
    rintro e u2 ⟨A2, c2, rfl, hc2, hr2, hB2⟩
    have S2 := (S1.call hB2).add hr2
    clear hr2 hB2 S1
    have S3 : LSt w (u2.alloc (.cells #[.int .i64 X, .int .i64 Y, .int .i64 Z, .slice A2 ys.length c2] 25)) [(A2, ys), (A, q)] [⟨u2.heap.size, 25, imC X Y Z (.slice A2 ys.length c2)⟩] := S2.box 25 (imC X Y Z (.slice A2 ys.length c2))
    clear S2
    go_wp2
    generalize u2.alloc (.cells #[.int .i64 X, .int .i64 Y, .int .i64 Z, .slice A2 ys.length c2] 25) = u3 at *
    rcases hor with hX | ⟨hX, X2, Y2, Z2, zs, hzs, HT, HF2, HM⟩
    · have hX0 : (X == 0) = true := by simp [hX]
      clear hX
      obtain ⟨o0, o1, o2, o3⟩ := S3.im (g := u2.heap.size) (T := 25) (X := X) (Y := Y) (Z := Z) (v := .slice A2 ys.length c2) (by simp)
      have ol := S3.lt (g := u2.heap.size) (T := 25) (cs := imC X Y Z (.slice A2 ys.length c2)) (by simp)
      have HS := Lib.hid S3
      clear S3
      skip
      go_region_held3 (fun w' => (w'.cell? ⟨u2.heap.size, 0, none⟩ = some (.int .i64 X) ∧ w'.cell? ⟨u2.heap.size, 1, none⟩ = some (.int .i64 Y) ∧ w'.cell? ⟨u2.heap.size, 2, none⟩ = some (.int .i64 Z) ∧ w'.cell? ⟨u2.heap.size, 3, none⟩ = some (.slice A2 ys.length c2))) (first | (with_reducible exact ⟨k1o0, k1o1, k1o2, k1o3⟩) | (with_reducible exact ⟨k0o0, k0o1, k0o2, k0o3⟩) | exact ⟨o0, o1, o2, o3⟩ | go_keep) (first | (go_at_call 29; ((with_reducible refine (FillC.use HQ A c _ (by exact ((HS.out.drew).rds (A := A) (xs := q) (by simp))) hxc).mono ?_); rintro e u4 ⟨A4, c4, rfl, hc4, hr4, hB4⟩); obtain ⟨k0o0, k0o1, k0o2, k0o3⟩ := im_keep hB4 (by exact ol) o0 o1 o2 o3; have l0o : u2.heap.size < u4.heap.size := Nat.lt_of_lt_of_le (by exact ol) hB4.size; have HT4 := Lib.hid (((HS.out.drew).call hB4).add hr4); clear hr4 hB4) | (go_at_call 17; ((with_reducible refine (lEqIm X Y Z ys A2 A4 c2 c4 _ (by exact ((HT4.out).rds (A := A2) (xs := ys) (by simp))) (by exact ((HT4.out).rds (A := A4) (xs := ys) (by simp))) (by first | omega | assumption)).mono ?_); rintro e u5 ⟨rfl, hB5⟩); obtain ⟨k1o0, k1o1, k1o2, k1o3⟩ := im_keep hB5 (by exact l0o) k0o0 k0o1 k0o2 k0o3; have l1o : u2.heap.size < u5.heap.size := Nat.lt_of_lt_of_le (by exact l0o) hB5.size; have HT5 := Lib.hid ((HT4.out).call hB5); clear hB5))
      all_goals
        clear o0 o1 o2 o3 ol k0o0 k0o1 k0o2 k0o3 k1o0 k1o1 k1o2 k1o3 l0o l1o HS
        have S5 := HT5.out
        clear HT4 HT5
        go_wp2
        obtain ⟨o0, o1, o2, o3⟩ := S5.im (g := u2.heap.size) (T := 25) (X := X) (Y := Y) (Z := Z) (v := .slice A2 ys.length c2) (by simp)
        have ol := S5.lt (g := u2.heap.size) (T := 25) (cs := imC X Y Z (.slice A2 ys.length c2)) (by simp)
        have HS := Lib.hid S5
        clear S5
        skip
        go_region_held3 (fun w' => (w'.cell? ⟨u2.heap.size, 0, none⟩ = some (.int .i64 X) ∧ w'.cell? ⟨u2.heap.size, 1, none⟩ = some (.int .i64 Y) ∧ w'.cell? ⟨u2.heap.size, 2, none⟩ = some (.int .i64 Z) ∧ w'.cell? ⟨u2.heap.size, 3, none⟩ = some (.slice A2 ys.length c2))) (first | (with_reducible exact ⟨k1o0, k1o1, k1o2, k1o3⟩) | (with_reducible exact ⟨k0o0, k0o1, k0o2, k0o3⟩) | exact ⟨o0, o1, o2, o3⟩ | go_keep) (first | (go_at_call 29; ((with_reducible refine (FillC.use HQ A c _ (by exact ((HS.out.drew).rds (A := A) (xs := q) (by simp))) hxc).mono ?_); rintro e u6 ⟨A6, c6, rfl, hc6, hr6, hB6⟩); obtain ⟨k0o0, k0o1, k0o2, k0o3⟩ := im_keep hB6 (by exact ol) o0 o1 o2 o3; have l0o : u2.heap.size < u6.heap.size := Nat.lt_of_lt_of_le (by exact ol) hB6.size; have HT6 := Lib.hid (((HS.out.drew).call hB6).add hr6); clear hr6 hB6) | (go_at_call 17; ((with_reducible refine (lEqIm X Y Z ys A2 A6 c2 c6 _ (by exact ((HT6.out).rds (A := A2) (xs := ys) (by simp))) (by exact ((HT6.out).rds (A := A6) (xs := ys) (by simp))) (by first | omega | assumption)).mono ?_); rintro e u7 ⟨rfl, hB7⟩); obtain ⟨k1o0, k1o1, k1o2, k1o3⟩ := im_keep hB7 (by exact l0o) k0o0 k0o1 k0o2 k0o3; have l1o : u2.heap.size < u7.heap.size := Nat.lt_of_lt_of_le (by exact l0o) hB7.size; have HT7 := Lib.hid ((HT6.out).call hB7); clear hB7))
        all_goals
          clear o0 o1 o2 o3 ol k0o0 k0o1 k0o2 k0o3 k1o0 k1o1 k1o2 k1o3 l0o l1o HS
          have S7 := HT7.out
          clear HT6 HT7
          go_wp2
          go_ret
          exact ⟨rfl, S7.1⟩
    · have hX0 : (X == 0) = false := beq_eq_false_iff_ne.2 hX
      clear hX
      obtain ⟨o0, o1, o2, o3⟩ := S3.im (g := u2.heap.size) (T := 25) (X := X) (Y := Y) (Z := Z) (v := .slice A2 ys.length c2) (by simp)
      have ol := S3.lt (g := u2.heap.size) (T := 25) (cs := imC X Y Z (.slice A2 ys.length c2)) (by simp)
      have HS := Lib.hid S3
      clear S3
      skip
      go_region_held3 (fun w' => (w'.cell? ⟨u2.heap.size, 0, none⟩ = some (.int .i64 X) ∧ w'.cell? ⟨u2.heap.size, 1, none⟩ = some (.int .i64 Y) ∧ w'.cell? ⟨u2.heap.size, 2, none⟩ = some (.int .i64 Z) ∧ w'.cell? ⟨u2.heap.size, 3, none⟩ = some (.slice A2 ys.length c2))) (first | (with_reducible exact ⟨k1o0, k1o1, k1o2, k1o3⟩) | (with_reducible exact ⟨k0o0, k0o1, k0o2, k0o3⟩) | exact ⟨o0, o1, o2, o3⟩ | go_keep) (first | (go_at_call 29; ((with_reducible refine (FillC.use HQ A c _ (by exact ((HS.out.drew).rds (A := A) (xs := q) (by simp))) hxc).mono ?_); rintro e u4 ⟨A4, c4, rfl, hc4, hr4, hB4⟩); obtain ⟨k0o0, k0o1, k0o2, k0o3⟩ := im_keep hB4 (by exact ol) o0 o1 o2 o3; have l0o : u2.heap.size < u4.heap.size := Nat.lt_of_lt_of_le (by exact ol) hB4.size; have HT4 := Lib.hid (((HS.out.drew).call hB4).add hr4); clear hr4 hB4) | (go_at_call 17; ((with_reducible refine (lEqIm X Y Z ys A2 A4 c2 c4 _ (by exact ((HT4.out).rds (A := A2) (xs := ys) (by simp))) (by exact ((HT4.out).rds (A := A4) (xs := ys) (by simp))) (by first | omega | assumption)).mono ?_); rintro e u5 ⟨rfl, hB5⟩); obtain ⟨k1o0, k1o1, k1o2, k1o3⟩ := im_keep hB5 (by exact l0o) k0o0 k0o1 k0o2 k0o3; have l1o : u2.heap.size < u5.heap.size := Nat.lt_of_lt_of_le (by exact l0o) hB5.size; have HT5 := Lib.hid ((HT4.out).call hB5); clear hB5))
      all_goals
        clear o0 o1 o2 o3 ol k0o0 k0o1 k0o2 k0o3 k1o0 k1o1 k1o2 k1o3 l0o l1o HS
        have S5 := HT5.out
        clear HT4 HT5
        go_wp2
        obtain ⟨o0, o1, o2, o3⟩ := S5.im (g := u2.heap.size) (T := 25) (X := X) (Y := Y) (Z := Z) (v := .slice A2 ys.length c2) (by simp)
        have ol := S5.lt (g := u2.heap.size) (T := 25) (cs := imC X Y Z (.slice A2 ys.length c2)) (by simp)
        have HS := Lib.hid S5
        clear S5
        skip
        go_region_held3 (fun w' => (w'.cell? ⟨u2.heap.size, 0, none⟩ = some (.int .i64 X) ∧ w'.cell? ⟨u2.heap.size, 1, none⟩ = some (.int .i64 Y) ∧ w'.cell? ⟨u2.heap.size, 2, none⟩ = some (.int .i64 Z) ∧ w'.cell? ⟨u2.heap.size, 3, none⟩ = some (.slice A2 ys.length c2))) (first | (with_reducible exact ⟨k4o0, k4o1, k4o2, k4o3⟩) | (with_reducible exact ⟨k3o0, k3o1, k3o2, k3o3⟩) | (with_reducible exact ⟨k2o0, k2o1, k2o2, k2o3⟩) | (with_reducible exact ⟨k1o0, k1o1, k1o2, k1o3⟩) | (with_reducible exact ⟨k0o0, k0o1, k0o2, k0o3⟩) | exact ⟨o0, o1, o2, o3⟩ | go_keep) (first | (go_at_call 22; ((with_reducible refine (ImC1.use HT A2 c2 _ (by exact ((HS.out.drew).rds (A := A2) (xs := ys) (by simp))) hc2).mono ?_); rintro e u6 ⟨A6, c6, rfl, hc6, hr6, hB6⟩); obtain ⟨k0o0, k0o1, k0o2, k0o3⟩ := im_keep hB6 (by exact ol) o0 o1 o2 o3; have l0o : u2.heap.size < u6.heap.size := Nat.lt_of_lt_of_le (by exact ol) hB6.size; have HT6 := Lib.hid (((HS.out.drew).call hB6).add hr6); clear hr6 hB6) | (go_at_call 28; ((with_reducible refine (FillC.use HF2 A c _ (by exact ((HT6.out).rds (A := A) (xs := q) (by simp))) hxc).mono ?_); rintro e u7 ⟨A7, c7, rfl, hc7, hr7, hB7⟩); obtain ⟨k1o0, k1o1, k1o2, k1o3⟩ := im_keep hB7 (by exact l0o) k0o0 k0o1 k0o2 k0o3; have l1o : u2.heap.size < u7.heap.size := Nat.lt_of_lt_of_le (by exact l0o) hB7.size; have HT7 := Lib.hid (((HT6.out).call hB7).add hr7); clear hr7 hB7) | (go_at_call 17; ((with_reducible refine (lEqIm X2 Y2 Z2 zs A6 A7 c6 c7 _ (by exact ((HT7.out).rds (A := A6) (xs := zs) (by simp))) (by exact ((HT7.out).rds (A := A7) (xs := zs) (by simp))) (by first | omega | assumption)).mono ?_); rintro e u8 ⟨rfl, hB8⟩); obtain ⟨k2o0, k2o1, k2o2, k2o3⟩ := im_keep hB8 (by exact l1o) k1o0 k1o1 k1o2 k1o3; have l2o : u2.heap.size < u8.heap.size := Nat.lt_of_lt_of_le (by exact l1o) hB8.size; have HT8 := Lib.hid ((HT7.out).call hB8); clear hB8) | (go_at_call 16; ((with_reducible refine (ImC0.use HM A2 c2 _ (by exact ((HT8.out).rds (A := A2) (xs := ys) (by simp))) hc2).mono ?_); rintro e u9 ⟨A9, c9, rfl, hc9, hr9, hB9⟩); obtain ⟨k3o0, k3o1, k3o2, k3o3⟩ := im_keep hB9 (by exact l2o) k2o0 k2o1 k2o2 k2o3; have l3o : u2.heap.size < u9.heap.size := Nat.lt_of_lt_of_le (by exact l2o) hB9.size; have HT9 := Lib.hid (((HT8.out).call hB9).add hr9); clear hr9 hB9) | (go_at_call 17; ((with_reducible refine (lEqIm X Y Z ys A9 A2 c9 c2 _ (by exact ((HT9.out).rds (A := A9) (xs := ys) (by simp))) (by exact ((HT9.out).rds (A := A2) (xs := ys) (by simp))) (by first | omega | assumption)).mono ?_); rintro e u10 ⟨rfl, hB10⟩); obtain ⟨k4o0, k4o1, k4o2, k4o3⟩ := im_keep hB10 (by exact l3o) k3o0 k3o1 k3o2 k3o3; have l4o : u2.heap.size < u10.heap.size := Nat.lt_of_lt_of_le (by exact l3o) hB10.size; have HT10 := Lib.hid ((HT9.out).call hB10); clear hB10))
        all_goals
          clear o0 o1 o2 o3 ol k0o0 k0o1 k0o2 k0o3 k1o0 k1o1 k1o2 k1o3 k2o0 k2o1 k2o2 k2o3 k3o0 k3o1 k3o2 k3o3 k4o0 k4o1 k4o2 k4o3 l0o l1o l2o l3o l4o HS
          have S10 := HT10.out
          clear HT6 HT7 HT8 HT9 HT10
          go_wp2
          go_ret
          exact ⟨rfl, S10.1⟩

/-! ### From the walk to the statement. -/
theorem own : ownKnob Try.prog.godebug = none := by kernel_rfl
theorem laidOut : laidOutB Try.prog = true := by kernel_rfl
set_option maxRecDepth 100000 in
theorem lifted (os : Os) (started : os.Started) (H : Type) (enc : TypeId × Value → H) :
    ReturnsInHanded {} Try.checked os 7 .any (Rows.fnFillImageTurnSpec.pre6 enc Try.prog Try.f7 Rows.fnFillImageTurnRow.domain false) (Rows.fnFillImageTurnSpec.post enc Try.prog Try.f7 false true false false) := by
  refine returnsInHanded_of_change (C := Try.checked) own started (by kernel_rfl) Try.func7
    (ChangeSpec.witness6 (enc := enc) (C := Try.checked) false ⟨#[], #[.slice none 0 0], []⟩ 8 (by kernel_rfl) (by kernel_rfl) (by kernel_rfl) (by kernel_rfl)) ?_
  intro W base args ds gs before hval0 hW hcnd _
  have hval : ∀ (j : Nat) t v, Try.f7.params[j]? = some t → args[j]? = some v → Value.okWide Try.prog W .any base t v := hval0
  have hW' := hW
  obtain ⟨p, q, hA0, hV, rfl, hfz, hnd⟩ := hW
  have hA : DataW.TrodAll enc Try.prog W 0 (fun _ => true) true Try.f7.params.toList args.toList ds p := hA0
  rw [Try.params7] at hA hval
  obtain ⟨v0, vs0, d0, ds0, p0, q0, hargs, rfl, rfl, h0, r0⟩ := trodAll_cons hA
  obtain ⟨rfl, rfl, rfl⟩ := trodAll_nil r0
  obtain rfl : args = #[v0] := by cases args; simp_all
  obtain ⟨rfl, rfl⟩ := trodVars_none hV
  obtain ⟨a0, len0, cap0, rfl⟩ := okWide_slice Try.underlying22 (hval 0 22 v0 rfl rfl)
  have k0 := h0
  have lt0 : ∀ x ∈ p0, x.block < W.heap.size := by obtain ⟨m, hm⟩ := k0; exact DataW.trod_lt m _ _ _ hm
  obtain ⟨z0, hl0, hc0, w0⟩ : ∃ zs : List Int, len0 = zs.length ∧ zs.length ≤ cap0 ∧ Rdw .u8 W W.heap.size a0 zs := by
    obtain ⟨fuel, hf⟩ := h0
    rcases open_ints Try.underlying22 Try.underlying5 (by kernel_rfl) hf with ⟨hcs, _⟩ | ⟨x, l, c, zs, hcs, _, hl, hm, hz, _, hcell, hwz⟩
    · simp [Value.cells] at hcs
      obtain ⟨rfl, rfl, rfl⟩ := hcs
      exact ⟨[], rfl, Nat.le_refl _, Rdw.nil⟩
    · simp [Value.cells] at hcs
      obtain ⟨rfl, rfl, rfl⟩ := hcs
      exact ⟨zs.take len0, by simp at hz ⊢; omega, by simp at hz ⊢; omega, Rdw.of_row hl hm (by simpa using hz) hcell hwz⟩
  subst hl0
  clear hA0 hval0
  refine (walk W a0 cap0 z0 hc0 w0).mono fun e W' ⟨he, bel⟩ => ?_
  subst he
  exact ⟨_, rfl, _, _, _, [], _, [], hW', trodAll_mk1 (shut_bool Try.underlying4 _), (trodAll_cons_mk (Below.trod laidOut (by kernel_rfl) (of_decide_eq_true (by kernel_rfl)) k0 bel lt0) trodAll_mk0), rfl, bel.frame _, fun h => by cases h⟩

theorem over : Rows.fnFillImageTurnRow.holds Try.pinned (OpenSpec.ofChange Rows.fnFillImageTurnSpec) :=
  OpenClaim.holds_of_wide 7 Try.f7 rfl rfl rfl rfl rfl rfl rfl ⟨rfl, rfl, rfl, rfl, rfl⟩ rfl rfl rfl rfl rfl (by kernel_rfl) Try.func7 (by kernel_rfl)
    (of_decide_eq_true (by kernel_rfl)) (by unfold Func.isWrapper; first | (rw [if_pos (by decide +kernel)]; kernel_rfl) | (rw [if_neg (by decide +kernel)]; exact ⟨rfl, rfl⟩))
    (fun os started H enc _ => lifted os started H enc)

theorem proved : Rows.FnFillImageTurnSaid := over
end Go.Proofs.Ytpgicdnbdjdceaa.fnFillImageTurn
