/- Whatever the code: PixelAt of the drawn image answers what the model answers, and where there is a pixel, it lies in the mirrored image at the mirrored column and in the transposed image at the transposed place. -/
import Derived.Test.YtpgicdnbdjdceaaRows
import Derived.WalkKit
import Derived.ProofKit
import Derived.OpenShut
import Derived.ShutString
import Derived.ChangeOld
import Derived.Below
import Derived.Test.YtpgicdnbdjdceaaImgL
import Derived.Test.YtpgicdnbdjdceaaDrawImg3
import Derived.Deep.QuietTactic
import Derived.BigQuiet
namespace Go.Proofs.Ytpgicdnbdjdceaa.fnMirrorPixels
open Go.ChangeShapes Go.WideShapes Go.ChangeAt Go.RowKit
open Go.ChangeMaps (open_string shut_string)
set_option linter.unusedVariables false

set_option maxHeartbeats 16000000 in
theorem walk (w : World) (a0 : Option Addr) (cap0 : Nat) (z0 : List Int) (hc0 : z0.length ≤ cap0) (w0 : Rdw .u8 w w.heap.size a0 z0) :
    Calls Try.prog 8 #[.slice a0 z0.length cap0] w fun e w' => e = .returned (.bool true) ∧ Below w.heap.size w w' := by
  have hm := w0.2.1
  unfold maxLen at hm
  by_cases hlen : 1048576 < z0.length
  · go_enter Try.func8, Try.ntmps8
    go_wp2
    go_ret
    exact ⟨rfl, Below.refl _ _⟩
  · go_enter Try.func8, Try.ntmps8
    go_wp2_with fail
    refine (drawPix_any a0 cap0 z0 w hc0 w0).mono ?_
    rintro e u1 ⟨W, H, P, A, c, xs, x, y, rfl, hx, hxc, hr, hbel⟩
    have S1 : LSt w u1 [(A, xs)] [] := (LSt.start hbel).add hr
    obtain ⟨q, hq, HI, HQ, hor⟩ := mpx_law W H P x y xs hx
    clear w0 hr hbel hm
    have S2 : LSt w (u1.alloc (.cells #[.int .i64 W, .int .i64 H, .int .i64 P, .slice A xs.length c] 25)) [(A, xs)] [⟨u1.heap.size, 25, imC W H P (.slice A xs.length c)⟩] := S1.box 25 (imC W H P (.slice A xs.length c))
    clear S1
    go_wp2_with fail
    generalize u1.alloc (.cells #[.int .i64 W, .int .i64 H, .int .i64 P, .slice A xs.length c] 25) = u2 at *
    refine (PxC.use HI A c _ ((S2).rds (A := A) (xs := xs) (by simp)) hxc).mono ?_
    rintro e u3 ⟨A3, c3, rfl, hc3, hr3, hB3⟩
    have S3 := (S2.call hB3).add hr3
    clear hr3 hB3 S2
    rcases hor with hX | ⟨hX, hW1, hW2, hx0, hx1, X1, Y1, Z1, X2, Y2, Z2, al, bl, hal, hbl, HM, HP1, HT, HP2⟩
    · have hX0 : ((q.length : Int) == 0) = true := by simp [hX]
      obtain ⟨m0, m1, m2, m3⟩ := S3.im (g := u1.heap.size) (T := 25) (X := W) (Y := H) (Z := P) (v := .slice A xs.length c) (by simp)
      have ml := S3.lt (g := u1.heap.size) (T := 25) (cs := imC W H P (.slice A xs.length c)) (by simp)
      clear hX
      go_wp2_with fail
      refine (PxC.use HQ A c _ ((S3).rds (A := A) (xs := xs) (by simp)) hxc).mono ?_
      rintro e u4 ⟨A4, c4, rfl, hc4, hr4, hB4⟩
      have S4 := (S3.call hB4).add hr4
      clear m0 m1 m2 m3 ml
      clear hr4 hB4 S3
      go_wp2_with fail
      refine (lEqInts_same A3 A4 c3 c4 q _ ((S4).rds (A := A3) (xs := q) (by simp)) ((S4).rds (A := A4) (xs := q) (by simp)) (by omega)).mono ?_
      rintro e u5 ⟨rfl, hB5⟩
      have S5 := S4.call hB5
      clear hB5 S4
      obtain ⟨m0, m1, m2, m3⟩ := S5.im (g := u1.heap.size) (T := 25) (X := W) (Y := H) (Z := P) (v := .slice A xs.length c) (by simp)
      have ml := S5.lt (g := u1.heap.size) (T := 25) (cs := imC W H P (.slice A xs.length c)) (by simp)
      go_wp2_with fail
      refine (PxC.use HQ A c _ ((S5).rds (A := A) (xs := xs) (by simp)) hxc).mono ?_
      rintro e u6 ⟨A6, c6, rfl, hc6, hr6, hB6⟩
      have S6 := (S5.call hB6).add hr6
      clear m0 m1 m2 m3 ml
      clear hr6 hB6 S5
      go_wp2_with fail
      refine (lEqInts_same A3 A6 c3 c6 q _ ((S6).rds (A := A3) (xs := q) (by simp)) ((S6).rds (A := A6) (xs := q) (by simp)) (by omega)).mono ?_
      rintro e u7 ⟨rfl, hB7⟩
      have S7 := S6.call hB7
      clear hB7 S6
      go_wp2
      go_ret
      exact ⟨rfl, S7.1⟩
    · have hX0 : ((q.length : Int) == 0) = false := beq_eq_false_iff_ne.2 (by omega)
      obtain ⟨m0, m1, m2, m3⟩ := S3.im (g := u1.heap.size) (T := 25) (X := W) (Y := H) (Z := P) (v := .slice A xs.length c) (by simp)
      have ml := S3.lt (g := u1.heap.size) (T := 25) (cs := imC W H P (.slice A xs.length c)) (by simp)
      go_wp2_with fail
      refine (PxC.use HQ A c _ ((S3).rds (A := A) (xs := xs) (by simp)) hxc).mono ?_
      rintro e u4 ⟨A4, c4, rfl, hc4, hr4, hB4⟩
      have S4 := (S3.call hB4).add hr4
      clear m0 m1 m2 m3 ml
      clear hr4 hB4 S3
      go_wp2_with fail
      refine (lEqInts_same A3 A4 c3 c4 q _ ((S4).rds (A := A3) (xs := q) (by simp)) ((S4).rds (A := A4) (xs := q) (by simp)) (by omega)).mono ?_
      rintro e u5 ⟨rfl, hB5⟩
      have S5 := S4.call hB5
      clear hB5 S4
      have hw1 : IntKind.i64.wrap (W - 1) = W - 1 := IntWalk.i64_in _ (by omega)
      have hw2 : IntKind.i64.wrap (W - 1 - x) = W - 1 - x := IntWalk.i64_in _ (by omega)
      go_wp2
      obtain ⟨m0, m1, m2, m3⟩ := S5.im (g := u1.heap.size) (T := 25) (X := W) (Y := H) (Z := P) (v := .slice A xs.length c) (by simp)
      have ml := S5.lt (g := u1.heap.size) (T := 25) (cs := imC W H P (.slice A xs.length c)) (by simp)
      have HS := Lib.hid S5
      clear S5
      skip
      go_region_held3 (fun w' => (w'.cell? ⟨u1.heap.size, 0, none⟩ = some (.int .i64 W) ∧ w'.cell? ⟨u1.heap.size, 1, none⟩ = some (.int .i64 H) ∧ w'.cell? ⟨u1.heap.size, 2, none⟩ = some (.int .i64 P) ∧ w'.cell? ⟨u1.heap.size, 3, none⟩ = some (.slice A xs.length c))) (first | (with_reducible exact ⟨k5m0, k5m1, k5m2, k5m3⟩) | (with_reducible exact ⟨k4m0, k4m1, k4m2, k4m3⟩) | (with_reducible exact ⟨k3m0, k3m1, k3m2, k3m3⟩) | (with_reducible exact ⟨k2m0, k2m1, k2m2, k2m3⟩) | (with_reducible exact ⟨k1m0, k1m1, k1m2, k1m3⟩) | (with_reducible exact ⟨k0m0, k0m1, k0m2, k0m3⟩) | exact ⟨m0, m1, m2, m3⟩ | go_keep) (first | (go_at_call 16; ((with_reducible refine (ImC0.use HM A c _ (by exact ((HS.out.drew).rds (A := A) (xs := xs) (by simp))) hxc).mono ?_); rintro e u6 ⟨A6, c6, rfl, hc6, hr6, hB6⟩); obtain ⟨k0m0, k0m1, k0m2, k0m3⟩ := im_keep hB6 (by exact ml) m0 m1 m2 m3; have l0m : u1.heap.size < u6.heap.size := Nat.lt_of_lt_of_le (by exact ml) hB6.size; have HT6 := Lib.hid (((HS.out.drew).call hB6).add hr6); clear hr6 hB6) | (go_at_call 20; ((with_reducible refine (PxC.use HP1 A6 c6 _ (by exact ((HT6.out).rds (A := A6) (xs := al) (by simp))) hc6).mono ?_); rintro e u7 ⟨A7, c7, rfl, hc7, hr7, hB7⟩); obtain ⟨k1m0, k1m1, k1m2, k1m3⟩ := im_keep hB7 (by exact l0m) k0m0 k0m1 k0m2 k0m3; have l1m : u1.heap.size < u7.heap.size := Nat.lt_of_lt_of_le (by exact l0m) hB7.size; have HT7 := Lib.hid (((HT6.out).call hB7).add hr7); clear hr7 hB7) | (go_at_call 19; ((with_reducible refine (lEqInts_same A7 A3 c7 c3 q _ (by exact ((HT7.out).rds (A := A7) (xs := q) (by simp))) (by exact ((HT7.out).rds (A := A3) (xs := q) (by simp))) (by first | omega | assumption)).mono ?_); rintro e u8 ⟨rfl, hB8⟩); obtain ⟨k2m0, k2m1, k2m2, k2m3⟩ := im_keep hB8 (by exact l1m) k1m0 k1m1 k1m2 k1m3; have l2m : u1.heap.size < u8.heap.size := Nat.lt_of_lt_of_le (by exact l1m) hB8.size; have HT8 := Lib.hid ((HT7.out).call hB8); clear hB8) | (go_at_call 25; ((with_reducible refine (ImC0.use HT A c _ (by exact ((HT8.out).rds (A := A) (xs := xs) (by simp))) hxc).mono ?_); rintro e u9 ⟨A9, c9, rfl, hc9, hr9, hB9⟩); obtain ⟨k3m0, k3m1, k3m2, k3m3⟩ := im_keep hB9 (by exact l2m) k2m0 k2m1 k2m2 k2m3; have l3m : u1.heap.size < u9.heap.size := Nat.lt_of_lt_of_le (by exact l2m) hB9.size; have HT9 := Lib.hid (((HT8.out).call hB9).add hr9); clear hr9 hB9) | (go_at_call 20; ((with_reducible refine (PxC.use HP2 A9 c9 _ (by exact ((HT9.out).rds (A := A9) (xs := bl) (by simp))) hc9).mono ?_); rintro e u10 ⟨A10, c10, rfl, hc10, hr10, hB10⟩); obtain ⟨k4m0, k4m1, k4m2, k4m3⟩ := im_keep hB10 (by exact l3m) k3m0 k3m1 k3m2 k3m3; have l4m : u1.heap.size < u10.heap.size := Nat.lt_of_lt_of_le (by exact l3m) hB10.size; have HT10 := Lib.hid (((HT9.out).call hB10).add hr10); clear hr10 hB10) | (go_at_call 19; ((with_reducible refine (lEqInts_same A10 A3 c10 c3 q _ (by exact ((HT10.out).rds (A := A10) (xs := q) (by simp))) (by exact ((HT10.out).rds (A := A3) (xs := q) (by simp))) (by first | omega | assumption)).mono ?_); rintro e u11 ⟨rfl, hB11⟩); obtain ⟨k5m0, k5m1, k5m2, k5m3⟩ := im_keep hB11 (by exact l4m) k4m0 k4m1 k4m2 k4m3; have l5m : u1.heap.size < u11.heap.size := Nat.lt_of_lt_of_le (by exact l4m) hB11.size; have HT11 := Lib.hid ((HT10.out).call hB11); clear hB11))
      all_goals
        clear m0 m1 m2 m3 ml k0m0 k0m1 k0m2 k0m3 k1m0 k1m1 k1m2 k1m3 k2m0 k2m1 k2m2 k2m3 k3m0 k3m1 k3m2 k3m3 k4m0 k4m1 k4m2 k4m3 k5m0 k5m1 k5m2 k5m3 l0m l1m l2m l3m l4m l5m HS
        have S11 := HT11.out
        clear HT6 HT7 HT8 HT9 HT10 HT11
        go_wp2
        go_ret
        exact ⟨rfl, S11.1⟩

/-! ### From the walk to the statement. -/
theorem own : ownKnob Try.prog.godebug = none := by kernel_rfl
theorem laidOut : laidOutB Try.prog = true := by kernel_rfl
set_option maxRecDepth 100000 in
theorem lifted (os : Os) (started : os.Started) (H : Type) (enc : TypeId × Value → H) :
    ReturnsInHanded {} Try.checked os 8 .any (Rows.fnMirrorPixelsSpec.pre6 enc Try.prog Try.f8 Rows.fnMirrorPixelsRow.domain false) (Rows.fnMirrorPixelsSpec.post enc Try.prog Try.f8 false true false false) := by
  refine returnsInHanded_of_change (C := Try.checked) own started (by kernel_rfl) Try.func8
    (ChangeSpec.witness6 (enc := enc) (C := Try.checked) false ⟨#[], #[.slice none 0 0], []⟩ 8 (by kernel_rfl) (by kernel_rfl) (by kernel_rfl) (by kernel_rfl)) ?_
  intro W base args ds gs before hval0 hW hcnd _
  have hval : ∀ (j : Nat) t v, Try.f8.params[j]? = some t → args[j]? = some v → Value.okWide Try.prog W .any base t v := hval0
  have hW' := hW
  obtain ⟨p, q, hA0, hV, rfl, hfz, hnd⟩ := hW
  have hA : DataW.TrodAll enc Try.prog W 0 (fun _ => true) true Try.f8.params.toList args.toList ds p := hA0
  rw [Try.params8] at hA hval
  obtain ⟨v0, vs0, d0, ds0, p0, q0, hargs, rfl, rfl, h0, r0⟩ := trodAll_cons hA
  obtain ⟨rfl, rfl, rfl⟩ := trodAll_nil r0
  obtain rfl : args = #[v0] := by cases args; simp_all
  obtain ⟨rfl, rfl⟩ := trodVars_none hV
  obtain ⟨a0, len0, cap0, rfl⟩ := okWide_slice Try.underlying22 (hval 0 22 v0 rfl rfl)
  have k0 := h0
  have lt0 : ∀ x ∈ p0, x.block < W.heap.size := by obtain ⟨m, hm⟩ := k0; exact DataW.trod_lt m _ _ _ hm
  obtain ⟨z0, hl0, hc0, w0⟩ : ∃ zs : List Int, len0 = zs.length ∧ zs.length ≤ cap0 ∧ Rdw .u8 W W.heap.size a0 zs := by
    obtain ⟨fuel, hf⟩ := h0
    rcases open_ints Try.underlying22 Try.underlying5 (by kernel_rfl) hf with ⟨hcs, _⟩ | ⟨x, l, c, zs, hcs, _, hl, hm, hz, _, hcell, hwz⟩
    · simp [Value.cells] at hcs
      obtain ⟨rfl, rfl, rfl⟩ := hcs
      exact ⟨[], rfl, Nat.le_refl _, Rdw.nil⟩
    · simp [Value.cells] at hcs
      obtain ⟨rfl, rfl, rfl⟩ := hcs
      exact ⟨zs.take len0, by simp at hz ⊢; omega, by simp at hz ⊢; omega, Rdw.of_row hl hm (by simpa using hz) hcell hwz⟩
  subst hl0
  clear hA0 hval0
  refine (walk W a0 cap0 z0 hc0 w0).mono fun e W' ⟨he, bel⟩ => ?_
  subst he
  exact ⟨_, rfl, _, _, _, [], _, [], hW', trodAll_mk1 (shut_bool Try.underlying4 _), (trodAll_cons_mk (Below.trod laidOut (by kernel_rfl) (of_decide_eq_true (by kernel_rfl)) k0 bel lt0) trodAll_mk0), rfl, bel.frame _, fun h => by cases h⟩

theorem over : Rows.fnMirrorPixelsRow.holds Try.pinned (OpenSpec.ofChange Rows.fnMirrorPixelsSpec) :=
  OpenClaim.holds_of_wide 8 Try.f8 rfl rfl rfl rfl rfl rfl rfl ⟨rfl, rfl, rfl, rfl, rfl⟩ rfl rfl rfl rfl rfl (by kernel_rfl) Try.func8 (by kernel_rfl)
    (of_decide_eq_true (by kernel_rfl)) (by unfold Func.isWrapper; first | (rw [if_pos (by decide +kernel)]; kernel_rfl) | (rw [if_neg (by decide +kernel)]; exact ⟨rfl, rfl⟩))
    (fun os started H enc _ => lifted os started H enc)

theorem proved : Rows.FnMirrorPixelsSaid := over
end Go.Proofs.Ytpgicdnbdjdceaa.fnMirrorPixels
