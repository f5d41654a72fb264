/- Whatever the code: CropImage of the drawn image and box answers what the model answers, and where there is a part of two columns or more, the part of the part without its first column is the part one column further. -/
import Derived.Test.YtkamopjflonmcaaRows
import Derived.WalkKit
import Derived.ProofKit
import Derived.OpenShut
import Derived.ShutString
import Derived.ChangeOld
import Derived.Below
import Derived.Test.YtkamopjflonmcaaImgC
import Derived.Test.YtkamopjflonmcaaDrawCrop
import Derived.Deep.QuietTactic
import Derived.BigQuiet
namespace Go.Proofs.Ytkamopjflonmcaa.fnCropImageTwice
open Go.ChangeShapes Go.WideShapes Go.ChangeAt Go.RowKit
open Go.ChangeMaps (open_string shut_string)
set_option linter.unusedVariables false

set_option maxHeartbeats 16000000 in
theorem walk (w : World) (a0 : Option Addr) (cap0 : Nat) (z0 : List Int) (hc0 : z0.length ≤ cap0) (w0 : Rdw .u8 w w.heap.size a0 z0) :
    Calls Try.prog 4 #[.slice a0 z0.length cap0] w fun e w' => e = .returned (.bool true) ∧ Below w.heap.size w w' := by
  have hm := w0.2.1
  unfold maxLen at hm
  by_cases hlen : 1048576 < z0.length
  · go_enter Try.func4, Try.ntmps4
    go_wp2
    go_ret
    exact ⟨rfl, Below.refl _ _⟩
  · go_enter Try.func4, Try.ntmps4
    go_wp2_with fail
    refine (drawCrop_any a0 cap0 z0 w hc0 w0).mono ?_
    rintro e u1 ⟨W, H, P, A, c, xs, bx, by_, bw, bh, rfl, hxx, hxc, hr, hbel⟩
    obtain ⟨hx, ⟨hx0, hx1⟩, ⟨hy0, hy1⟩, ⟨hw0, hw1⟩, hh0, hh1⟩ := hxx
    have S1 : LSt w u1 [(A, xs)] [] := (LSt.start hbel).add hr
    obtain ⟨X, Y, Z, ys, ok, hys, HI, HQ, hor⟩ := crt_law W H P xs hx bx by_ bw bh
    clear w0 hr hbel hm
    have S2 : LSt w (u1.alloc (.cells #[.int .i64 W, .int .i64 H, .int .i64 P, .slice A xs.length c] 25)) [(A, xs)] [⟨u1.heap.size, 25, imC W H P (.slice A xs.length c)⟩] := S1.box 25 (imC W H P (.slice A xs.length c))
    clear S1
    have hmz : (u1.alloc (.cells #[.int .i64 W, .int .i64 H, .int .i64 P, .slice A xs.length c] 25)).heap.size = u1.heap.size + 1 := by simp
    have S3 : LSt w ((u1.alloc (.cells #[.int .i64 W, .int .i64 H, .int .i64 P, .slice A xs.length c] 25)).alloc (.cells #[.int .i64 bx, .int .i64 by_, .int .i64 bw, .int .i64 bh] 27)) [(A, xs)] [⟨(u1.alloc (.cells #[.int .i64 W, .int .i64 H, .int .i64 P, .slice A xs.length c] 25)).heap.size, 27, #[.int .i64 bx, .int .i64 by_, .int .i64 bw, .int .i64 bh]⟩, ⟨u1.heap.size, 25, imC W H P (.slice A xs.length c)⟩] := S2.box 27 #[.int .i64 bx, .int .i64 by_, .int .i64 bw, .int .i64 bh]
    clear S2
    rw [hmz] at S3
    clear hmz
    go_wp2_with fail
    generalize (u1.alloc (.cells #[.int .i64 W, .int .i64 H, .int .i64 P, .slice A xs.length c] 25)).alloc (.cells #[.int .i64 bx, .int .i64 by_, .int .i64 bw, .int .i64 bh] 27) = u2 at *
    refine (CrC.use HI A c _ ((S3).rds (A := A) (xs := xs) (by simp)) hxc).mono ?_
    rintro e u4 ⟨A4, c4, rfl, hc4, hr4, hB4⟩
    have S4 := (S3.call hB4).add hr4
    clear hr4 hB4 S3
    obtain ⟨m0, m1, m2, m3⟩ := S4.im (g := u1.heap.size) (T := 25) (X := W) (Y := H) (Z := P) (v := .slice A xs.length c) (by simp)
    have ml := S4.lt (g := u1.heap.size) (T := 25) (cs := imC W H P (.slice A xs.length c)) (by simp)
    obtain ⟨b0, b1, b2, b3⟩ := bx4 (S4.2.2 ⟨(u1.heap.size + 1), 27, #[.int .i64 bx, .int .i64 by_, .int .i64 bw, .int .i64 bh]⟩ (by simp))
    have bl := S4.lt (g := (u1.heap.size + 1)) (T := 27) (cs := #[.int .i64 bx, .int .i64 by_, .int .i64 bw, .int .i64 bh]) (by simp)
    have S5 : LSt w (u4.alloc (.cells #[.int .i64 X, .int .i64 Y, .int .i64 Z, .slice A4 ys.length c4] 25)) [(A4, ys), (A, xs)] [⟨u4.heap.size, 25, imC X Y Z (.slice A4 ys.length c4)⟩, ⟨(u1.heap.size + 1), 27, #[.int .i64 bx, .int .i64 by_, .int .i64 bw, .int .i64 bh]⟩, ⟨u1.heap.size, 25, imC W H P (.slice A xs.length c)⟩] := S4.box 25 (imC X Y Z (.slice A4 ys.length c4))
    clear S4
    go_wp2_with fail
    clear m0 m1 m2 m3 ml b0 b1 b2 b3 bl
    generalize u4.alloc (.cells #[.int .i64 X, .int .i64 Y, .int .i64 Z, .slice A4 ys.length c4] 25) = u5 at *
    refine (CrC.use HQ A c _ ((S5).rds (A := A) (xs := xs) (by simp)) hxc).mono ?_
    rintro e u6 ⟨A6, c6, rfl, hc6, hr6, hB6⟩
    have S6 := (S5.call hB6).add hr6
    clear hr6 hB6 S5
    obtain ⟨o0, o1, o2, o3⟩ := S6.im (g := u4.heap.size) (T := 25) (X := X) (Y := Y) (Z := Z) (v := .slice A4 ys.length c4) (by simp)
    have ol := S6.lt (g := u4.heap.size) (T := 25) (cs := imC X Y Z (.slice A4 ys.length c4)) (by simp)
    have S7 : LSt w (u6.alloc (.cells #[.int .i64 X, .int .i64 Y, .int .i64 Z, .slice A6 ys.length c6] 25)) [(A6, ys), (A4, ys), (A, xs)] [⟨u6.heap.size, 25, imC X Y Z (.slice A6 ys.length c6)⟩, ⟨u4.heap.size, 25, imC X Y Z (.slice A4 ys.length c4)⟩, ⟨(u1.heap.size + 1), 27, #[.int .i64 bx, .int .i64 by_, .int .i64 bw, .int .i64 bh]⟩, ⟨u1.heap.size, 25, imC W H P (.slice A xs.length c)⟩] := S6.box 25 (imC X Y Z (.slice A6 ys.length c6))
    clear S6
    go_wp2_with fail
    clear o0 o1 o2 o3 ol
    generalize u6.alloc (.cells #[.int .i64 X, .int .i64 Y, .int .i64 Z, .slice A6 ys.length c6] 25) = u7 at *
    refine (lEqIm X Y Z ys A4 A6 c4 c6 _ ((S7).rds (A := A4) (xs := ys) (by simp)) ((S7).rds (A := A6) (xs := ys) (by simp)) (by omega)).mono ?_
    rintro e u8 ⟨rfl, hB8⟩
    have S8 := S7.call hB8
    clear hB8 S7
    rcases hor with rfl | ⟨rfl, hb2⟩ | ⟨rfl, hb2, X2, Y2, Z2, zs, hzs, HC1, HC2⟩
    · skip
      obtain ⟨b0, b1, b2, b3⟩ := bx4 (S8.2.2 ⟨(u1.heap.size + 1), 27, #[.int .i64 bx, .int .i64 by_, .int .i64 bw, .int .i64 bh]⟩ (by simp))
      have bl := S8.lt (g := (u1.heap.size + 1)) (T := 27) (cs := #[.int .i64 bx, .int .i64 by_, .int .i64 bw, .int .i64 bh]) (by simp)
      obtain ⟨o0, o1, o2, o3⟩ := S8.im (g := u4.heap.size) (T := 25) (X := X) (Y := Y) (Z := Z) (v := .slice A4 ys.length c4) (by simp)
      have ol := S8.lt (g := u4.heap.size) (T := 25) (cs := imC X Y Z (.slice A4 ys.length c4)) (by simp)
      obtain ⟨j0, j1, j2, j3⟩ := S8.im (g := u6.heap.size) (T := 25) (X := X) (Y := Y) (Z := Z) (v := .slice A6 ys.length c6) (by simp)
      have jl := S8.lt (g := u6.heap.size) (T := 25) (cs := imC X Y Z (.slice A6 ys.length c6)) (by simp)
      go_wp2_with fail
      refine (lEqIm X Y Z ys A4 A6 c4 c6 _ ((S8).rds (A := A4) (xs := ys) (by simp)) ((S8).rds (A := A6) (xs := ys) (by simp)) (by omega)).mono ?_
      rintro e u9 ⟨rfl, hB9⟩
      have S9 := S8.call hB9
      clear b0 b1 b2 b3 bl o0 o1 o2 o3 ol j0 j1 j2 j3 jl
      clear hB9 S8
      go_wp2
      go_ret
      exact ⟨rfl, S9.1⟩
    · skip
      obtain ⟨b0, b1, b2, b3⟩ := bx4 (S8.2.2 ⟨(u1.heap.size + 1), 27, #[.int .i64 bx, .int .i64 by_, .int .i64 bw, .int .i64 bh]⟩ (by simp))
      have bl := S8.lt (g := (u1.heap.size + 1)) (T := 27) (cs := #[.int .i64 bx, .int .i64 by_, .int .i64 bw, .int .i64 bh]) (by simp)
      obtain ⟨o0, o1, o2, o3⟩ := S8.im (g := u4.heap.size) (T := 25) (X := X) (Y := Y) (Z := Z) (v := .slice A4 ys.length c4) (by simp)
      have ol := S8.lt (g := u4.heap.size) (T := 25) (cs := imC X Y Z (.slice A4 ys.length c4)) (by simp)
      obtain ⟨j0, j1, j2, j3⟩ := S8.im (g := u6.heap.size) (T := 25) (X := X) (Y := Y) (Z := Z) (v := .slice A6 ys.length c6) (by simp)
      have jl := S8.lt (g := u6.heap.size) (T := 25) (cs := imC X Y Z (.slice A6 ys.length c6)) (by simp)
      go_wp2_with fail
      refine (lEqIm X Y Z ys A4 A6 c4 c6 _ ((S8).rds (A := A4) (xs := ys) (by simp)) ((S8).rds (A := A6) (xs := ys) (by simp)) (by omega)).mono ?_
      rintro e u9 ⟨rfl, hB9⟩
      have S9 := S8.call hB9
      clear b0 b1 b2 b3 bl o0 o1 o2 o3 ol j0 j1 j2 j3 jl
      clear hB9 S8
      go_wp2
      go_ret
      exact ⟨rfl, S9.1⟩
    · have hq1 : IntKind.i64.wrap (bw - 1) = bw - 1 := IntWalk.i64_in _ (by omega)
      have hq2 : IntKind.i64.wrap (bx + 1) = bx + 1 := IntWalk.i64_in _ (by omega)
      obtain ⟨b0, b1, b2, b3⟩ := bx4 (S8.2.2 ⟨(u1.heap.size + 1), 27, #[.int .i64 bx, .int .i64 by_, .int .i64 bw, .int .i64 bh]⟩ (by simp))
      have bl := S8.lt (g := (u1.heap.size + 1)) (T := 27) (cs := #[.int .i64 bx, .int .i64 by_, .int .i64 bw, .int .i64 bh]) (by simp)
      obtain ⟨o0, o1, o2, o3⟩ := S8.im (g := u4.heap.size) (T := 25) (X := X) (Y := Y) (Z := Z) (v := .slice A4 ys.length c4) (by simp)
      have ol := S8.lt (g := u4.heap.size) (T := 25) (cs := imC X Y Z (.slice A4 ys.length c4)) (by simp)
      obtain ⟨j0, j1, j2, j3⟩ := S8.im (g := u6.heap.size) (T := 25) (X := X) (Y := Y) (Z := Z) (v := .slice A6 ys.length c6) (by simp)
      have jl := S8.lt (g := u6.heap.size) (T := 25) (cs := imC X Y Z (.slice A6 ys.length c6)) (by simp)
      go_wp2_with fail
      refine (CrC.use HC1 A4 c4 _ ((S8).rds (A := A4) (xs := ys) (by simp)) hc4).mono ?_
      rintro e u9 ⟨A9, c9, rfl, hc9, hr9, hB9⟩
      have S9 := (S8.call hB9).add hr9
      clear b0 b1 b2 b3 bl o0 o1 o2 o3 ol j0 j1 j2 j3 jl
      clear hr9 hB9 S8
      obtain ⟨m0, m1, m2, m3⟩ := S9.im (g := u1.heap.size) (T := 25) (X := W) (Y := H) (Z := P) (v := .slice A xs.length c) (by simp)
      have ml := S9.lt (g := u1.heap.size) (T := 25) (cs := imC W H P (.slice A xs.length c)) (by simp)
      obtain ⟨b0, b1, b2, b3⟩ := bx4 (S9.2.2 ⟨(u1.heap.size + 1), 27, #[.int .i64 bx, .int .i64 by_, .int .i64 bw, .int .i64 bh]⟩ (by simp))
      have bl := S9.lt (g := (u1.heap.size + 1)) (T := 27) (cs := #[.int .i64 bx, .int .i64 by_, .int .i64 bw, .int .i64 bh]) (by simp)
      have S10 : LSt w (u9.alloc (.cells #[.int .i64 X2, .int .i64 Y2, .int .i64 Z2, .slice A9 zs.length c9] 25)) [(A9, zs), (A6, ys), (A4, ys), (A, xs)] [⟨u9.heap.size, 25, imC X2 Y2 Z2 (.slice A9 zs.length c9)⟩, ⟨u6.heap.size, 25, imC X Y Z (.slice A6 ys.length c6)⟩, ⟨u4.heap.size, 25, imC X Y Z (.slice A4 ys.length c4)⟩, ⟨(u1.heap.size + 1), 27, #[.int .i64 bx, .int .i64 by_, .int .i64 bw, .int .i64 bh]⟩, ⟨u1.heap.size, 25, imC W H P (.slice A xs.length c)⟩] := S9.box 25 (imC X2 Y2 Z2 (.slice A9 zs.length c9))
      clear S9
      go_wp2_with fail
      clear m0 m1 m2 m3 ml b0 b1 b2 b3 bl
      generalize u9.alloc (.cells #[.int .i64 X2, .int .i64 Y2, .int .i64 Z2, .slice A9 zs.length c9] 25) = u10 at *
      refine (CrC.use HC2 A c _ ((S10).rds (A := A) (xs := xs) (by simp)) hxc).mono ?_
      rintro e u11 ⟨A11, c11, rfl, hc11, hr11, hB11⟩
      have S11 := (S10.call hB11).add hr11
      clear hr11 hB11 S10
      obtain ⟨k0, k1, k2, k3⟩ := S11.im (g := u9.heap.size) (T := 25) (X := X2) (Y := Y2) (Z := Z2) (v := .slice A9 zs.length c9) (by simp)
      have kl := S11.lt (g := u9.heap.size) (T := 25) (cs := imC X2 Y2 Z2 (.slice A9 zs.length c9)) (by simp)
      have S12 : LSt w (u11.alloc (.cells #[.int .i64 X2, .int .i64 Y2, .int .i64 Z2, .slice A11 zs.length c11] 25)) [(A11, zs), (A9, zs), (A6, ys), (A4, ys), (A, xs)] [⟨u11.heap.size, 25, imC X2 Y2 Z2 (.slice A11 zs.length c11)⟩, ⟨u9.heap.size, 25, imC X2 Y2 Z2 (.slice A9 zs.length c9)⟩, ⟨u6.heap.size, 25, imC X Y Z (.slice A6 ys.length c6)⟩, ⟨u4.heap.size, 25, imC X Y Z (.slice A4 ys.length c4)⟩, ⟨(u1.heap.size + 1), 27, #[.int .i64 bx, .int .i64 by_, .int .i64 bw, .int .i64 bh]⟩, ⟨u1.heap.size, 25, imC W H P (.slice A xs.length c)⟩] := S11.box 25 (imC X2 Y2 Z2 (.slice A11 zs.length c11))
      clear S11
      go_wp2_with fail
      clear k0 k1 k2 k3 kl
      generalize u11.alloc (.cells #[.int .i64 X2, .int .i64 Y2, .int .i64 Z2, .slice A11 zs.length c11] 25) = u12 at *
      refine (lEqIm X2 Y2 Z2 zs A9 A11 c9 c11 _ ((S12).rds (A := A9) (xs := zs) (by simp)) ((S12).rds (A := A11) (xs := zs) (by simp)) (by omega)).mono ?_
      rintro e u13 ⟨rfl, hB13⟩
      have S13 := S12.call hB13
      clear hB13 S12
      go_wp2
      go_ret
      exact ⟨rfl, S13.1⟩

/-! ### From the walk to the statement. -/
theorem own : ownKnob Try.prog.godebug = none := by kernel_rfl
theorem laidOut : laidOutB Try.prog = true := by kernel_rfl
set_option maxRecDepth 100000 in
theorem lifted (os : Os) (started : os.Started) (H : Type) (enc : TypeId × Value → H) :
    ReturnsInHanded {} Try.checked os 4 .any (Rows.fnCropImageTwiceSpec.pre6 enc Try.prog Try.f4 Rows.fnCropImageTwiceRow.domain false) (Rows.fnCropImageTwiceSpec.post enc Try.prog Try.f4 false true false false) := by
  refine returnsInHanded_of_change (C := Try.checked) own started (by kernel_rfl) Try.func4
    (ChangeSpec.witness6 (enc := enc) (C := Try.checked) false ⟨#[], #[.slice none 0 0], []⟩ 8 (by kernel_rfl) (by kernel_rfl) (by kernel_rfl) (by kernel_rfl)) ?_
  intro W base args ds gs before hval0 hW hcnd _
  have hval : ∀ (j : Nat) t v, Try.f4.params[j]? = some t → args[j]? = some v → Value.okWide Try.prog W .any base t v := hval0
  have hW' := hW
  obtain ⟨p, q, hA0, hV, rfl, hfz, hnd⟩ := hW
  have hA : DataW.TrodAll enc Try.prog W 0 (fun _ => true) true Try.f4.params.toList args.toList ds p := hA0
  rw [Try.params4] at hA hval
  obtain ⟨v0, vs0, d0, ds0, p0, q0, hargs, rfl, rfl, h0, r0⟩ := trodAll_cons hA
  obtain ⟨rfl, rfl, rfl⟩ := trodAll_nil r0
  obtain rfl : args = #[v0] := by cases args; simp_all
  obtain ⟨rfl, rfl⟩ := trodVars_none hV
  obtain ⟨a0, len0, cap0, rfl⟩ := okWide_slice Try.underlying22 (hval 0 22 v0 rfl rfl)
  have k0 := h0
  have lt0 : ∀ x ∈ p0, x.block < W.heap.size := by obtain ⟨m, hm⟩ := k0; exact DataW.trod_lt m _ _ _ hm
  obtain ⟨z0, hl0, hc0, w0⟩ : ∃ zs : List Int, len0 = zs.length ∧ zs.length ≤ cap0 ∧ Rdw .u8 W W.heap.size a0 zs := by
    obtain ⟨fuel, hf⟩ := h0
    rcases open_ints Try.underlying22 Try.underlying5 (by kernel_rfl) hf with ⟨hcs, _⟩ | ⟨x, l, c, zs, hcs, _, hl, hm, hz, _, hcell, hwz⟩
    · simp [Value.cells] at hcs
      obtain ⟨rfl, rfl, rfl⟩ := hcs
      exact ⟨[], rfl, Nat.le_refl _, Rdw.nil⟩
    · simp [Value.cells] at hcs
      obtain ⟨rfl, rfl, rfl⟩ := hcs
      exact ⟨zs.take len0, by simp at hz ⊢; omega, by simp at hz ⊢; omega, Rdw.of_row hl hm (by simpa using hz) hcell hwz⟩
  subst hl0
  clear hA0 hval0
  refine (walk W a0 cap0 z0 hc0 w0).mono fun e W' ⟨he, bel⟩ => ?_
  subst he
  exact ⟨_, rfl, _, _, _, [], _, [], hW', trodAll_mk1 (shut_bool Try.underlying4 _), (trodAll_cons_mk (Below.trod laidOut (by kernel_rfl) (of_decide_eq_true (by kernel_rfl)) k0 bel lt0) trodAll_mk0), rfl, bel.frame _, fun h => by cases h⟩

theorem over : Rows.fnCropImageTwiceRow.holds Try.pinned (OpenSpec.ofChange Rows.fnCropImageTwiceSpec) :=
  OpenClaim.holds_of_wide 4 Try.f4 rfl rfl rfl rfl rfl rfl rfl ⟨rfl, rfl, rfl, rfl, rfl⟩ rfl rfl rfl rfl rfl (by kernel_rfl) Try.func4 (by kernel_rfl)
    (of_decide_eq_true (by kernel_rfl)) (by unfold Func.isWrapper; first | (rw [if_pos (by decide +kernel)]; kernel_rfl) | (rw [if_neg (by decide +kernel)]; exact ⟨rfl, rfl⟩))
    (fun os started H enc _ => lifted os started H enc)

theorem proved : Rows.FnCropImageTwiceSaid := over
end Go.Proofs.Ytkamopjflonmcaa.fnCropImageTwice
