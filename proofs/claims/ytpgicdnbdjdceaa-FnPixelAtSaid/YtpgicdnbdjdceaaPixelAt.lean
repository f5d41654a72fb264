/- Whatever the code: PixelAt of the drawn image answers what the model answers, and where there is a pixel, its numbers are those of Data at the index of the pixel. -/
import Derived.Test.YtpgicdnbdjdceaaRows
import Derived.WalkKit
import Derived.ProofKit
import Derived.OpenShut
import Derived.ShutString
import Derived.ChangeOld
import Derived.Below
import Derived.Test.YtpgicdnbdjdceaaImgL
import Derived.Test.YtpgicdnbdjdceaaDrawImg3
import Derived.Deep.QuietTactic
import Derived.BigQuiet
namespace Go.Proofs.Ytpgicdnbdjdceaa.fnPixelAt
open Go.ChangeShapes Go.WideShapes Go.ChangeAt Go.RowKit
open Go.ChangeMaps (open_string shut_string)
set_option linter.unusedVariables false

set_option maxHeartbeats 16000000 in
theorem walk (w : World) (a0 : Option Addr) (cap0 : Nat) (z0 : List Int) (hc0 : z0.length ≤ cap0) (w0 : Rdw .u8 w w.heap.size a0 z0) :
    Calls Try.prog 10 #[.slice a0 z0.length cap0] w fun e w' => e = .returned (.bool true) ∧ Below w.heap.size w w' := by
  have hm := w0.2.1
  unfold maxLen at hm
  by_cases hlen : 1048576 < z0.length
  · go_enter Try.func10, Try.ntmps10
    go_wp2
    go_ret
    exact ⟨rfl, Below.refl _ _⟩
  · go_enter Try.func10, Try.ntmps10
    go_wp2_with fail
    refine (drawPix_any a0 cap0 z0 w hc0 w0).mono ?_
    rintro e u1 ⟨W, H, P, A, c, xs, x, y, rfl, hx, hxc, hr, hbel⟩
    have S1 : LSt w u1 [(A, xs)] [] := (LSt.start hbel).add hr
    obtain ⟨q, hq, HI, HQ, hor⟩ := pxl_law W H P x y xs hx
    clear w0 hr hbel hm
    have S2 : LSt w (u1.alloc (.cells #[.int .i64 W, .int .i64 H, .int .i64 P, .slice A xs.length c] 25)) [(A, xs)] [⟨u1.heap.size, 25, imC W H P (.slice A xs.length c)⟩] := S1.box 25 (imC W H P (.slice A xs.length c))
    clear S1
    go_wp2_with fail
    generalize u1.alloc (.cells #[.int .i64 W, .int .i64 H, .int .i64 P, .slice A xs.length c] 25) = u2 at *
    refine (PxC.use HI A c _ ((S2).rds (A := A) (xs := xs) (by simp)) hxc).mono ?_
    rintro e u3 ⟨A3, c3, rfl, hc3, hr3, hB3⟩
    have S3 := (S2.call hB3).add hr3
    clear hr3 hB3 S2
    rcases hor with hX | ⟨hX, wd, pl, xa, yb, rfl, rfl, rfl, rfl, hw16, hp4, hxa, hyb, hsl, hql, HE⟩
    · have hX0 : ((q.length : Int) == 0) = true := by simp [hX]
      obtain ⟨m0, m1, m2, m3⟩ := S3.im (g := u1.heap.size) (T := 25) (X := W) (Y := H) (Z := P) (v := .slice A xs.length c) (by simp)
      have ml := S3.lt (g := u1.heap.size) (T := 25) (cs := imC W H P (.slice A xs.length c)) (by simp)
      clear hX
      go_wp2_with fail
      refine (PxC.use HQ A c _ ((S3).rds (A := A) (xs := xs) (by simp)) hxc).mono ?_
      rintro e u4 ⟨A4, c4, rfl, hc4, hr4, hB4⟩
      have S4 := (S3.call hB4).add hr4
      clear m0 m1 m2 m3 ml
      clear hr4 hB4 S3
      go_wp2_with fail
      refine (lEqInts_same A3 A4 c3 c4 q _ ((S4).rds (A := A3) (xs := q) (by simp)) ((S4).rds (A := A4) (xs := q) (by simp)) (by omega)).mono ?_
      rintro e u5 ⟨rfl, hB5⟩
      have S5 := S4.call hB5
      clear hB5 S4
      obtain ⟨m0, m1, m2, m3⟩ := S5.im (g := u1.heap.size) (T := 25) (X := W) (Y := H) (Z := P) (v := .slice A xs.length c) (by simp)
      have ml := S5.lt (g := u1.heap.size) (T := 25) (cs := imC W H P (.slice A xs.length c)) (by simp)
      go_wp2_with fail
      refine (PxC.use HQ A c _ ((S5).rds (A := A) (xs := xs) (by simp)) hxc).mono ?_
      rintro e u6 ⟨A6, c6, rfl, hc6, hr6, hB6⟩
      have S6 := (S5.call hB6).add hr6
      clear m0 m1 m2 m3 ml
      clear hr6 hB6 S5
      go_wp2_with fail
      refine (lEqInts_same A3 A6 c3 c6 q _ ((S6).rds (A := A3) (xs := q) (by simp)) ((S6).rds (A := A6) (xs := q) (by simp)) (by omega)).mono ?_
      rintro e u7 ⟨rfl, hB7⟩
      have S7 := S6.call hB7
      clear hB7 S6
      go_wp2
      go_ret
      exact ⟨rfl, S7.1⟩
    · have hX0 : ((q.length : Int) == 0) = false := beq_eq_false_iff_ne.2 (by omega)
      have HQL := Lib.hid hql
      clear hql
      obtain ⟨m0, m1, m2, m3⟩ := S3.im (g := u1.heap.size) (T := 25) (X := (wd : Int)) (Y := H) (Z := (pl : Int)) (v := .slice A xs.length c) (by simp)
      have ml := S3.lt (g := u1.heap.size) (T := 25) (cs := imC (wd : Int) H (pl : Int) (.slice A xs.length c)) (by simp)
      go_wp2_with fail
      refine (PxC.use HQ A c _ ((S3).rds (A := A) (xs := xs) (by simp)) hxc).mono ?_
      rintro e u4 ⟨A4, c4, rfl, hc4, hr4, hB4⟩
      have S4 := (S3.call hB4).add hr4
      clear m0 m1 m2 m3 ml
      clear hr4 hB4 S3
      go_wp2_with fail
      refine (lEqInts_same A3 A4 c3 c4 q _ ((S4).rds (A := A3) (xs := q) (by simp)) ((S4).rds (A := A4) (xs := q) (by simp)) (by omega)).mono ?_
      rintro e u5 ⟨rfl, hB5⟩
      have S5 := S4.call hB5
      clear hB5 S4
      have hyw : yb * wd ≤ 256 := by have := Nat.mul_le_mul (Nat.le_of_lt hyb) hw16; omega
      have i1 : 0 ≤ (yb : Int) * (wd : Int) ∧ (yb : Int) * (wd : Int) ≤ 256 := by rw [← Int.natCast_mul]; omega
      have i2 : 0 ≤ ((yb : Int) * (wd : Int) + (xa : Int)) * (pl : Int) ∧ ((yb : Int) * (wd : Int) + (xa : Int)) * (pl : Int) + (pl : Int) ≤ (xs.length : Int) := by rw [← Int.natCast_mul, ← Int.natCast_add, ← Int.natCast_mul]; omega
      obtain ⟨i1, i1'⟩ := i1
      obtain ⟨i2, i2'⟩ := i2
      have hR := ((S5).rds (A := A) (xs := xs) (by simp))
      obtain ⟨bk, off, hA, hbk, hcl⟩ := hR.cells_ (j := 0) (by have := HQL.out; omega)
      subst hA
      have hcap : ¬ c = (yb * wd + xa) * pl := by have := HQL.out; omega
      have HP := Lib.hid (rds_part2 hbk hcl hsl HE.out)
      clear hR hcl hbk
      obtain ⟨m0, m1, m2, m3⟩ := S5.im (g := u1.heap.size) (T := 25) (X := (wd : Int)) (Y := H) (Z := (pl : Int)) (v := .slice (some ⟨bk, off, none⟩) xs.length c) (by simp)
      have ml := S5.lt (g := u1.heap.size) (T := 25) (cs := imC (wd : Int) H (pl : Int) (.slice (some ⟨bk, off, none⟩) xs.length c)) (by simp)
      go_wp2_with fail
      refine (lEqInts_at A3 _ c3 _ _ _ q _ rfl (by first | exact HQL.out.symm | omega) ((S5).rds (A := A3) (xs := q) (by simp)) (by exact HP.out) (by omega)).mono ?_
      rintro e u6 ⟨rfl, hB6⟩
      have S6 := S5.call hB6
      clear m0 m1 m2 m3 ml
      clear hB6 S5
      go_wp2
      go_ret
      exact ⟨rfl, S6.1⟩

/-! ### From the walk to the statement. -/
theorem own : ownKnob Try.prog.godebug = none := by kernel_rfl
theorem laidOut : laidOutB Try.prog = true := by kernel_rfl
set_option maxRecDepth 100000 in
theorem lifted (os : Os) (started : os.Started) (H : Type) (enc : TypeId × Value → H) :
    ReturnsInHanded {} Try.checked os 10 .any (Rows.fnPixelAtSpec.pre6 enc Try.prog Try.f10 Rows.fnPixelAtRow.domain false) (Rows.fnPixelAtSpec.post enc Try.prog Try.f10 false true false false) := by
  refine returnsInHanded_of_change (C := Try.checked) own started (by kernel_rfl) Try.func10
    (ChangeSpec.witness6 (enc := enc) (C := Try.checked) false ⟨#[], #[.slice none 0 0], []⟩ 8 (by kernel_rfl) (by kernel_rfl) (by kernel_rfl) (by kernel_rfl)) ?_
  intro W base args ds gs before hval0 hW hcnd _
  have hval : ∀ (j : Nat) t v, Try.f10.params[j]? = some t → args[j]? = some v → Value.okWide Try.prog W .any base t v := hval0
  have hW' := hW
  obtain ⟨p, q, hA0, hV, rfl, hfz, hnd⟩ := hW
  have hA : DataW.TrodAll enc Try.prog W 0 (fun _ => true) true Try.f10.params.toList args.toList ds p := hA0
  rw [Try.params10] at hA hval
  obtain ⟨v0, vs0, d0, ds0, p0, q0, hargs, rfl, rfl, h0, r0⟩ := trodAll_cons hA
  obtain ⟨rfl, rfl, rfl⟩ := trodAll_nil r0
  obtain rfl : args = #[v0] := by cases args; simp_all
  obtain ⟨rfl, rfl⟩ := trodVars_none hV
  obtain ⟨a0, len0, cap0, rfl⟩ := okWide_slice Try.underlying22 (hval 0 22 v0 rfl rfl)
  have k0 := h0
  have lt0 : ∀ x ∈ p0, x.block < W.heap.size := by obtain ⟨m, hm⟩ := k0; exact DataW.trod_lt m _ _ _ hm
  obtain ⟨z0, hl0, hc0, w0⟩ : ∃ zs : List Int, len0 = zs.length ∧ zs.length ≤ cap0 ∧ Rdw .u8 W W.heap.size a0 zs := by
    obtain ⟨fuel, hf⟩ := h0
    rcases open_ints Try.underlying22 Try.underlying5 (by kernel_rfl) hf with ⟨hcs, _⟩ | ⟨x, l, c, zs, hcs, _, hl, hm, hz, _, hcell, hwz⟩
    · simp [Value.cells] at hcs
      obtain ⟨rfl, rfl, rfl⟩ := hcs
      exact ⟨[], rfl, Nat.le_refl _, Rdw.nil⟩
    · simp [Value.cells] at hcs
      obtain ⟨rfl, rfl, rfl⟩ := hcs
      exact ⟨zs.take len0, by simp at hz ⊢; omega, by simp at hz ⊢; omega, Rdw.of_row hl hm (by simpa using hz) hcell hwz⟩
  subst hl0
  clear hA0 hval0
  refine (walk W a0 cap0 z0 hc0 w0).mono fun e W' ⟨he, bel⟩ => ?_
  subst he
  exact ⟨_, rfl, _, _, _, [], _, [], hW', trodAll_mk1 (shut_bool Try.underlying4 _), (trodAll_cons_mk (Below.trod laidOut (by kernel_rfl) (of_decide_eq_true (by kernel_rfl)) k0 bel lt0) trodAll_mk0), rfl, bel.frame _, fun h => by cases h⟩

theorem over : Rows.fnPixelAtRow.holds Try.pinned (OpenSpec.ofChange Rows.fnPixelAtSpec) :=
  OpenClaim.holds_of_wide 10 Try.f10 rfl rfl rfl rfl rfl rfl rfl ⟨rfl, rfl, rfl, rfl, rfl⟩ rfl rfl rfl rfl rfl (by kernel_rfl) Try.func10 (by kernel_rfl)
    (of_decide_eq_true (by kernel_rfl)) (by unfold Func.isWrapper; first | (rw [if_pos (by decide +kernel)]; kernel_rfl) | (rw [if_neg (by decide +kernel)]; exact ⟨rfl, rfl⟩))
    (fun os started H enc _ => lifted os started H enc)

theorem proved : Rows.FnPixelAtSaid := over
end Go.Proofs.Ytpgicdnbdjdceaa.fnPixelAt
