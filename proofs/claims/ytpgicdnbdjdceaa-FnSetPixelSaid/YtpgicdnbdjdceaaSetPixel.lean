/- Whatever the code: SetPixel of the drawn arguments answers what the model answers, and where there is an answer, PixelAt of it is the pixel, and setting the old pixel gives the image again. -/
import Derived.Test.YtpgicdnbdjdceaaRows
import Derived.WalkKit
import Derived.ProofKit
import Derived.OpenShut
import Derived.ShutString
import Derived.ChangeOld
import Derived.Below
import Derived.Test.YtpgicdnbdjdceaaImgP
import Derived.Test.YtpgicdnbdjdceaaDrawImg3
import Derived.Deep.QuietTactic
import Derived.BigQuiet
namespace Go.Proofs.Ytpgicdnbdjdceaa.fnSetPixel
open Go.ChangeShapes Go.WideShapes Go.ChangeAt Go.RowKit
open Go.ChangeMaps (open_string shut_string)
set_option linter.unusedVariables false

set_option maxHeartbeats 16000000 in
theorem walk (w : World) (a0 : Option Addr) (cap0 : Nat) (z0 : List Int) (hc0 : z0.length ≤ cap0) (w0 : Rdw .u8 w w.heap.size a0 z0) :
    Calls Try.prog 9 #[.slice a0 z0.length cap0] w fun e w' => e = .returned (.bool true) ∧ Below w.heap.size w w' := by
  have hm := w0.2.1
  unfold maxLen at hm
  by_cases hlen : 1048576 < z0.length
  · go_enter Try.func9, Try.ntmps9
    go_wp2
    go_ret
    exact ⟨rfl, Below.refl _ _⟩
  · go_enter Try.func9, Try.ntmps9
    go_wp2_with fail
    refine (drawSet_any a0 cap0 z0 w hc0 w0).mono ?_
    rintro e u1 ⟨W, H, P, A, c, xs, x, y, Aq, cq, q, rfl, hx, hxc, hr, hq, hqc, hrq, hbel⟩
    have S1 : LSt w u1 [(Aq, q), (A, xs)] [] := ((LSt.start hbel).add hr).add hrq
    obtain ⟨X, Y, Z, ys, ok, hys, HI, HQ, hor⟩ := set_law W H P x y xs q hx hq
    clear w0 hr hrq hbel hm
    have S2 : LSt w (u1.alloc (.cells #[.int .i64 W, .int .i64 H, .int .i64 P, .slice A xs.length c] 25)) [(Aq, q), (A, xs)] [⟨u1.heap.size, 25, imC W H P (.slice A xs.length c)⟩] := S1.box 25 (imC W H P (.slice A xs.length c))
    clear S1
    go_wp2_with fail
    generalize u1.alloc (.cells #[.int .i64 W, .int .i64 H, .int .i64 P, .slice A xs.length c] 25) = u2 at *
    refine (SetO.use HI A c Aq cq _ ((S2).rds (A := A) (xs := xs) (by simp)) hxc ((S2).rds (A := Aq) (xs := q) (by simp)) hqc).mono ?_
    rintro e u3 ⟨v3, rfl, hO3, hB3⟩
    obtain ⟨A3, c3, rfl, hc3⟩ := hO3.slice
    have S3 := (S2.call hB3).add hO3.rds.2
    clear hO3 hB3 S2
    obtain ⟨m0, m1, m2, m3⟩ := S3.im (g := u1.heap.size) (T := 25) (X := W) (Y := H) (Z := P) (v := .slice A xs.length c) (by simp)
    have ml := S3.lt (g := u1.heap.size) (T := 25) (cs := imC W H P (.slice A xs.length c)) (by simp)
    have S4 : LSt w (u3.alloc (.cells #[.int .i64 X, .int .i64 Y, .int .i64 Z, .slice A3 ys.length c3] 25)) [(A3, ys), (Aq, q), (A, xs)] [⟨u3.heap.size, 25, imC X Y Z (.slice A3 ys.length c3)⟩, ⟨u1.heap.size, 25, imC W H P (.slice A xs.length c)⟩] := S3.box 25 (imC X Y Z (.slice A3 ys.length c3))
    clear S3
    go_wp2_with fail
    clear m0 m1 m2 m3 ml
    generalize u3.alloc (.cells #[.int .i64 X, .int .i64 Y, .int .i64 Z, .slice A3 ys.length c3] 25) = u4 at *
    refine (SetO.use HQ A c Aq cq _ ((S4).rds (A := A) (xs := xs) (by simp)) hxc ((S4).rds (A := Aq) (xs := q) (by simp)) hqc).mono ?_
    rintro e u5 ⟨v5, rfl, hO5, hB5⟩
    obtain ⟨A5, c5, rfl, hc5⟩ := hO5.slice
    have S5 := (S4.call hB5).add hO5.rds.2
    clear hO5 hB5 S4
    obtain ⟨o0, o1, o2, o3⟩ := S5.im (g := u3.heap.size) (T := 25) (X := X) (Y := Y) (Z := Z) (v := .slice A3 ys.length c3) (by simp)
    have ol := S5.lt (g := u3.heap.size) (T := 25) (cs := imC X Y Z (.slice A3 ys.length c3)) (by simp)
    have S6 : LSt w (u5.alloc (.cells #[.int .i64 X, .int .i64 Y, .int .i64 Z, .slice A5 ys.length c5] 25)) [(A5, ys), (A3, ys), (Aq, q), (A, xs)] [⟨u5.heap.size, 25, imC X Y Z (.slice A5 ys.length c5)⟩, ⟨u3.heap.size, 25, imC X Y Z (.slice A3 ys.length c3)⟩, ⟨u1.heap.size, 25, imC W H P (.slice A xs.length c)⟩] := S5.box 25 (imC X Y Z (.slice A5 ys.length c5))
    clear S5
    go_wp2_with fail
    clear o0 o1 o2 o3 ol
    generalize u5.alloc (.cells #[.int .i64 X, .int .i64 Y, .int .i64 Z, .slice A5 ys.length c5] 25) = u6 at *
    refine (lEqIm X Y Z ys A3 A5 c3 c5 _ ((S6).rds (A := A3) (xs := ys) (by simp)) ((S6).rds (A := A5) (xs := ys) (by simp)) (by omega)).mono ?_
    rintro e u7 ⟨rfl, hB7⟩
    have S7 := S6.call hB7
    clear hB7 S6
    rcases hor with rfl | ⟨rfl, pp, hpp, HP1, HB2, HP2⟩
    · skip
      obtain ⟨o0, o1, o2, o3⟩ := S7.im (g := u3.heap.size) (T := 25) (X := X) (Y := Y) (Z := Z) (v := .slice A3 ys.length c3) (by simp)
      have ol := S7.lt (g := u3.heap.size) (T := 25) (cs := imC X Y Z (.slice A3 ys.length c3)) (by simp)
      obtain ⟨j0, j1, j2, j3⟩ := S7.im (g := u5.heap.size) (T := 25) (X := X) (Y := Y) (Z := Z) (v := .slice A5 ys.length c5) (by simp)
      have jl := S7.lt (g := u5.heap.size) (T := 25) (cs := imC X Y Z (.slice A5 ys.length c5)) (by simp)
      go_wp2_with fail
      refine (lEqIm X Y Z ys A3 A5 c3 c5 _ ((S7).rds (A := A3) (xs := ys) (by simp)) ((S7).rds (A := A5) (xs := ys) (by simp)) (by omega)).mono ?_
      rintro e u8 ⟨rfl, hB8⟩
      have S8 := S7.call hB8
      clear o0 o1 o2 o3 ol j0 j1 j2 j3 jl
      clear hB8 S7
      go_wp2
      go_ret
      exact ⟨rfl, S8.1⟩
    · skip
      obtain ⟨o0, o1, o2, o3⟩ := S7.im (g := u3.heap.size) (T := 25) (X := X) (Y := Y) (Z := Z) (v := .slice A3 ys.length c3) (by simp)
      have ol := S7.lt (g := u3.heap.size) (T := 25) (cs := imC X Y Z (.slice A3 ys.length c3)) (by simp)
      obtain ⟨m0, m1, m2, m3⟩ := S7.im (g := u1.heap.size) (T := 25) (X := W) (Y := H) (Z := P) (v := .slice A xs.length c) (by simp)
      have ml := S7.lt (g := u1.heap.size) (T := 25) (cs := imC W H P (.slice A xs.length c)) (by simp)
      have HS := Lib.hid S7
      clear S7
      go_wp2
      have nao : u3.heap.size ≠ u7.heap.size := by omega
      have nam : u1.heap.size ≠ u7.heap.size := by omega
      go_region_held3 (fun w' => (w'.cell? ⟨u3.heap.size, 0, none⟩ = some (.int .i64 X) ∧ w'.cell? ⟨u3.heap.size, 1, none⟩ = some (.int .i64 Y) ∧ w'.cell? ⟨u3.heap.size, 2, none⟩ = some (.int .i64 Z) ∧ w'.cell? ⟨u3.heap.size, 3, none⟩ = some (.slice A3 ys.length c3)) ∧ (w'.cell? ⟨u1.heap.size, 0, none⟩ = some (.int .i64 W) ∧ w'.cell? ⟨u1.heap.size, 1, none⟩ = some (.int .i64 H) ∧ w'.cell? ⟨u1.heap.size, 2, none⟩ = some (.int .i64 P) ∧ w'.cell? ⟨u1.heap.size, 3, none⟩ = some (.slice A xs.length c))) (first | (with_reducible exact ⟨⟨do0, do1, do2, do3⟩, ⟨dm0, dm1, dm2, dm3⟩⟩) | (with_reducible exact ⟨⟨ko0, ko1, ko2, ko3⟩, ⟨km0, km1, km2, km3⟩⟩) | exact ⟨⟨o0, o1, o2, o3⟩, ⟨m0, m1, m2, m3⟩⟩ | (with_reducible exact ⟨⟨(sc4 nao _ _ _ _).trans do0, (sc4 nao _ _ _ _).trans do1, (sc4 nao _ _ _ _).trans do2, (sc4 nao _ _ _ _).trans do3⟩, ⟨(sc4 nam _ _ _ _).trans dm0, (sc4 nam _ _ _ _).trans dm1, (sc4 nam _ _ _ _).trans dm2, (sc4 nam _ _ _ _).trans dm3⟩⟩) | (with_reducible exact ⟨⟨(sc4 nbo _ _ _ _).trans do0, (sc4 nbo _ _ _ _).trans do1, (sc4 nbo _ _ _ _).trans do2, (sc4 nbo _ _ _ _).trans do3⟩, ⟨(sc4 nbm _ _ _ _).trans dm0, (sc4 nbm _ _ _ _).trans dm1, (sc4 nbm _ _ _ _).trans dm2, (sc4 nbm _ _ _ _).trans dm3⟩⟩) | (with_reducible exact ⟨⟨(World.cell?_alloc_lt ub _ ⟨u3.heap.size, 0, none⟩ lto3).trans do0, (World.cell?_alloc_lt ub _ ⟨u3.heap.size, 1, none⟩ lto3).trans do1, (World.cell?_alloc_lt ub _ ⟨u3.heap.size, 2, none⟩ lto3).trans do2, (World.cell?_alloc_lt ub _ ⟨u3.heap.size, 3, none⟩ lto3).trans do3⟩, ⟨(World.cell?_alloc_lt ub _ ⟨u1.heap.size, 0, none⟩ ltm3).trans dm0, (World.cell?_alloc_lt ub _ ⟨u1.heap.size, 1, none⟩ ltm3).trans dm1, (World.cell?_alloc_lt ub _ ⟨u1.heap.size, 2, none⟩ ltm3).trans dm2, (World.cell?_alloc_lt ub _ ⟨u1.heap.size, 3, none⟩ ltm3).trans dm3⟩⟩) | (with_reducible exact ⟨⟨(sc4 neo3 _ _ _ _).trans ((World.cell?_alloc_lt ub _ ⟨u3.heap.size, 0, none⟩ lto3).trans do0), (sc4 neo3 _ _ _ _).trans ((World.cell?_alloc_lt ub _ ⟨u3.heap.size, 1, none⟩ lto3).trans do1), (sc4 neo3 _ _ _ _).trans ((World.cell?_alloc_lt ub _ ⟨u3.heap.size, 2, none⟩ lto3).trans do2), (sc4 neo3 _ _ _ _).trans ((World.cell?_alloc_lt ub _ ⟨u3.heap.size, 3, none⟩ lto3).trans do3)⟩, ⟨(sc4 nem3 _ _ _ _).trans ((World.cell?_alloc_lt ub _ ⟨u1.heap.size, 0, none⟩ ltm3).trans dm0), (sc4 nem3 _ _ _ _).trans ((World.cell?_alloc_lt ub _ ⟨u1.heap.size, 1, none⟩ ltm3).trans dm1), (sc4 nem3 _ _ _ _).trans ((World.cell?_alloc_lt ub _ ⟨u1.heap.size, 2, none⟩ ltm3).trans dm2), (sc4 nem3 _ _ _ _).trans ((World.cell?_alloc_lt ub _ ⟨u1.heap.size, 3, none⟩ ltm3).trans dm3)⟩⟩) | (with_reducible exact ⟨⟨(World.cell?_alloc_lt ua _ ⟨u3.heap.size, 0, none⟩ lto2).trans ko0, (World.cell?_alloc_lt ua _ ⟨u3.heap.size, 1, none⟩ lto2).trans ko1, (World.cell?_alloc_lt ua _ ⟨u3.heap.size, 2, none⟩ lto2).trans ko2, (World.cell?_alloc_lt ua _ ⟨u3.heap.size, 3, none⟩ lto2).trans ko3⟩, ⟨(World.cell?_alloc_lt ua _ ⟨u1.heap.size, 0, none⟩ ltm2).trans km0, (World.cell?_alloc_lt ua _ ⟨u1.heap.size, 1, none⟩ ltm2).trans km1, (World.cell?_alloc_lt ua _ ⟨u1.heap.size, 2, none⟩ ltm2).trans km2, (World.cell?_alloc_lt ua _ ⟨u1.heap.size, 3, none⟩ ltm2).trans km3⟩⟩) | (with_reducible exact ⟨⟨(World.cell?_alloc_lt u7.drew _ ⟨u3.heap.size, 0, none⟩ ol).trans o0, (World.cell?_alloc_lt u7.drew _ ⟨u3.heap.size, 1, none⟩ ol).trans o1, (World.cell?_alloc_lt u7.drew _ ⟨u3.heap.size, 2, none⟩ ol).trans o2, (World.cell?_alloc_lt u7.drew _ ⟨u3.heap.size, 3, none⟩ ol).trans o3⟩, ⟨(World.cell?_alloc_lt u7.drew _ ⟨u1.heap.size, 0, none⟩ ml).trans m0, (World.cell?_alloc_lt u7.drew _ ⟨u1.heap.size, 1, none⟩ ml).trans m1, (World.cell?_alloc_lt u7.drew _ ⟨u1.heap.size, 2, none⟩ ml).trans m2, (World.cell?_alloc_lt u7.drew _ ⟨u1.heap.size, 3, none⟩ ml).trans m3⟩⟩) | go_keep) (first | (go_at_call 20; (refine (PxC.use HP1 A c _ (by first | exact ((HS.out.drew).rds (A := A) (xs := xs) (by simp)) | exact ((((HS.out.drew).box 25 #[.int .i64 0, .int .i64 0, .int .i64 0, .slice none 0 0])).rds (A := A) (xs := xs) (by simp))) hxc).mono ?_); rintro e ua ⟨Ap, cp, rfl, hcp, hrp, hBa⟩; (first | have HTa := Lib.hid ((HS.out.drew.call hBa).add hrp) | have HTa := Lib.hid (((((HS.out.drew).box 25 #[.int .i64 0, .int .i64 0, .int .i64 0, .slice none 0 0])).call hBa).add hrp)); obtain ⟨ko0, ko1, ko2, ko3⟩ := HTa.out.im (g := u3.heap.size) (T := 25) (X := X) (Y := Y) (Z := Z) (v := .slice A3 ys.length c3) (by simp); obtain ⟨km0, km1, km2, km3⟩ := HTa.out.im (g := u1.heap.size) (T := 25) (X := W) (Y := H) (Z := P) (v := .slice A xs.length c) (by simp); have lto2 : u3.heap.size < ua.heap.size := HTa.out.lt (g := u3.heap.size) (T := 25) (cs := imC X Y Z (.slice A3 ys.length c3)) (by simp); have ltm2 : u1.heap.size < ua.heap.size := HTa.out.lt (g := u1.heap.size) (T := 25) (cs := imC W H P (.slice A xs.length c)) (by simp); have nbo : u3.heap.size ≠ ua.heap.size := (by omega); have nbm : u1.heap.size ≠ ua.heap.size := (by omega); have HBa := Lib.hid hBa; clear hrp hBa) | (go_at_call 33; (refine (SetO.use HB2 A3 c3 Ap cp _ (by first | exact ((HTa.out).rds (A := A3) (xs := ys) (by simp)) | exact ((((HTa.out).box 25 #[.int .i64 0, .int .i64 0, .int .i64 0, .slice none 0 0])).rds (A := A3) (xs := ys) (by simp))) hc3 (by first | exact ((HTa.out).rds (A := Ap) (xs := pp) (by simp)) | exact ((((HTa.out).box 25 #[.int .i64 0, .int .i64 0, .int .i64 0, .slice none 0 0])).rds (A := Ap) (xs := pp) (by simp))) hcp).mono ?_); rintro e ub ⟨v9, rfl, hO9, hBb⟩; obtain ⟨A9, c9, rfl, hc9⟩ := hO9.slice; (first | have HTb := Lib.hid (HTa.out.call hBb) | have HTb := Lib.hid ((((HTa.out).box 25 #[.int .i64 0, .int .i64 0, .int .i64 0, .slice none 0 0])).call hBb)); obtain ⟨do0, do1, do2, do3⟩ := HTb.out.im (g := u3.heap.size) (T := 25) (X := X) (Y := Y) (Z := Z) (v := .slice A3 ys.length c3) (by simp); obtain ⟨dm0, dm1, dm2, dm3⟩ := HTb.out.im (g := u1.heap.size) (T := 25) (X := W) (Y := H) (Z := P) (v := .slice A xs.length c) (by simp); have lto3 : u3.heap.size < ub.heap.size := HTb.out.lt (g := u3.heap.size) (T := 25) (cs := imC X Y Z (.slice A3 ys.length c3)) (by simp); have ltm3 : u1.heap.size < ub.heap.size := HTb.out.lt (g := u1.heap.size) (T := 25) (cs := imC W H P (.slice A xs.length c)) (by simp); have neo3 : u3.heap.size ≠ ub.heap.size := (by omega); have nem3 : u1.heap.size ≠ ub.heap.size := (by omega); have HBb := Lib.hid hBb; have HO9 := Lib.hid hO9; (first | have hzb : Bx ub u7.heap.size 25 (imC 0 0 0 (.slice none 0 0)) := HTb.out.2.2 ⟨u7.drew.heap.size, 25, #[.int .i64 0, .int .i64 0, .int .i64 0, .slice none 0 0]⟩ (List.Mem.head _) | have hzb : Bx ub ua.heap.size 25 (imC 0 0 0 (.slice none 0 0)) := HTb.out.2.2 ⟨ua.heap.size, 25, #[.int .i64 0, .int .i64 0, .int .i64 0, .slice none 0 0]⟩ (List.Mem.head _) | skip); (try (obtain ⟨zb0, zb1, zb2, zb3⟩ := hzb.im; have zf0 := hzb.fz 0; have zf1 := hzb.fz 1; have zf2 := hzb.fz 2; have zf3 := hzb.fz 3; clear hzb)); clear hO9 hBb))
      all_goals
        first | (have S9 : LSt w ((((ub.setCell ⟨u7.heap.size, 0, none⟩ (.int .i64 W)).setCell ⟨u7.heap.size, 1, none⟩ (.int .i64 H)).setCell ⟨u7.heap.size, 2, none⟩ (.int .i64 P)).setCell ⟨u7.heap.size, 3, none⟩ (.slice A9 xs.length c9)) [(A9, xs), (A5, ys), (A3, ys), (Aq, q), (A, xs)] [⟨u7.heap.size, 25, imC W H P (.slice A9 xs.length c9)⟩, ⟨u5.heap.size, 25, imC X Y Z (.slice A5 ys.length c5)⟩, ⟨u3.heap.size, 25, imC X Y Z (.slice A3 ys.length c3)⟩, ⟨u1.heap.size, 25, imC W H P (.slice A xs.length c)⟩] := LSt.sub (LSt.late HS.out.drew (b0 := u7.heap.size) rfl 25 (.int .i64 0) (.int .i64 0) (.int .i64 0) (.slice none 0 0) (HBa.out.trans (HBb.out.mono HBa.out.size)) (HO9.out.base_le HBa.out.size) (.int .i64 W) (.int .i64 H) (.int .i64 P) (.slice A9 xs.length c9)) (by intro r hr; simp at hr ⊢; rcases hr with hr | hr | hr | hr | hr <;> simp [hr]); generalize ((((ub.setCell ⟨u7.heap.size, 0, none⟩ (.int .i64 W)).setCell ⟨u7.heap.size, 1, none⟩ (.int .i64 H)).setCell ⟨u7.heap.size, 2, none⟩ (.int .i64 P)).setCell ⟨u7.heap.size, 3, none⟩ (.slice A9 xs.length c9)) = u9 at *; generalize u7.heap.size = b9 at *) | (have S9 : LSt w ((((ub.setCell ⟨ua.heap.size, 0, none⟩ (.int .i64 W)).setCell ⟨ua.heap.size, 1, none⟩ (.int .i64 H)).setCell ⟨ua.heap.size, 2, none⟩ (.int .i64 P)).setCell ⟨ua.heap.size, 3, none⟩ (.slice A9 xs.length c9)) [(A9, xs), (A5, ys), (A3, ys), (Aq, q), (A, xs)] [⟨ua.heap.size, 25, imC W H P (.slice A9 xs.length c9)⟩, ⟨u5.heap.size, 25, imC X Y Z (.slice A5 ys.length c5)⟩, ⟨u3.heap.size, 25, imC X Y Z (.slice A3 ys.length c3)⟩, ⟨u1.heap.size, 25, imC W H P (.slice A xs.length c)⟩] := LSt.sub (LSt.late HTa.out (b0 := ua.heap.size) rfl 25 (.int .i64 0) (.int .i64 0) (.int .i64 0) (.slice none 0 0) HBb.out HO9.out (.int .i64 W) (.int .i64 H) (.int .i64 P) (.slice A9 xs.length c9)) (by intro r hr; simp at hr ⊢; rcases hr with hr | hr | hr | hr | hr <;> simp [hr]); generalize ((((ub.setCell ⟨ua.heap.size, 0, none⟩ (.int .i64 W)).setCell ⟨ua.heap.size, 1, none⟩ (.int .i64 H)).setCell ⟨ua.heap.size, 2, none⟩ (.int .i64 P)).setCell ⟨ua.heap.size, 3, none⟩ (.slice A9 xs.length c9)) = u9 at *; generalize ua.heap.size = b9 at *) | (have S9 : LSt w (ub.alloc (.cells #[.int .i64 W, .int .i64 H, .int .i64 P, .slice A9 xs.length c9] 25)) [(A9, xs), (A5, ys), (A3, ys), (Aq, q), (A, xs)] [⟨ub.heap.size, 25, imC W H P (.slice A9 xs.length c9)⟩, ⟨u5.heap.size, 25, imC X Y Z (.slice A5 ys.length c5)⟩, ⟨u3.heap.size, 25, imC X Y Z (.slice A3 ys.length c3)⟩, ⟨u1.heap.size, 25, imC W H P (.slice A xs.length c)⟩] := LSt.sub ((HTb.out.add HO9.out.rds.2).box 25 (imC W H P (.slice A9 xs.length c9))) (by intro r hr; simp at hr ⊢; rcases hr with hr | hr | hr | hr | hr <;> simp [hr]); generalize (ub.alloc (.cells #[.int .i64 W, .int .i64 H, .int .i64 P, .slice A9 xs.length c9] 25)) = u9 at *; generalize ub.heap.size = b9 at *)
        clear HS HTa HTb HBa HBb HO9 o0 o1 o2 o3 m0 m1 m2 m3 ko0 ko1 ko2 ko3 km0 km1 km2 km3 do0 do1 do2 do3 dm0 dm1 dm2 dm3 ol ml nao nam lto2 ltm2 lto3 ltm3 nbo nbm neo3 nem3
        (try clear zb0 zb1 zb2 zb3 zf0 zf1 zf2 zf3)
        obtain ⟨o0, o1, o2, o3⟩ := S9.im (g := u3.heap.size) (T := 25) (X := X) (Y := Y) (Z := Z) (v := .slice A3 ys.length c3) (by simp)
        have ol := S9.lt (g := u3.heap.size) (T := 25) (cs := imC X Y Z (.slice A3 ys.length c3)) (by simp)
        go_wp2_with fail
        refine (PxC.use HP2 A3 c3 _ ((S9).rds (A := A3) (xs := ys) (by simp)) hc3).mono ?_
        rintro e u10 ⟨A10, c10, rfl, hc10, hr10, hB10⟩
        have S10 := (S9.call hB10).add hr10
        clear o0 o1 o2 o3 ol
        clear hr10 hB10 S9
        go_wp2_with fail
        refine (lEqInts_same A10 Aq c10 cq q _ ((S10).rds (A := A10) (xs := q) (by simp)) ((S10).rds (A := Aq) (xs := q) (by simp)) (by omega)).mono ?_
        rintro e u11 ⟨rfl, hB11⟩
        have S11 := S10.call hB11
        clear hB11 S10
        obtain ⟨k0, k1, k2, k3⟩ := S11.im (g := b9) (T := 25) (X := W) (Y := H) (Z := P) (v := .slice A9 xs.length c9) (by simp)
        have kl := S11.lt (g := b9) (T := 25) (cs := imC W H P (.slice A9 xs.length c9)) (by simp)
        obtain ⟨m0, m1, m2, m3⟩ := S11.im (g := u1.heap.size) (T := 25) (X := W) (Y := H) (Z := P) (v := .slice A xs.length c) (by simp)
        have ml := S11.lt (g := u1.heap.size) (T := 25) (cs := imC W H P (.slice A xs.length c)) (by simp)
        go_wp2_with fail
        refine (lEqIm W H P xs A9 A c9 c _ ((S11).rds (A := A9) (xs := xs) (by simp)) ((S11).rds (A := A) (xs := xs) (by simp)) (by omega)).mono ?_
        rintro e u12 ⟨rfl, hB12⟩
        have S12 := S11.call hB12
        clear k0 k1 k2 k3 kl m0 m1 m2 m3 ml
        clear hB12 S11
        go_wp2
        go_ret
        exact ⟨rfl, S12.1⟩

/-! ### From the walk to the statement. -/
theorem own : ownKnob Try.prog.godebug = none := by kernel_rfl
theorem laidOut : laidOutB Try.prog = true := by kernel_rfl
set_option maxRecDepth 100000 in
theorem lifted (os : Os) (started : os.Started) (H : Type) (enc : TypeId × Value → H) :
    ReturnsInHanded {} Try.checked os 9 .any (Rows.fnSetPixelSpec.pre6 enc Try.prog Try.f9 Rows.fnSetPixelRow.domain false) (Rows.fnSetPixelSpec.post enc Try.prog Try.f9 false true false false) := by
  refine returnsInHanded_of_change (C := Try.checked) own started (by kernel_rfl) Try.func9
    (ChangeSpec.witness6 (enc := enc) (C := Try.checked) false ⟨#[], #[.slice none 0 0], []⟩ 8 (by kernel_rfl) (by kernel_rfl) (by kernel_rfl) (by kernel_rfl)) ?_
  intro W base args ds gs before hval0 hW hcnd _
  have hval : ∀ (j : Nat) t v, Try.f9.params[j]? = some t → args[j]? = some v → Value.okWide Try.prog W .any base t v := hval0
  have hW' := hW
  obtain ⟨p, q, hA0, hV, rfl, hfz, hnd⟩ := hW
  have hA : DataW.TrodAll enc Try.prog W 0 (fun _ => true) true Try.f9.params.toList args.toList ds p := hA0
  rw [Try.params9] at hA hval
  obtain ⟨v0, vs0, d0, ds0, p0, q0, hargs, rfl, rfl, h0, r0⟩ := trodAll_cons hA
  obtain ⟨rfl, rfl, rfl⟩ := trodAll_nil r0
  obtain rfl : args = #[v0] := by cases args; simp_all
  obtain ⟨rfl, rfl⟩ := trodVars_none hV
  obtain ⟨a0, len0, cap0, rfl⟩ := okWide_slice Try.underlying22 (hval 0 22 v0 rfl rfl)
  have k0 := h0
  have lt0 : ∀ x ∈ p0, x.block < W.heap.size := by obtain ⟨m, hm⟩ := k0; exact DataW.trod_lt m _ _ _ hm
  obtain ⟨z0, hl0, hc0, w0⟩ : ∃ zs : List Int, len0 = zs.length ∧ zs.length ≤ cap0 ∧ Rdw .u8 W W.heap.size a0 zs := by
    obtain ⟨fuel, hf⟩ := h0
    rcases open_ints Try.underlying22 Try.underlying5 (by kernel_rfl) hf with ⟨hcs, _⟩ | ⟨x, l, c, zs, hcs, _, hl, hm, hz, _, hcell, hwz⟩
    · simp [Value.cells] at hcs
      obtain ⟨rfl, rfl, rfl⟩ := hcs
      exact ⟨[], rfl, Nat.le_refl _, Rdw.nil⟩
    · simp [Value.cells] at hcs
      obtain ⟨rfl, rfl, rfl⟩ := hcs
      exact ⟨zs.take len0, by simp at hz ⊢; omega, by simp at hz ⊢; omega, Rdw.of_row hl hm (by simpa using hz) hcell hwz⟩
  subst hl0
  clear hA0 hval0
  refine (walk W a0 cap0 z0 hc0 w0).mono fun e W' ⟨he, bel⟩ => ?_
  subst he
  exact ⟨_, rfl, _, _, _, [], _, [], hW', trodAll_mk1 (shut_bool Try.underlying4 _), (trodAll_cons_mk (Below.trod laidOut (by kernel_rfl) (of_decide_eq_true (by kernel_rfl)) k0 bel lt0) trodAll_mk0), rfl, bel.frame _, fun h => by cases h⟩

theorem over : Rows.fnSetPixelRow.holds Try.pinned (OpenSpec.ofChange Rows.fnSetPixelSpec) :=
  OpenClaim.holds_of_wide 9 Try.f9 rfl rfl rfl rfl rfl rfl rfl ⟨rfl, rfl, rfl, rfl, rfl⟩ rfl rfl rfl rfl rfl (by kernel_rfl) Try.func9 (by kernel_rfl)
    (of_decide_eq_true (by kernel_rfl)) (by unfold Func.isWrapper; first | (rw [if_pos (by decide +kernel)]; kernel_rfl) | (rw [if_neg (by decide +kernel)]; exact ⟨rfl, rfl⟩))
    (fun os started H enc _ => lifted os started H enc)

theorem proved : Rows.FnSetPixelSaid := over
end Go.Proofs.Ytpgicdnbdjdceaa.fnSetPixel
