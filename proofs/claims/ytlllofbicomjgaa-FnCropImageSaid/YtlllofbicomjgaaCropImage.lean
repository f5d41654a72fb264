/- Whatever the code: CropImage of the drawn image and box answers what the model answers, and where there is a part, it has the sides of the box and its last pixel is the one of the image there, and pasting it at its place gives the image again. -/
import Derived.Test.YtlllofbicomjgaaRows
import Derived.WalkKit
import Derived.ProofKit
import Derived.OpenShut
import Derived.ShutString
import Derived.ChangeOld
import Derived.Below
import Derived.Test.YtlllofbicomjgaaImgD
import Derived.Test.YtlllofbicomjgaaDrawCrop
import Derived.Deep.QuietTactic
import Derived.BigQuiet
namespace Go.Proofs.Ytlllofbicomjgaa.fnCropImage
open Go.ChangeShapes Go.WideShapes Go.ChangeAt Go.RowKit
open Go.ChangeMaps (open_string shut_string)
set_option linter.unusedVariables false

set_option maxRecDepth 20000
set_option maxHeartbeats 16000000 in
theorem walk (w : World) (a0 : Option Addr) (cap0 : Nat) (z0 : List Int) (hc0 : z0.length ≤ cap0) (w0 : Rdw .u8 w w.heap.size a0 z0) :
    Calls Try.prog 4 #[.slice a0 z0.length cap0] w fun e w' => e = .returned (.bool true) ∧ Below w.heap.size w w' := by
  have hm := w0.2.1
  unfold maxLen at hm
  by_cases hlen : 1048576 < z0.length
  · go_enter Try.func4, Try.ntmps4
    go_wp2
    go_ret
    exact ⟨rfl, Below.refl _ _⟩
  · go_enter Try.func4, Try.ntmps4
    go_wp2_with fail
    refine (drawCrop_any a0 cap0 z0 w hc0 w0).mono ?_
    rintro e u1 ⟨W, H, P, A, c, xs, bx, by_, bw, bh, rfl, hxx, hxc, hr, hbel⟩
    obtain ⟨hx, ⟨hx0, hx1⟩, ⟨hy0, hy1⟩, ⟨hw0, hw1⟩, hh0, hh1⟩ := hxx
    have S1 : LSt w u1 [(A, xs)] [] := (LSt.start hbel).add hr
    obtain ⟨X, Y, Z, ys, ok, hys, HI, HQ, hor⟩ := cro_law W H P xs hx bx by_ bw bh
    clear w0 hr hbel hm
    have S1001 : LSt w (u1.alloc (.cells #[.int .i64 W, .int .i64 H, .int .i64 P, .slice A xs.length c] 26)) [(A, xs)] [⟨u1.heap.size, 26, #[.int .i64 W, .int .i64 H, .int .i64 P, .slice A xs.length c]⟩] := LSt.box2 S1 26 #[.int .i64 W, .int .i64 H, .int .i64 P, .slice A xs.length c] u1.heap.size (by simp)
    have S1002 : LSt w ((u1.alloc (.cells #[.int .i64 W, .int .i64 H, .int .i64 P, .slice A xs.length c] 26)).alloc (.cells #[.int .i64 bx, .int .i64 by_, .int .i64 bw, .int .i64 bh] 35)) [(A, xs)] [⟨(u1.heap.size + 1), 35, #[.int .i64 bx, .int .i64 by_, .int .i64 bw, .int .i64 bh]⟩, ⟨u1.heap.size, 26, #[.int .i64 W, .int .i64 H, .int .i64 P, .slice A xs.length c]⟩] := LSt.box2 S1001 35 #[.int .i64 bx, .int .i64 by_, .int .i64 bw, .int .i64 bh] (u1.heap.size + 1) (by simp)
    clear S1001
    go_wp2_with fail
    clear S1
    generalize (u1.alloc (.cells #[.int .i64 W, .int .i64 H, .int .i64 P, .slice A xs.length c] 26)).alloc (.cells #[.int .i64 bx, .int .i64 by_, .int .i64 bw, .int .i64 bh] 35) = u1003 at *
    refine (CrC.use HI A c _ ((S1002).rds (A := A) (xs := xs) (by simp)) hxc).mono ?_
    rintro e u1004 ⟨A1004, c1004, rfl, hc1004, hr1004, hB1004⟩
    have S1004 := (S1002.call hB1004).add hr1004
    clear hr1004 hB1004 S1002
    have Fmx := S1004.2.2 ⟨u1.heap.size, 26, #[.int .i64 W, .int .i64 H, .int .i64 P, .slice A xs.length c]⟩ (by simp)
    have ml : u1.heap.size < u1004.heap.size := Fmx.lt
    have m0 : u1004.cell? ⟨u1.heap.size, 0, none⟩ = some (.int .i64 W) := cell_of_row _ _ 0 _ _ _ Fmx
    have m1 : u1004.cell? ⟨u1.heap.size, 1, none⟩ = some (.int .i64 H) := cell_of_row _ _ 1 _ _ _ Fmx
    have m2 : u1004.cell? ⟨u1.heap.size, 2, none⟩ = some (.int .i64 P) := cell_of_row _ _ 2 _ _ _ Fmx
    have m3 : u1004.cell? ⟨u1.heap.size, 3, none⟩ = some (.slice A xs.length c) := cell_of_row _ _ 3 _ _ _ Fmx
    clear Fmx
    have Fbx := S1004.2.2 ⟨(u1.heap.size + 1), 35, #[.int .i64 bx, .int .i64 by_, .int .i64 bw, .int .i64 bh]⟩ (by simp)
    have bl : (u1.heap.size + 1) < u1004.heap.size := Fbx.lt
    have b0 : u1004.cell? ⟨(u1.heap.size + 1), 0, none⟩ = some (.int .i64 bx) := cell_of_row _ _ 0 _ _ _ Fbx
    have b1 : u1004.cell? ⟨(u1.heap.size + 1), 1, none⟩ = some (.int .i64 by_) := cell_of_row _ _ 1 _ _ _ Fbx
    have b2 : u1004.cell? ⟨(u1.heap.size + 1), 2, none⟩ = some (.int .i64 bw) := cell_of_row _ _ 2 _ _ _ Fbx
    have b3 : u1004.cell? ⟨(u1.heap.size + 1), 3, none⟩ = some (.int .i64 bh) := cell_of_row _ _ 3 _ _ _ Fbx
    clear Fbx
    have S1005 : LSt w (u1004.alloc (.cells #[.int .i64 X, .int .i64 Y, .int .i64 Z, .slice A1004 ys.length c1004] 26)) [(A1004, ys), (A, xs)] [⟨u1004.heap.size, 26, #[.int .i64 X, .int .i64 Y, .int .i64 Z, .slice A1004 ys.length c1004]⟩, ⟨(u1.heap.size + 1), 35, #[.int .i64 bx, .int .i64 by_, .int .i64 bw, .int .i64 bh]⟩, ⟨u1.heap.size, 26, #[.int .i64 W, .int .i64 H, .int .i64 P, .slice A xs.length c]⟩] := LSt.box2 S1004 26 #[.int .i64 X, .int .i64 Y, .int .i64 Z, .slice A1004 ys.length c1004] u1004.heap.size (by simp)
    go_wp2_with fail
    clear ml m0 m1 m2 m3
    clear bl b0 b1 b2 b3
    clear S1004
    generalize u1004.alloc (.cells #[.int .i64 X, .int .i64 Y, .int .i64 Z, .slice A1004 ys.length c1004] 26) = u1006 at *
    refine (CrC.use HQ A c _ ((S1005).rds (A := A) (xs := xs) (by simp)) hxc).mono ?_
    rintro e u1007 ⟨A1007, c1007, rfl, hc1007, hr1007, hB1007⟩
    have S1007 := (S1005.call hB1007).add hr1007
    clear hr1007 hB1007 S1005
    have Fox := S1007.2.2 ⟨u1004.heap.size, 26, #[.int .i64 X, .int .i64 Y, .int .i64 Z, .slice A1004 ys.length c1004]⟩ (by simp)
    have ol : u1004.heap.size < u1007.heap.size := Fox.lt
    have o0 : u1007.cell? ⟨u1004.heap.size, 0, none⟩ = some (.int .i64 X) := cell_of_row _ _ 0 _ _ _ Fox
    have o1 : u1007.cell? ⟨u1004.heap.size, 1, none⟩ = some (.int .i64 Y) := cell_of_row _ _ 1 _ _ _ Fox
    have o2 : u1007.cell? ⟨u1004.heap.size, 2, none⟩ = some (.int .i64 Z) := cell_of_row _ _ 2 _ _ _ Fox
    have o3 : u1007.cell? ⟨u1004.heap.size, 3, none⟩ = some (.slice A1004 ys.length c1004) := cell_of_row _ _ 3 _ _ _ Fox
    clear Fox
    have S1008 : LSt w (u1007.alloc (.cells #[.int .i64 X, .int .i64 Y, .int .i64 Z, .slice A1007 ys.length c1007] 26)) [(A1007, ys), (A1004, ys), (A, xs)] [⟨u1007.heap.size, 26, #[.int .i64 X, .int .i64 Y, .int .i64 Z, .slice A1007 ys.length c1007]⟩, ⟨u1004.heap.size, 26, #[.int .i64 X, .int .i64 Y, .int .i64 Z, .slice A1004 ys.length c1004]⟩, ⟨(u1.heap.size + 1), 35, #[.int .i64 bx, .int .i64 by_, .int .i64 bw, .int .i64 bh]⟩, ⟨u1.heap.size, 26, #[.int .i64 W, .int .i64 H, .int .i64 P, .slice A xs.length c]⟩] := LSt.box2 S1007 26 #[.int .i64 X, .int .i64 Y, .int .i64 Z, .slice A1007 ys.length c1007] u1007.heap.size (by simp)
    go_wp2_with fail
    clear ol o0 o1 o2 o3
    clear S1007
    generalize u1007.alloc (.cells #[.int .i64 X, .int .i64 Y, .int .i64 Z, .slice A1007 ys.length c1007] 26) = u1009 at *
    refine (lEqIm X Y Z ys A1004 A1007 c1004 c1007 _ ((S1008).rds (A := A1004) (xs := ys) (by simp)) ((S1008).rds (A := A1007) (xs := ys) (by simp)) (by omega)).mono ?_
    rintro e u1010 ⟨rfl, hB1010⟩
    have S1010 := S1008.call hB1010
    clear hB1010 S1008
    rcases hor with rfl | ⟨rfl, rfl, rfl, HP, q, hq, HX1, HX2⟩
    · skip
      have Fox := S1010.2.2 ⟨u1004.heap.size, 26, #[.int .i64 X, .int .i64 Y, .int .i64 Z, .slice A1004 ys.length c1004]⟩ (by simp)
      have ol : u1004.heap.size < u1010.heap.size := Fox.lt
      have o0 : u1010.cell? ⟨u1004.heap.size, 0, none⟩ = some (.int .i64 X) := cell_of_row _ _ 0 _ _ _ Fox
      have o1 : u1010.cell? ⟨u1004.heap.size, 1, none⟩ = some (.int .i64 Y) := cell_of_row _ _ 1 _ _ _ Fox
      have o2 : u1010.cell? ⟨u1004.heap.size, 2, none⟩ = some (.int .i64 Z) := cell_of_row _ _ 2 _ _ _ Fox
      have o3 : u1010.cell? ⟨u1004.heap.size, 3, none⟩ = some (.slice A1004 ys.length c1004) := cell_of_row _ _ 3 _ _ _ Fox
      clear Fox
      have Fjx := S1010.2.2 ⟨u1007.heap.size, 26, #[.int .i64 X, .int .i64 Y, .int .i64 Z, .slice A1007 ys.length c1007]⟩ (by simp)
      have jl : u1007.heap.size < u1010.heap.size := Fjx.lt
      have j0 : u1010.cell? ⟨u1007.heap.size, 0, none⟩ = some (.int .i64 X) := cell_of_row _ _ 0 _ _ _ Fjx
      have j1 : u1010.cell? ⟨u1007.heap.size, 1, none⟩ = some (.int .i64 Y) := cell_of_row _ _ 1 _ _ _ Fjx
      have j2 : u1010.cell? ⟨u1007.heap.size, 2, none⟩ = some (.int .i64 Z) := cell_of_row _ _ 2 _ _ _ Fjx
      have j3 : u1010.cell? ⟨u1007.heap.size, 3, none⟩ = some (.slice A1007 ys.length c1007) := cell_of_row _ _ 3 _ _ _ Fjx
      clear Fjx
      go_wp2_with fail
      refine (lEqIm X Y Z ys A1004 A1007 c1004 c1007 _ ((S1010).rds (A := A1004) (xs := ys) (by simp)) ((S1010).rds (A := A1007) (xs := ys) (by simp)) (by omega)).mono ?_
      rintro e u1011 ⟨rfl, hB1011⟩
      have S1011 := S1010.call hB1011
      clear ol o0 o1 o2 o3
      clear jl j0 j1 j2 j3
      clear hB1011 S1010
      go_wp2
      go_ret
      exact ⟨rfl, S1011.1⟩
    · skip
      have hq0 : IntKind.i64.wrap (bw - 1) = bw - 1 := IntWalk.i64_in _ (by omega)
      have hq1 : IntKind.i64.wrap (bh - 1) = bh - 1 := IntWalk.i64_in _ (by omega)
      have hq2 : IntKind.i64.wrap (bx + bw) = bx + bw := IntWalk.i64_in _ (by omega)
      have hq3 : IntKind.i64.wrap (bx + bw - 1) = bx + bw - 1 := IntWalk.i64_in _ (by omega)
      have hq4 : IntKind.i64.wrap (by_ + bh) = by_ + bh := IntWalk.i64_in _ (by omega)
      have hq5 : IntKind.i64.wrap (by_ + bh - 1) = by_ + bh - 1 := IntWalk.i64_in _ (by omega)
      have Fmx := S1010.2.2 ⟨u1.heap.size, 26, #[.int .i64 W, .int .i64 H, .int .i64 P, .slice A xs.length c]⟩ (by simp)
      have ml : u1.heap.size < u1010.heap.size := Fmx.lt
      have m0 : u1010.cell? ⟨u1.heap.size, 0, none⟩ = some (.int .i64 W) := cell_of_row _ _ 0 _ _ _ Fmx
      have m1 : u1010.cell? ⟨u1.heap.size, 1, none⟩ = some (.int .i64 H) := cell_of_row _ _ 1 _ _ _ Fmx
      have m2 : u1010.cell? ⟨u1.heap.size, 2, none⟩ = some (.int .i64 P) := cell_of_row _ _ 2 _ _ _ Fmx
      have m3 : u1010.cell? ⟨u1.heap.size, 3, none⟩ = some (.slice A xs.length c) := cell_of_row _ _ 3 _ _ _ Fmx
      clear Fmx
      have Fbx := S1010.2.2 ⟨(u1.heap.size + 1), 35, #[.int .i64 bx, .int .i64 by_, .int .i64 bw, .int .i64 bh]⟩ (by simp)
      have bl : (u1.heap.size + 1) < u1010.heap.size := Fbx.lt
      have b0 : u1010.cell? ⟨(u1.heap.size + 1), 0, none⟩ = some (.int .i64 bx) := cell_of_row _ _ 0 _ _ _ Fbx
      have b1 : u1010.cell? ⟨(u1.heap.size + 1), 1, none⟩ = some (.int .i64 by_) := cell_of_row _ _ 1 _ _ _ Fbx
      have b2 : u1010.cell? ⟨(u1.heap.size + 1), 2, none⟩ = some (.int .i64 bw) := cell_of_row _ _ 2 _ _ _ Fbx
      have b3 : u1010.cell? ⟨(u1.heap.size + 1), 3, none⟩ = some (.int .i64 bh) := cell_of_row _ _ 3 _ _ _ Fbx
      clear Fbx
      have Fox := S1010.2.2 ⟨u1004.heap.size, 26, #[.int .i64 bw, .int .i64 bh, .int .i64 Z, .slice A1004 ys.length c1004]⟩ (by simp)
      have ol : u1004.heap.size < u1010.heap.size := Fox.lt
      have o0 : u1010.cell? ⟨u1004.heap.size, 0, none⟩ = some (.int .i64 bw) := cell_of_row _ _ 0 _ _ _ Fox
      have o1 : u1010.cell? ⟨u1004.heap.size, 1, none⟩ = some (.int .i64 bh) := cell_of_row _ _ 1 _ _ _ Fox
      have o2 : u1010.cell? ⟨u1004.heap.size, 2, none⟩ = some (.int .i64 Z) := cell_of_row _ _ 2 _ _ _ Fox
      have o3 : u1010.cell? ⟨u1004.heap.size, 3, none⟩ = some (.slice A1004 ys.length c1004) := cell_of_row _ _ 3 _ _ _ Fox
      clear Fox
      go_wp2_with fail
      refine (PaC.use HP A c A1004 c1004 _ ((S1010).rds (A := A) (xs := xs) (by simp)) hxc ((S1010).rds (A := A1004) (xs := ys) (by simp)) hc1004).mono ?_
      rintro e u1011 ⟨A1011, c1011, rfl, hc1011, hr1011, hB1011⟩
      have S1011 := (S1010.call hB1011).add hr1011
      clear ml m0 m1 m2 m3
      clear bl b0 b1 b2 b3
      clear ol o0 o1 o2 o3
      clear hr1011 hB1011 S1010
      have S1012 : LSt w (u1011.alloc (.cells #[.int .i64 W, .int .i64 H, .int .i64 P, .slice A1011 xs.length c1011] 26)) [(A1011, xs), (A1007, ys), (A1004, ys), (A, xs)] [⟨u1011.heap.size, 26, #[.int .i64 W, .int .i64 H, .int .i64 P, .slice A1011 xs.length c1011]⟩, ⟨u1007.heap.size, 26, #[.int .i64 bw, .int .i64 bh, .int .i64 Z, .slice A1007 ys.length c1007]⟩, ⟨u1004.heap.size, 26, #[.int .i64 bw, .int .i64 bh, .int .i64 Z, .slice A1004 ys.length c1004]⟩, ⟨(u1.heap.size + 1), 35, #[.int .i64 bx, .int .i64 by_, .int .i64 bw, .int .i64 bh]⟩, ⟨u1.heap.size, 26, #[.int .i64 W, .int .i64 H, .int .i64 P, .slice A xs.length c]⟩] := LSt.box2 S1011 26 #[.int .i64 W, .int .i64 H, .int .i64 P, .slice A1011 xs.length c1011] u1011.heap.size (by simp)
      go_upto_region 9 with fail
      clear S1011
      generalize u1011.alloc (.cells #[.int .i64 W, .int .i64 H, .int .i64 P, .slice A1011 xs.length c1011] 26) = u1013 at *
      have HC := Lib.hid S1012.drew
      clear S1012
      refine wp_region_held_drew (S := (fun w' => w'.cell? ⟨u1011.heap.size, 0, none⟩ = some (.int .i64 W) ∧ w'.cell? ⟨u1011.heap.size, 1, none⟩ = some (.int .i64 H) ∧ w'.cell? ⟨u1011.heap.size, 2, none⟩ = some (.int .i64 P) ∧ w'.cell? ⟨u1011.heap.size, 3, none⟩ = some (.slice A1011 xs.length c1011) ∧ w'.cell? ⟨u1.heap.size, 0, none⟩ = some (.int .i64 W) ∧ w'.cell? ⟨u1.heap.size, 1, none⟩ = some (.int .i64 H) ∧ w'.cell? ⟨u1.heap.size, 2, none⟩ = some (.int .i64 P) ∧ w'.cell? ⟨u1.heap.size, 3, none⟩ = some (.slice A xs.length c) ∧ w'.cell? ⟨u1004.heap.size, 0, none⟩ = some (.int .i64 bw) ∧ w'.cell? ⟨u1004.heap.size, 1, none⟩ = some (.int .i64 bh) ∧ w'.cell? ⟨u1004.heap.size, 2, none⟩ = some (.int .i64 Z) ∧ w'.cell? ⟨u1004.heap.size, 3, none⟩ = some (.slice A1004 ys.length c1004) ∧ w'.cell? ⟨(u1.heap.size + 1), 0, none⟩ = some (.int .i64 bx) ∧ w'.cell? ⟨(u1.heap.size + 1), 1, none⟩ = some (.int .i64 by_) ∧ w'.cell? ⟨(u1.heap.size + 1), 2, none⟩ = some (.int .i64 bw) ∧ w'.cell? ⟨(u1.heap.size + 1), 3, none⟩ = some (.int .i64 bh))) (by kernel_rfl) (by exact ⟨cell_of_row _ _ 0 _ _ _ ((HC.out).2.2 ⟨u1011.heap.size, 26, #[.int .i64 W, .int .i64 H, .int .i64 P, .slice A1011 xs.length c1011]⟩ (by simp)), cell_of_row _ _ 1 _ _ _ ((HC.out).2.2 ⟨u1011.heap.size, 26, #[.int .i64 W, .int .i64 H, .int .i64 P, .slice A1011 xs.length c1011]⟩ (by simp)), cell_of_row _ _ 2 _ _ _ ((HC.out).2.2 ⟨u1011.heap.size, 26, #[.int .i64 W, .int .i64 H, .int .i64 P, .slice A1011 xs.length c1011]⟩ (by simp)), cell_of_row _ _ 3 _ _ _ ((HC.out).2.2 ⟨u1011.heap.size, 26, #[.int .i64 W, .int .i64 H, .int .i64 P, .slice A1011 xs.length c1011]⟩ (by simp)), cell_of_row _ _ 0 _ _ _ ((HC.out).2.2 ⟨u1.heap.size, 26, #[.int .i64 W, .int .i64 H, .int .i64 P, .slice A xs.length c]⟩ (by simp)), cell_of_row _ _ 1 _ _ _ ((HC.out).2.2 ⟨u1.heap.size, 26, #[.int .i64 W, .int .i64 H, .int .i64 P, .slice A xs.length c]⟩ (by simp)), cell_of_row _ _ 2 _ _ _ ((HC.out).2.2 ⟨u1.heap.size, 26, #[.int .i64 W, .int .i64 H, .int .i64 P, .slice A xs.length c]⟩ (by simp)), cell_of_row _ _ 3 _ _ _ ((HC.out).2.2 ⟨u1.heap.size, 26, #[.int .i64 W, .int .i64 H, .int .i64 P, .slice A xs.length c]⟩ (by simp)), cell_of_row _ _ 0 _ _ _ ((HC.out).2.2 ⟨u1004.heap.size, 26, #[.int .i64 bw, .int .i64 bh, .int .i64 Z, .slice A1004 ys.length c1004]⟩ (by simp)), cell_of_row _ _ 1 _ _ _ ((HC.out).2.2 ⟨u1004.heap.size, 26, #[.int .i64 bw, .int .i64 bh, .int .i64 Z, .slice A1004 ys.length c1004]⟩ (by simp)), cell_of_row _ _ 2 _ _ _ ((HC.out).2.2 ⟨u1004.heap.size, 26, #[.int .i64 bw, .int .i64 bh, .int .i64 Z, .slice A1004 ys.length c1004]⟩ (by simp)), cell_of_row _ _ 3 _ _ _ ((HC.out).2.2 ⟨u1004.heap.size, 26, #[.int .i64 bw, .int .i64 bh, .int .i64 Z, .slice A1004 ys.length c1004]⟩ (by simp)), cell_of_row _ _ 0 _ _ _ ((HC.out).2.2 ⟨(u1.heap.size + 1), 35, #[.int .i64 bx, .int .i64 by_, .int .i64 bw, .int .i64 bh]⟩ (by simp)), cell_of_row _ _ 1 _ _ _ ((HC.out).2.2 ⟨(u1.heap.size + 1), 35, #[.int .i64 bx, .int .i64 by_, .int .i64 bw, .int .i64 bh]⟩ (by simp)), cell_of_row _ _ 2 _ _ _ ((HC.out).2.2 ⟨(u1.heap.size + 1), 35, #[.int .i64 bx, .int .i64 by_, .int .i64 bw, .int .i64 bh]⟩ (by simp)), cell_of_row _ _ 3 _ _ _ ((HC.out).2.2 ⟨(u1.heap.size + 1), 35, #[.int .i64 bx, .int .i64 by_, .int .i64 bw, .int .i64 bh]⟩ (by simp))⟩) (fun hHeld => ?_)
      refine' wpAnyH_take (i := 0) (oi := _) (v := _) ?hi1 (by kernel_rfl) (by kernel_rfl) (by kernel_rfl) ?hq1 (Or.inl ⟨?hw1, ?hy1⟩) (by assumption) ?rest1
      case hi1 => (simp only [List.getElem?_toArray, List.getElem?_cons_succ, List.getElem?_cons_zero]; rfl)
      case hq1 => exact fun _ _ _ h => h
      case hw1 => rfl
      case hy1 => (intro wq hSw; (try dsimp only at hSw); go_simp; (try with_reducible rfl))
      (try simp only [Act.put, List.setIfInBounds_toArray, List.set_cons_zero, List.set_cons_succ])
      refine' wpAnyH_take (i := 1) (oi := _) (v := _) ?hi2 (by kernel_rfl) (by kernel_rfl) (by kernel_rfl) ?hq2 (Or.inl ⟨?hw2, ?hy2⟩) (by assumption) ?rest2
      case hi2 => (simp only [List.getElem?_toArray, List.getElem?_cons_succ, List.getElem?_cons_zero]; rfl)
      case hq2 => exact fun _ _ _ h => h
      case hw2 => rfl
      case hy2 => (intro wq hSw; (try dsimp only at hSw); go_simp; (try with_reducible rfl))
      (try simp only [Act.put, List.setIfInBounds_toArray, List.set_cons_zero, List.set_cons_succ])
      refine' wpAnyH_take (i := 2) (oi := _) (v := _) ?hi3 (by kernel_rfl) (by kernel_rfl) (by kernel_rfl) ?hq3 (Or.inl ⟨?hw3, ?hy3⟩) (by assumption) ?rest3
      case hi3 => (simp only [List.getElem?_toArray, List.getElem?_cons_succ, List.getElem?_cons_zero]; rfl)
      case hq3 => exact fun _ _ _ h => h
      case hw3 => rfl
      case hy3 => (intro wq hSw; (try dsimp only at hSw); go_simp; (try with_reducible rfl))
      (try simp only [Act.put, List.setIfInBounds_toArray, List.set_cons_zero, List.set_cons_succ])
      refine' wpAnyH_take (i := 3) (oi := _) (v := _) ?hi4 (by kernel_rfl) (by kernel_rfl) (by kernel_rfl) ?hq4 (Or.inl ⟨?hw4, ?hy4⟩) (by assumption) ?rest4
      case hi4 => (simp only [List.getElem?_toArray, List.getElem?_cons_succ, List.getElem?_cons_zero]; rfl)
      case hq4 => exact fun _ _ _ h => h
      case hw4 => rfl
      case hy4 => (intro wq hSw; (try dsimp only at hSw); go_simp; (try with_reducible rfl))
      (try simp only [Act.put, List.setIfInBounds_toArray, List.set_cons_zero, List.set_cons_succ])
      refine wpAnyH_ready (rs := [4]) (by kernel_rfl) (by simp) ?_
      refine' AllReadyH.cons (o := _) ?hi5 (fun K hK => ?rest5) AllReadyH.nil
      case hi5 => (simp only [List.getElem?_toArray, List.getElem?_cons_succ, List.getElem?_cons_zero]; rfl)
      go_simp
      go_at_call 25
      refine (lEqIm W H P xs A1011 A c1011 c _ ((HC.out).rds (A := A1011) (xs := xs) (by simp)) ((HC.out).rds (A := A) (xs := xs) (by simp)) (by omega)).mono ?_
      rintro e u1014 ⟨rfl, hB1014⟩
      have HD := Lib.hid (HC.out.call hB1014)
      clear hB1014 HC
      have HC := HD
      clear HD
      go_wp2_with fail
      refine hK.out _ _ (by (try dsimp only); exact ⟨cell_of_row _ _ 0 _ _ _ ((HC.out).2.2 ⟨u1011.heap.size, 26, #[.int .i64 W, .int .i64 H, .int .i64 P, .slice A1011 xs.length c1011]⟩ (by simp)), cell_of_row _ _ 1 _ _ _ ((HC.out).2.2 ⟨u1011.heap.size, 26, #[.int .i64 W, .int .i64 H, .int .i64 P, .slice A1011 xs.length c1011]⟩ (by simp)), cell_of_row _ _ 2 _ _ _ ((HC.out).2.2 ⟨u1011.heap.size, 26, #[.int .i64 W, .int .i64 H, .int .i64 P, .slice A1011 xs.length c1011]⟩ (by simp)), cell_of_row _ _ 3 _ _ _ ((HC.out).2.2 ⟨u1011.heap.size, 26, #[.int .i64 W, .int .i64 H, .int .i64 P, .slice A1011 xs.length c1011]⟩ (by simp)), cell_of_row _ _ 0 _ _ _ ((HC.out).2.2 ⟨u1.heap.size, 26, #[.int .i64 W, .int .i64 H, .int .i64 P, .slice A xs.length c]⟩ (by simp)), cell_of_row _ _ 1 _ _ _ ((HC.out).2.2 ⟨u1.heap.size, 26, #[.int .i64 W, .int .i64 H, .int .i64 P, .slice A xs.length c]⟩ (by simp)), cell_of_row _ _ 2 _ _ _ ((HC.out).2.2 ⟨u1.heap.size, 26, #[.int .i64 W, .int .i64 H, .int .i64 P, .slice A xs.length c]⟩ (by simp)), cell_of_row _ _ 3 _ _ _ ((HC.out).2.2 ⟨u1.heap.size, 26, #[.int .i64 W, .int .i64 H, .int .i64 P, .slice A xs.length c]⟩ (by simp)), cell_of_row _ _ 0 _ _ _ ((HC.out).2.2 ⟨u1004.heap.size, 26, #[.int .i64 bw, .int .i64 bh, .int .i64 Z, .slice A1004 ys.length c1004]⟩ (by simp)), cell_of_row _ _ 1 _ _ _ ((HC.out).2.2 ⟨u1004.heap.size, 26, #[.int .i64 bw, .int .i64 bh, .int .i64 Z, .slice A1004 ys.length c1004]⟩ (by simp)), cell_of_row _ _ 2 _ _ _ ((HC.out).2.2 ⟨u1004.heap.size, 26, #[.int .i64 bw, .int .i64 bh, .int .i64 Z, .slice A1004 ys.length c1004]⟩ (by simp)), cell_of_row _ _ 3 _ _ _ ((HC.out).2.2 ⟨u1004.heap.size, 26, #[.int .i64 bw, .int .i64 bh, .int .i64 Z, .slice A1004 ys.length c1004]⟩ (by simp)), cell_of_row _ _ 0 _ _ _ ((HC.out).2.2 ⟨(u1.heap.size + 1), 35, #[.int .i64 bx, .int .i64 by_, .int .i64 bw, .int .i64 bh]⟩ (by simp)), cell_of_row _ _ 1 _ _ _ ((HC.out).2.2 ⟨(u1.heap.size + 1), 35, #[.int .i64 bx, .int .i64 by_, .int .i64 bw, .int .i64 bh]⟩ (by simp)), cell_of_row _ _ 2 _ _ _ ((HC.out).2.2 ⟨(u1.heap.size + 1), 35, #[.int .i64 bx, .int .i64 by_, .int .i64 bw, .int .i64 bh]⟩ (by simp)), cell_of_row _ _ 3 _ _ _ ((HC.out).2.2 ⟨(u1.heap.size + 1), 35, #[.int .i64 bx, .int .i64 by_, .int .i64 bw, .int .i64 bh]⟩ (by simp))⟩) (fun hHeld => ?_)
      clear hK K
      (try simp only [Act.put, List.setIfInBounds_toArray, List.set_cons_zero, List.set_cons_succ])
      refine' wpAnyH_take (i := 5) (oi := _) (v := _) ?hi6 (by kernel_rfl) (by kernel_rfl) (by kernel_rfl) ?hq6 (Or.inl ⟨?hw6, ?hy6⟩) (by assumption) ?rest6
      case hi6 => (simp only [List.getElem?_toArray, List.getElem?_cons_succ, List.getElem?_cons_zero]; rfl)
      case hq6 => exact fun _ _ _ h => h
      case hw6 => rfl
      case hy6 => (intro wq hSw; (try dsimp only at hSw); go_simp; (try with_reducible rfl))
      (try simp only [Act.put, List.setIfInBounds_toArray, List.set_cons_zero, List.set_cons_succ])
      refine' wpAnyH_take (i := 6) (oi := _) (v := _) ?hi7 (by kernel_rfl) (by kernel_rfl) (by kernel_rfl) ?hq7 (Or.inl ⟨?hw7, ?hy7⟩) (by assumption) ?rest7
      case hi7 => (simp only [List.getElem?_toArray, List.getElem?_cons_succ, List.getElem?_cons_zero]; rfl)
      case hq7 => exact fun _ _ _ h => h
      case hw7 => rfl
      case hy7 => (intro wq hSw; (try dsimp only at hSw); go_simp; (try with_reducible rfl))
      (try simp only [Act.put, List.setIfInBounds_toArray, List.set_cons_zero, List.set_cons_succ])
      refine' wpAnyH_take (i := 7) (oi := _) (v := _) ?hi8 (by kernel_rfl) (by kernel_rfl) (by kernel_rfl) ?hq8 (Or.inl ⟨?hw8, ?hy8⟩) (by assumption) ?rest8
      case hi8 => (simp only [List.getElem?_toArray, List.getElem?_cons_succ, List.getElem?_cons_zero]; rfl)
      case hq8 => exact fun _ _ _ h => h
      case hw8 => rfl
      case hy8 => (intro wq hSw; (try dsimp only at hSw); go_simp; (try with_reducible rfl))
      (try simp only [Act.put, List.setIfInBounds_toArray, List.set_cons_zero, List.set_cons_succ])
      refine' wpAnyH_take (i := 8) (oi := _) (v := _) ?hi9 (by kernel_rfl) (by kernel_rfl) (by kernel_rfl) ?hq9 (Or.inl ⟨?hw9, ?hy9⟩) (by assumption) ?rest9
      case hi9 => (simp only [List.getElem?_toArray, List.getElem?_cons_succ, List.getElem?_cons_zero]; rfl)
      case hq9 => exact fun _ _ _ h => h
      case hw9 => rfl
      case hy9 => (intro wq hSw; (try dsimp only at hSw); go_simp; (try with_reducible rfl))
      (try simp only [Act.put, List.setIfInBounds_toArray, List.set_cons_zero, List.set_cons_succ])
      refine' wpAnyH_take (i := 9) (oi := _) (v := _) ?hi10 (by kernel_rfl) (by kernel_rfl) (by kernel_rfl) ?hq10 (Or.inl ⟨?hw10, ?hy10⟩) (by assumption) ?rest10
      case hi10 => (simp only [List.getElem?_toArray, List.getElem?_cons_succ, List.getElem?_cons_zero]; rfl)
      case hq10 => exact fun _ _ _ h => h
      case hw10 => rfl
      case hy10 => (intro wq hSw; (try dsimp only at hSw); go_simp; (try with_reducible rfl))
      (try simp only [Act.put, List.setIfInBounds_toArray, List.set_cons_zero, List.set_cons_succ])
      refine' wpAnyH_take (i := 10) (oi := _) (v := _) ?hi11 (by kernel_rfl) (by kernel_rfl) (by kernel_rfl) ?hq11 (Or.inl ⟨?hw11, ?hy11⟩) (by assumption) ?rest11
      case hi11 => (simp only [List.getElem?_toArray, List.getElem?_cons_succ, List.getElem?_cons_zero]; rfl)
      case hq11 => exact fun _ _ _ h => h
      case hw11 => rfl
      case hy11 => (intro wq hSw; (try dsimp only at hSw); go_simp; (try with_reducible rfl))
      (try simp only [Act.put, List.setIfInBounds_toArray, List.set_cons_zero, List.set_cons_succ])
      refine' wpAnyH_take (i := 11) (oi := _) (v := _) ?hi12 (by kernel_rfl) (by kernel_rfl) (by kernel_rfl) ?hq12 (Or.inl ⟨?hw12, ?hy12⟩) (by assumption) ?rest12
      case hi12 => (simp only [List.getElem?_toArray, List.getElem?_cons_succ, List.getElem?_cons_zero]; rfl)
      case hq12 => exact fun _ _ _ h => h
      case hw12 => rfl
      case hy12 => (intro wq hSw; (try dsimp only at hSw); go_simp; (try with_reducible rfl))
      (try simp only [Act.put, List.setIfInBounds_toArray, List.set_cons_zero, List.set_cons_succ])
      refine' wpAnyH_take (i := 12) (oi := _) (v := _) ?hi13 (by kernel_rfl) (by kernel_rfl) (by kernel_rfl) ?hq13 (Or.inl ⟨?hw13, ?hy13⟩) (by assumption) ?rest13
      case hi13 => (simp only [List.getElem?_toArray, List.getElem?_cons_succ, List.getElem?_cons_zero]; rfl)
      case hq13 => exact fun _ _ _ h => h
      case hw13 => rfl
      case hy13 => (intro wq hSw; (try dsimp only at hSw); go_simp; (try with_reducible rfl))
      (try simp only [Act.put, List.setIfInBounds_toArray, List.set_cons_zero, List.set_cons_succ])
      refine' wpAnyH_take (i := 13) (oi := _) (v := _) ?hi14 (by kernel_rfl) (by kernel_rfl) (by kernel_rfl) ?hq14 (Or.inl ⟨?hw14, ?hy14⟩) (by assumption) ?rest14
      case hi14 => (simp only [List.getElem?_toArray, List.getElem?_cons_succ, List.getElem?_cons_zero]; rfl)
      case hq14 => exact fun _ _ _ h => h
      case hw14 => rfl
      case hy14 => (intro wq hSw; (try dsimp only at hSw); go_simp; (try with_reducible rfl))
      (try simp only [Act.put, List.setIfInBounds_toArray, List.set_cons_zero, List.set_cons_succ])
      refine' wpAnyH_take (i := 14) (oi := _) (v := _) ?hi15 (by kernel_rfl) (by kernel_rfl) (by kernel_rfl) ?hq15 (Or.inl ⟨?hw15, ?hy15⟩) (by assumption) ?rest15
      case hi15 => (simp only [List.getElem?_toArray, List.getElem?_cons_succ, List.getElem?_cons_zero]; rfl)
      case hq15 => exact fun _ _ _ h => h
      case hw15 => rfl
      case hy15 => (intro wq hSw; (try dsimp only at hSw); go_simp; (try with_reducible rfl))
      (try simp only [Act.put, List.setIfInBounds_toArray, List.set_cons_zero, List.set_cons_succ])
      refine' wpAnyH_take (i := 15) (oi := _) (v := _) ?hi16 (by kernel_rfl) (by kernel_rfl) (by kernel_rfl) ?hq16 (Or.inl ⟨?hw16, ?hy16⟩) (by assumption) ?rest16
      case hi16 => (simp only [List.getElem?_toArray, List.getElem?_cons_succ, List.getElem?_cons_zero]; rfl)
      case hq16 => exact fun _ _ _ h => h
      case hw16 => rfl
      case hy16 => (intro wq hSw; (try dsimp only at hSw); go_simp; (try with_reducible rfl))
      (try simp only [Act.put, List.setIfInBounds_toArray, List.set_cons_zero, List.set_cons_succ])
      refine' wpAnyH_take (i := 16) (oi := _) (v := _) ?hi17 (by kernel_rfl) (by kernel_rfl) (by kernel_rfl) ?hq17 (Or.inl ⟨?hw17, ?hy17⟩) (by assumption) ?rest17
      case hi17 => (simp only [List.getElem?_toArray, List.getElem?_cons_succ, List.getElem?_cons_zero]; rfl)
      case hq17 => exact fun _ _ _ h => h
      case hw17 => rfl
      case hy17 => (intro wq hSw; (try dsimp only at hSw); go_simp; (try with_reducible rfl))
      (try simp only [Act.put, List.setIfInBounds_toArray, List.set_cons_zero, List.set_cons_succ])
      refine' wpAnyH_take (i := 17) (oi := _) (v := _) ?hi18 (by kernel_rfl) (by kernel_rfl) (by kernel_rfl) ?hq18 (Or.inl ⟨?hw18, ?hy18⟩) (by assumption) ?rest18
      case hi18 => (simp only [List.getElem?_toArray, List.getElem?_cons_succ, List.getElem?_cons_zero]; rfl)
      case hq18 => exact fun _ _ _ h => h
      case hw18 => rfl
      case hy18 => (intro wq hSw; (try dsimp only at hSw); go_simp; (try with_reducible rfl))
      (try simp only [Act.put, List.setIfInBounds_toArray, List.set_cons_zero, List.set_cons_succ])
      refine' wpAnyH_take (i := 18) (oi := _) (v := _) ?hi19 (by kernel_rfl) (by kernel_rfl) (by kernel_rfl) ?hq19 (Or.inl ⟨?hw19, ?hy19⟩) (by assumption) ?rest19
      case hi19 => (simp only [List.getElem?_toArray, List.getElem?_cons_succ, List.getElem?_cons_zero]; rfl)
      case hq19 => exact fun _ _ _ h => h
      case hw19 => rfl
      case hy19 => (intro wq hSw; (try dsimp only at hSw); go_simp; (try with_reducible rfl))
      (try simp only [Act.put, List.setIfInBounds_toArray, List.set_cons_zero, List.set_cons_succ])
      refine' wpAnyH_take (i := 19) (oi := _) (v := _) ?hi20 (by kernel_rfl) (by kernel_rfl) (by kernel_rfl) ?hq20 (Or.inl ⟨?hw20, ?hy20⟩) (by assumption) ?rest20
      case hi20 => (simp only [List.getElem?_toArray, List.getElem?_cons_succ, List.getElem?_cons_zero]; rfl)
      case hq20 => exact fun _ _ _ h => h
      case hw20 => rfl
      case hy20 => (intro wq hSw; (try dsimp only at hSw); go_simp; (try with_reducible rfl))
      (try simp only [Act.put, List.setIfInBounds_toArray, List.set_cons_zero, List.set_cons_succ])
      refine' wpAnyH_take (i := 20) (oi := _) (v := _) ?hi21 (by kernel_rfl) (by kernel_rfl) (by kernel_rfl) ?hq21 (Or.inl ⟨?hw21, ?hy21⟩) (by assumption) ?rest21
      case hi21 => (simp only [List.getElem?_toArray, List.getElem?_cons_succ, List.getElem?_cons_zero]; rfl)
      case hq21 => exact fun _ _ _ h => h
      case hw21 => rfl
      case hy21 => (intro wq hSw; (try dsimp only at hSw); go_simp; (try with_reducible rfl))
      (try simp only [Act.put, List.setIfInBounds_toArray, List.set_cons_zero, List.set_cons_succ])
      refine' wpAnyH_take (i := 21) (oi := _) (v := _) ?hi22 (by kernel_rfl) (by kernel_rfl) (by kernel_rfl) ?hq22 (Or.inl ⟨?hw22, ?hy22⟩) (by assumption) ?rest22
      case hi22 => (simp only [List.getElem?_toArray, List.getElem?_cons_succ, List.getElem?_cons_zero]; rfl)
      case hq22 => exact fun _ _ _ h => h
      case hw22 => rfl
      case hy22 => (intro wq hSw; (try dsimp only at hSw); go_simp; (try with_reducible rfl))
      (try simp only [Act.put, List.setIfInBounds_toArray, List.set_cons_zero, List.set_cons_succ])
      refine' wpAnyH_take (i := 22) (oi := _) (v := _) ?hi23 (by kernel_rfl) (by kernel_rfl) (by kernel_rfl) ?hq23 (Or.inl ⟨?hw23, ?hy23⟩) (by assumption) ?rest23
      case hi23 => (simp only [List.getElem?_toArray, List.getElem?_cons_succ, List.getElem?_cons_zero]; rfl)
      case hq23 => exact fun _ _ _ h => h
      case hw23 => rfl
      case hy23 => (intro wq hSw; (try dsimp only at hSw); go_simp; (try with_reducible rfl))
      (try simp only [Act.put, List.setIfInBounds_toArray, List.set_cons_zero, List.set_cons_succ])
      refine' wpAnyH_take (i := 23) (oi := _) (v := _) ?hi24 (by kernel_rfl) (by kernel_rfl) (by kernel_rfl) ?hq24 (Or.inl ⟨?hw24, ?hy24⟩) (by assumption) ?rest24
      case hi24 => (simp only [List.getElem?_toArray, List.getElem?_cons_succ, List.getElem?_cons_zero]; rfl)
      case hq24 => exact fun _ _ _ h => h
      case hw24 => rfl
      case hy24 => (intro wq hSw; (try dsimp only at hSw); go_simp; (try with_reducible rfl))
      (try simp only [Act.put, List.setIfInBounds_toArray, List.set_cons_zero, List.set_cons_succ])
      refine' wpAnyH_take (i := 24) (oi := _) (v := _) ?hi25 (by kernel_rfl) (by kernel_rfl) (by kernel_rfl) ?hq25 (Or.inl ⟨?hw25, ?hy25⟩) (by assumption) ?rest25
      case hi25 => (simp only [List.getElem?_toArray, List.getElem?_cons_succ, List.getElem?_cons_zero]; rfl)
      case hq25 => exact fun _ _ _ h => h
      case hw25 => rfl
      case hy25 => (intro wq hSw; (try dsimp only at hSw); go_simp; (try with_reducible rfl))
      (try simp only [Act.put, List.setIfInBounds_toArray, List.set_cons_zero, List.set_cons_succ])
      refine' wpAnyH_take (i := 25) (oi := _) (v := _) ?hi26 (by kernel_rfl) (by kernel_rfl) (by kernel_rfl) ?hq26 (Or.inl ⟨?hw26, ?hy26⟩) (by assumption) ?rest26
      case hi26 => (simp only [List.getElem?_toArray, List.getElem?_cons_succ, List.getElem?_cons_zero]; rfl)
      case hq26 => exact fun _ _ _ h => h
      case hw26 => rfl
      case hy26 => (intro wq hSw; (try dsimp only at hSw); go_simp; (try with_reducible rfl))
      (try simp only [Act.put, List.setIfInBounds_toArray, List.set_cons_zero, List.set_cons_succ])
      refine' wpAnyH_take (i := 26) (oi := _) (v := _) ?hi27 (by kernel_rfl) (by kernel_rfl) (by kernel_rfl) ?hq27 (Or.inl ⟨?hw27, ?hy27⟩) (by assumption) ?rest27
      case hi27 => (simp only [List.getElem?_toArray, List.getElem?_cons_succ, List.getElem?_cons_zero]; rfl)
      case hq27 => exact fun _ _ _ h => h
      case hw27 => rfl
      case hy27 => (intro wq hSw; (try dsimp only at hSw); go_simp; (try with_reducible rfl))
      (try simp only [Act.put, List.setIfInBounds_toArray, List.set_cons_zero, List.set_cons_succ])
      refine' wpAnyH_take (i := 27) (oi := _) (v := _) ?hi28 (by kernel_rfl) (by kernel_rfl) (by kernel_rfl) ?hq28 (Or.inl ⟨?hw28, ?hy28⟩) (by assumption) ?rest28
      case hi28 => (simp only [List.getElem?_toArray, List.getElem?_cons_succ, List.getElem?_cons_zero]; rfl)
      case hq28 => exact fun _ _ _ h => h
      case hw28 => rfl
      case hy28 => (intro wq hSw; (try dsimp only at hSw); go_simp; (try with_reducible rfl))
      (try simp only [Act.put, List.setIfInBounds_toArray, List.set_cons_zero, List.set_cons_succ])
      refine' wpAnyH_take (i := 29) (oi := _) (v := _) ?hi29 (by kernel_rfl) (by kernel_rfl) (by kernel_rfl) ?hq29 (Or.inl ⟨?hw29, ?hy29⟩) (by assumption) ?rest29
      case hi29 => (simp only [List.getElem?_toArray, List.getElem?_cons_succ, List.getElem?_cons_zero]; rfl)
      case hq29 => exact fun _ _ _ h => h
      case hw29 => rfl
      case hy29 => (intro wq hSw; (try dsimp only at hSw); go_simp; (try with_reducible rfl))
      (try simp only [Act.put, List.setIfInBounds_toArray, List.set_cons_zero, List.set_cons_succ])
      refine' wpAnyH_take (i := 30) (oi := _) (v := _) ?hi30 (by kernel_rfl) (by kernel_rfl) (by kernel_rfl) ?hq30 (Or.inl ⟨?hw30, ?hy30⟩) (by assumption) ?rest30
      case hi30 => (simp only [List.getElem?_toArray, List.getElem?_cons_succ, List.getElem?_cons_zero]; rfl)
      case hq30 => exact fun _ _ _ h => h
      case hw30 => rfl
      case hy30 => (intro wq hSw; (try dsimp only at hSw); go_simp; (try with_reducible rfl))
      (try simp only [Act.put, List.setIfInBounds_toArray, List.set_cons_zero, List.set_cons_succ])
      refine' wpAnyH_take (i := 31) (oi := _) (v := _) ?hi31 (by kernel_rfl) (by kernel_rfl) (by kernel_rfl) ?hq31 (Or.inl ⟨?hw31, ?hy31⟩) (by assumption) ?rest31
      case hi31 => (simp only [List.getElem?_toArray, List.getElem?_cons_succ, List.getElem?_cons_zero]; rfl)
      case hq31 => exact fun _ _ _ h => h
      case hw31 => rfl
      case hy31 => (intro wq hSw; (try dsimp only at hSw); go_simp; (try with_reducible rfl))
      (try simp only [Act.put, List.setIfInBounds_toArray, List.set_cons_zero, List.set_cons_succ])
      refine' wpAnyH_take (i := 32) (oi := _) (v := _) ?hi32 (by kernel_rfl) (by kernel_rfl) (by kernel_rfl) ?hq32 (Or.inl ⟨?hw32, ?hy32⟩) (by assumption) ?rest32
      case hi32 => (simp only [List.getElem?_toArray, List.getElem?_cons_succ, List.getElem?_cons_zero]; rfl)
      case hq32 => exact fun _ _ _ h => h
      case hw32 => rfl
      case hy32 => (intro wq hSw; (try dsimp only at hSw); go_simp; (try with_reducible rfl))
      (try simp only [Act.put, List.setIfInBounds_toArray, List.set_cons_zero, List.set_cons_succ])
      refine' wpAnyH_take (i := 33) (oi := _) (v := _) ?hi33 (by kernel_rfl) (by kernel_rfl) (by kernel_rfl) ?hq33 (Or.inl ⟨?hw33, ?hy33⟩) (by assumption) ?rest33
      case hi33 => (simp only [List.getElem?_toArray, List.getElem?_cons_succ, List.getElem?_cons_zero]; rfl)
      case hq33 => exact fun _ _ _ h => h
      case hw33 => rfl
      case hy33 => (intro wq hSw; (try dsimp only at hSw); go_simp; (try with_reducible rfl))
      (try simp only [Act.put, List.setIfInBounds_toArray, List.set_cons_zero, List.set_cons_succ])
      refine' wpAnyH_take (i := 34) (oi := _) (v := _) ?hi34 (by kernel_rfl) (by kernel_rfl) (by kernel_rfl) ?hq34 (Or.inl ⟨?hw34, ?hy34⟩) (by assumption) ?rest34
      case hi34 => (simp only [List.getElem?_toArray, List.getElem?_cons_succ, List.getElem?_cons_zero]; rfl)
      case hq34 => exact fun _ _ _ h => h
      case hw34 => rfl
      case hy34 => (intro wq hSw; (try dsimp only at hSw); go_simp; (try with_reducible rfl))
      (try simp only [Act.put, List.setIfInBounds_toArray, List.set_cons_zero, List.set_cons_succ])
      refine' wpAnyH_take (i := 35) (oi := _) (v := _) ?hi35 (by kernel_rfl) (by kernel_rfl) (by kernel_rfl) ?hq35 (Or.inl ⟨?hw35, ?hy35⟩) (by assumption) ?rest35
      case hi35 => (simp only [List.getElem?_toArray, List.getElem?_cons_succ, List.getElem?_cons_zero]; rfl)
      case hq35 => exact fun _ _ _ h => h
      case hw35 => rfl
      case hy35 => (intro wq hSw; (try dsimp only at hSw); go_simp; (try with_reducible rfl))
      (try simp only [Act.put, List.setIfInBounds_toArray, List.set_cons_zero, List.set_cons_succ])
      refine' wpAnyH_take (i := 36) (oi := _) (v := _) ?hi36 (by kernel_rfl) (by kernel_rfl) (by kernel_rfl) ?hq36 (Or.inl ⟨?hw36, ?hy36⟩) (by assumption) ?rest36
      case hi36 => (simp only [List.getElem?_toArray, List.getElem?_cons_succ, List.getElem?_cons_zero]; rfl)
      case hq36 => exact fun _ _ _ h => h
      case hw36 => rfl
      case hy36 => (intro wq hSw; (try dsimp only at hSw); go_simp; (try with_reducible rfl))
      (try simp only [Act.put, List.setIfInBounds_toArray, List.set_cons_zero, List.set_cons_succ])
      refine' wpAnyH_take (i := 37) (oi := _) (v := _) ?hi37 (by kernel_rfl) (by kernel_rfl) (by kernel_rfl) ?hq37 (Or.inl ⟨?hw37, ?hy37⟩) (by assumption) ?rest37
      case hi37 => (simp only [List.getElem?_toArray, List.getElem?_cons_succ, List.getElem?_cons_zero]; rfl)
      case hq37 => exact fun _ _ _ h => h
      case hw37 => rfl
      case hy37 => (intro wq hSw; (try dsimp only at hSw); go_simp; (try with_reducible rfl))
      (try simp only [Act.put, List.setIfInBounds_toArray, List.set_cons_zero, List.set_cons_succ])
      refine' wpAnyH_take (i := 38) (oi := _) (v := _) ?hi38 (by kernel_rfl) (by kernel_rfl) (by kernel_rfl) ?hq38 (Or.inl ⟨?hw38, ?hy38⟩) (by assumption) ?rest38
      case hi38 => (simp only [List.getElem?_toArray, List.getElem?_cons_succ, List.getElem?_cons_zero]; rfl)
      case hq38 => exact fun _ _ _ h => h
      case hw38 => rfl
      case hy38 => (intro wq hSw; (try dsimp only at hSw); go_simp; (try with_reducible rfl))
      (try simp only [Act.put, List.setIfInBounds_toArray, List.set_cons_zero, List.set_cons_succ])
      refine' wpAnyH_take (i := 39) (oi := _) (v := _) ?hi39 (by kernel_rfl) (by kernel_rfl) (by kernel_rfl) ?hq39 (Or.inl ⟨?hw39, ?hy39⟩) (by assumption) ?rest39
      case hi39 => (simp only [List.getElem?_toArray, List.getElem?_cons_succ, List.getElem?_cons_zero]; rfl)
      case hq39 => exact fun _ _ _ h => h
      case hw39 => rfl
      case hy39 => (intro wq hSw; (try dsimp only at hSw); go_simp; (try with_reducible rfl))
      (try simp only [Act.put, List.setIfInBounds_toArray, List.set_cons_zero, List.set_cons_succ])
      refine' wpAnyH_take (i := 40) (oi := _) (v := _) ?hi40 (by kernel_rfl) (by kernel_rfl) (by kernel_rfl) ?hq40 (Or.inl ⟨?hw40, ?hy40⟩) (by assumption) ?rest40
      case hi40 => (simp only [List.getElem?_toArray, List.getElem?_cons_succ, List.getElem?_cons_zero]; rfl)
      case hq40 => exact fun _ _ _ h => h
      case hw40 => rfl
      case hy40 => (intro wq hSw; (try dsimp only at hSw); go_simp; (try with_reducible rfl))
      (try simp only [Act.put, List.setIfInBounds_toArray, List.set_cons_zero, List.set_cons_succ])
      refine' wpAnyH_take (i := 41) (oi := _) (v := _) ?hi41 (by kernel_rfl) (by kernel_rfl) (by kernel_rfl) ?hq41 (Or.inl ⟨?hw41, ?hy41⟩) (by assumption) ?rest41
      case hi41 => (simp only [List.getElem?_toArray, List.getElem?_cons_succ, List.getElem?_cons_zero]; rfl)
      case hq41 => exact fun _ _ _ h => h
      case hw41 => rfl
      case hy41 => (intro wq hSw; (try dsimp only at hSw); go_simp; (try with_reducible rfl))
      (try simp only [Act.put, List.setIfInBounds_toArray, List.set_cons_zero, List.set_cons_succ])
      refine wpAnyH_ready (rs := [28]) (by kernel_rfl) (by simp) ?_
      refine' AllReadyH.cons (o := _) ?hi42 (fun K hK => ?rest42) AllReadyH.nil
      case hi42 => (simp only [List.getElem?_toArray, List.getElem?_cons_succ, List.getElem?_cons_zero]; rfl)
      go_simp
      go_at_call 27
      refine (PxC.use HX1 A1004 c1004 _ ((HC.out).rds (A := A1004) (xs := ys) (by simp)) hc1004).mono ?_
      rintro e u1015 ⟨A1015, c1015, rfl, hc1015, hr1015, hB1015⟩
      have HD := Lib.hid ((HC.out.call hB1015).add hr1015)
      clear hr1015 hB1015 HC
      have HC := HD
      clear HD
      go_wp2_with fail
      refine hK.out _ _ (by (try dsimp only); exact ⟨cell_of_row _ _ 0 _ _ _ ((HC.out).2.2 ⟨u1011.heap.size, 26, #[.int .i64 W, .int .i64 H, .int .i64 P, .slice A1011 xs.length c1011]⟩ (by simp)), cell_of_row _ _ 1 _ _ _ ((HC.out).2.2 ⟨u1011.heap.size, 26, #[.int .i64 W, .int .i64 H, .int .i64 P, .slice A1011 xs.length c1011]⟩ (by simp)), cell_of_row _ _ 2 _ _ _ ((HC.out).2.2 ⟨u1011.heap.size, 26, #[.int .i64 W, .int .i64 H, .int .i64 P, .slice A1011 xs.length c1011]⟩ (by simp)), cell_of_row _ _ 3 _ _ _ ((HC.out).2.2 ⟨u1011.heap.size, 26, #[.int .i64 W, .int .i64 H, .int .i64 P, .slice A1011 xs.length c1011]⟩ (by simp)), cell_of_row _ _ 0 _ _ _ ((HC.out).2.2 ⟨u1.heap.size, 26, #[.int .i64 W, .int .i64 H, .int .i64 P, .slice A xs.length c]⟩ (by simp)), cell_of_row _ _ 1 _ _ _ ((HC.out).2.2 ⟨u1.heap.size, 26, #[.int .i64 W, .int .i64 H, .int .i64 P, .slice A xs.length c]⟩ (by simp)), cell_of_row _ _ 2 _ _ _ ((HC.out).2.2 ⟨u1.heap.size, 26, #[.int .i64 W, .int .i64 H, .int .i64 P, .slice A xs.length c]⟩ (by simp)), cell_of_row _ _ 3 _ _ _ ((HC.out).2.2 ⟨u1.heap.size, 26, #[.int .i64 W, .int .i64 H, .int .i64 P, .slice A xs.length c]⟩ (by simp)), cell_of_row _ _ 0 _ _ _ ((HC.out).2.2 ⟨u1004.heap.size, 26, #[.int .i64 bw, .int .i64 bh, .int .i64 Z, .slice A1004 ys.length c1004]⟩ (by simp)), cell_of_row _ _ 1 _ _ _ ((HC.out).2.2 ⟨u1004.heap.size, 26, #[.int .i64 bw, .int .i64 bh, .int .i64 Z, .slice A1004 ys.length c1004]⟩ (by simp)), cell_of_row _ _ 2 _ _ _ ((HC.out).2.2 ⟨u1004.heap.size, 26, #[.int .i64 bw, .int .i64 bh, .int .i64 Z, .slice A1004 ys.length c1004]⟩ (by simp)), cell_of_row _ _ 3 _ _ _ ((HC.out).2.2 ⟨u1004.heap.size, 26, #[.int .i64 bw, .int .i64 bh, .int .i64 Z, .slice A1004 ys.length c1004]⟩ (by simp)), cell_of_row _ _ 0 _ _ _ ((HC.out).2.2 ⟨(u1.heap.size + 1), 35, #[.int .i64 bx, .int .i64 by_, .int .i64 bw, .int .i64 bh]⟩ (by simp)), cell_of_row _ _ 1 _ _ _ ((HC.out).2.2 ⟨(u1.heap.size + 1), 35, #[.int .i64 bx, .int .i64 by_, .int .i64 bw, .int .i64 bh]⟩ (by simp)), cell_of_row _ _ 2 _ _ _ ((HC.out).2.2 ⟨(u1.heap.size + 1), 35, #[.int .i64 bx, .int .i64 by_, .int .i64 bw, .int .i64 bh]⟩ (by simp)), cell_of_row _ _ 3 _ _ _ ((HC.out).2.2 ⟨(u1.heap.size + 1), 35, #[.int .i64 bx, .int .i64 by_, .int .i64 bw, .int .i64 bh]⟩ (by simp))⟩) (fun hHeld => ?_)
      clear hK K
      (try simp only [Act.put, List.setIfInBounds_toArray, List.set_cons_zero, List.set_cons_succ])
      refine wpAnyH_ready (rs := [42]) (by kernel_rfl) (by simp) ?_
      refine' AllReadyH.cons (o := _) ?hi43 (fun K hK => ?rest43) AllReadyH.nil
      case hi43 => (simp only [List.getElem?_toArray, List.getElem?_cons_succ, List.getElem?_cons_zero]; rfl)
      go_simp
      go_at_call 27
      refine (PxC.use HX2 A c _ ((HC.out).rds (A := A) (xs := xs) (by simp)) hxc).mono ?_
      rintro e u1016 ⟨A1016, c1016, rfl, hc1016, hr1016, hB1016⟩
      have HD := Lib.hid ((HC.out.call hB1016).add hr1016)
      clear hr1016 hB1016 HC
      have HC := HD
      clear HD
      go_wp2_with fail
      refine hK.out _ _ (by (try dsimp only); exact ⟨cell_of_row _ _ 0 _ _ _ ((HC.out).2.2 ⟨u1011.heap.size, 26, #[.int .i64 W, .int .i64 H, .int .i64 P, .slice A1011 xs.length c1011]⟩ (by simp)), cell_of_row _ _ 1 _ _ _ ((HC.out).2.2 ⟨u1011.heap.size, 26, #[.int .i64 W, .int .i64 H, .int .i64 P, .slice A1011 xs.length c1011]⟩ (by simp)), cell_of_row _ _ 2 _ _ _ ((HC.out).2.2 ⟨u1011.heap.size, 26, #[.int .i64 W, .int .i64 H, .int .i64 P, .slice A1011 xs.length c1011]⟩ (by simp)), cell_of_row _ _ 3 _ _ _ ((HC.out).2.2 ⟨u1011.heap.size, 26, #[.int .i64 W, .int .i64 H, .int .i64 P, .slice A1011 xs.length c1011]⟩ (by simp)), cell_of_row _ _ 0 _ _ _ ((HC.out).2.2 ⟨u1.heap.size, 26, #[.int .i64 W, .int .i64 H, .int .i64 P, .slice A xs.length c]⟩ (by simp)), cell_of_row _ _ 1 _ _ _ ((HC.out).2.2 ⟨u1.heap.size, 26, #[.int .i64 W, .int .i64 H, .int .i64 P, .slice A xs.length c]⟩ (by simp)), cell_of_row _ _ 2 _ _ _ ((HC.out).2.2 ⟨u1.heap.size, 26, #[.int .i64 W, .int .i64 H, .int .i64 P, .slice A xs.length c]⟩ (by simp)), cell_of_row _ _ 3 _ _ _ ((HC.out).2.2 ⟨u1.heap.size, 26, #[.int .i64 W, .int .i64 H, .int .i64 P, .slice A xs.length c]⟩ (by simp)), cell_of_row _ _ 0 _ _ _ ((HC.out).2.2 ⟨u1004.heap.size, 26, #[.int .i64 bw, .int .i64 bh, .int .i64 Z, .slice A1004 ys.length c1004]⟩ (by simp)), cell_of_row _ _ 1 _ _ _ ((HC.out).2.2 ⟨u1004.heap.size, 26, #[.int .i64 bw, .int .i64 bh, .int .i64 Z, .slice A1004 ys.length c1004]⟩ (by simp)), cell_of_row _ _ 2 _ _ _ ((HC.out).2.2 ⟨u1004.heap.size, 26, #[.int .i64 bw, .int .i64 bh, .int .i64 Z, .slice A1004 ys.length c1004]⟩ (by simp)), cell_of_row _ _ 3 _ _ _ ((HC.out).2.2 ⟨u1004.heap.size, 26, #[.int .i64 bw, .int .i64 bh, .int .i64 Z, .slice A1004 ys.length c1004]⟩ (by simp)), cell_of_row _ _ 0 _ _ _ ((HC.out).2.2 ⟨(u1.heap.size + 1), 35, #[.int .i64 bx, .int .i64 by_, .int .i64 bw, .int .i64 bh]⟩ (by simp)), cell_of_row _ _ 1 _ _ _ ((HC.out).2.2 ⟨(u1.heap.size + 1), 35, #[.int .i64 bx, .int .i64 by_, .int .i64 bw, .int .i64 bh]⟩ (by simp)), cell_of_row _ _ 2 _ _ _ ((HC.out).2.2 ⟨(u1.heap.size + 1), 35, #[.int .i64 bx, .int .i64 by_, .int .i64 bw, .int .i64 bh]⟩ (by simp)), cell_of_row _ _ 3 _ _ _ ((HC.out).2.2 ⟨(u1.heap.size + 1), 35, #[.int .i64 bx, .int .i64 by_, .int .i64 bw, .int .i64 bh]⟩ (by simp))⟩) (fun hHeld => ?_)
      clear hK K
      (try simp only [Act.put, List.setIfInBounds_toArray, List.set_cons_zero, List.set_cons_succ])
      refine wpAnyH_ready (rs := [43]) (by kernel_rfl) (by simp) ?_
      refine' AllReadyH.cons (o := _) ?hi44 (fun K hK => ?rest44) AllReadyH.nil
      case hi44 => (simp only [List.getElem?_toArray, List.getElem?_cons_succ, List.getElem?_cons_zero]; rfl)
      go_simp
      go_at_call 26
      refine (lEqInts_same A1015 A1016 c1015 c1016 q _ ((HC.out).rds (A := A1015) (xs := q) (by simp)) ((HC.out).rds (A := A1016) (xs := q) (by simp)) (by omega)).mono ?_
      rintro e u1017 ⟨rfl, hB1017⟩
      have HD := Lib.hid (HC.out.call hB1017)
      clear hB1017 HC
      have HC := HD
      clear HD
      go_wp2_with fail
      refine hK.out _ _ (by (try dsimp only); exact ⟨cell_of_row _ _ 0 _ _ _ ((HC.out).2.2 ⟨u1011.heap.size, 26, #[.int .i64 W, .int .i64 H, .int .i64 P, .slice A1011 xs.length c1011]⟩ (by simp)), cell_of_row _ _ 1 _ _ _ ((HC.out).2.2 ⟨u1011.heap.size, 26, #[.int .i64 W, .int .i64 H, .int .i64 P, .slice A1011 xs.length c1011]⟩ (by simp)), cell_of_row _ _ 2 _ _ _ ((HC.out).2.2 ⟨u1011.heap.size, 26, #[.int .i64 W, .int .i64 H, .int .i64 P, .slice A1011 xs.length c1011]⟩ (by simp)), cell_of_row _ _ 3 _ _ _ ((HC.out).2.2 ⟨u1011.heap.size, 26, #[.int .i64 W, .int .i64 H, .int .i64 P, .slice A1011 xs.length c1011]⟩ (by simp)), cell_of_row _ _ 0 _ _ _ ((HC.out).2.2 ⟨u1.heap.size, 26, #[.int .i64 W, .int .i64 H, .int .i64 P, .slice A xs.length c]⟩ (by simp)), cell_of_row _ _ 1 _ _ _ ((HC.out).2.2 ⟨u1.heap.size, 26, #[.int .i64 W, .int .i64 H, .int .i64 P, .slice A xs.length c]⟩ (by simp)), cell_of_row _ _ 2 _ _ _ ((HC.out).2.2 ⟨u1.heap.size, 26, #[.int .i64 W, .int .i64 H, .int .i64 P, .slice A xs.length c]⟩ (by simp)), cell_of_row _ _ 3 _ _ _ ((HC.out).2.2 ⟨u1.heap.size, 26, #[.int .i64 W, .int .i64 H, .int .i64 P, .slice A xs.length c]⟩ (by simp)), cell_of_row _ _ 0 _ _ _ ((HC.out).2.2 ⟨u1004.heap.size, 26, #[.int .i64 bw, .int .i64 bh, .int .i64 Z, .slice A1004 ys.length c1004]⟩ (by simp)), cell_of_row _ _ 1 _ _ _ ((HC.out).2.2 ⟨u1004.heap.size, 26, #[.int .i64 bw, .int .i64 bh, .int .i64 Z, .slice A1004 ys.length c1004]⟩ (by simp)), cell_of_row _ _ 2 _ _ _ ((HC.out).2.2 ⟨u1004.heap.size, 26, #[.int .i64 bw, .int .i64 bh, .int .i64 Z, .slice A1004 ys.length c1004]⟩ (by simp)), cell_of_row _ _ 3 _ _ _ ((HC.out).2.2 ⟨u1004.heap.size, 26, #[.int .i64 bw, .int .i64 bh, .int .i64 Z, .slice A1004 ys.length c1004]⟩ (by simp)), cell_of_row _ _ 0 _ _ _ ((HC.out).2.2 ⟨(u1.heap.size + 1), 35, #[.int .i64 bx, .int .i64 by_, .int .i64 bw, .int .i64 bh]⟩ (by simp)), cell_of_row _ _ 1 _ _ _ ((HC.out).2.2 ⟨(u1.heap.size + 1), 35, #[.int .i64 bx, .int .i64 by_, .int .i64 bw, .int .i64 bh]⟩ (by simp)), cell_of_row _ _ 2 _ _ _ ((HC.out).2.2 ⟨(u1.heap.size + 1), 35, #[.int .i64 bx, .int .i64 by_, .int .i64 bw, .int .i64 bh]⟩ (by simp)), cell_of_row _ _ 3 _ _ _ ((HC.out).2.2 ⟨(u1.heap.size + 1), 35, #[.int .i64 bx, .int .i64 by_, .int .i64 bw, .int .i64 bh]⟩ (by simp))⟩) (fun hHeld => ?_)
      clear hK K
      (try simp only [Act.put, List.setIfInBounds_toArray, List.set_cons_zero, List.set_cons_succ])
      refine' wpAnyH_take (i := 44) (oi := _) (v := _) ?hi45 (by kernel_rfl) (by kernel_rfl) (by kernel_rfl) ?hq45 (Or.inl ⟨?hw45, ?hy45⟩) (by assumption) ?rest45
      case hi45 => (simp only [List.getElem?_toArray, List.getElem?_cons_succ, List.getElem?_cons_zero]; rfl)
      case hq45 => exact fun _ _ _ h => h
      case hw45 => rfl
      case hy45 => (intro wq hSw; (try dsimp only at hSw); go_simp; (try with_reducible rfl))
      (try simp only [Act.put, List.setIfInBounds_toArray, List.set_cons_zero, List.set_cons_succ])
      refine' wpAnyH_take (i := 45) (oi := _) (v := _) ?hi46 (by kernel_rfl) (by kernel_rfl) (by kernel_rfl) ?hq46 (Or.inl ⟨?hw46, ?hy46⟩) (by assumption) ?rest46
      case hi46 => (simp only [List.getElem?_toArray, List.getElem?_cons_succ, List.getElem?_cons_zero]; rfl)
      case hq46 => exact fun _ _ _ h => h
      case hw46 => rfl
      case hy46 => (intro wq hSw; (try dsimp only at hSw); go_simp; (try with_reducible rfl))
      (try simp only [Act.put, List.setIfInBounds_toArray, List.set_cons_zero, List.set_cons_succ])
      refine wpAnyH_done (by kernel_rfl) ?_ _
      have S1018 := HC.out
      clear HC
      go_wp2
      go_ret
      exact ⟨rfl, S1018.1⟩

/-! ### From the walk to the statement. -/
theorem own : ownKnob Try.prog.godebug = none := by kernel_rfl
theorem laidOut : laidOutB Try.prog = true := by kernel_rfl
set_option maxRecDepth 100000 in
theorem lifted (os : Os) (started : os.Started) (H : Type) (enc : TypeId × Value → H) :
    ReturnsInHanded {} Try.checked os 4 .any (Rows.fnCropImageSpec.pre6 enc Try.prog Try.f4 Rows.fnCropImageRow.domain false) (Rows.fnCropImageSpec.post enc Try.prog Try.f4 false true false false) := by
  refine returnsInHanded_of_change (C := Try.checked) own started (by kernel_rfl) Try.func4
    (ChangeSpec.witness6 (enc := enc) (C := Try.checked) false ⟨#[], #[.slice none 0 0], []⟩ 8 (by kernel_rfl) (by kernel_rfl) (by kernel_rfl) (by kernel_rfl)) ?_
  intro W base args ds gs before hval0 hW hcnd _
  have hval : ∀ (j : Nat) t v, Try.f4.params[j]? = some t → args[j]? = some v → Value.okWide Try.prog W .any base t v := hval0
  have hW' := hW
  obtain ⟨p, q, hA0, hV, rfl, hfz, hnd⟩ := hW
  have hA : DataW.TrodAll enc Try.prog W 0 (fun _ => true) true Try.f4.params.toList args.toList ds p := hA0
  rw [Try.params4] at hA hval
  obtain ⟨v0, vs0, d0, ds0, p0, q0, hargs, rfl, rfl, h0, r0⟩ := trodAll_cons hA
  obtain ⟨rfl, rfl, rfl⟩ := trodAll_nil r0
  obtain rfl : args = #[v0] := by cases args; simp_all
  obtain ⟨rfl, rfl⟩ := trodVars_none hV
  obtain ⟨a0, len0, cap0, rfl⟩ := okWide_slice Try.underlying33 (hval 0 33 v0 rfl rfl)
  have k0 := h0
  have lt0 : ∀ x ∈ p0, x.block < W.heap.size := by obtain ⟨m, hm⟩ := k0; exact DataW.trod_lt m _ _ _ hm
  obtain ⟨z0, hl0, hc0, w0⟩ : ∃ zs : List Int, len0 = zs.length ∧ zs.length ≤ cap0 ∧ Rdw .u8 W W.heap.size a0 zs := by
    obtain ⟨fuel, hf⟩ := h0
    rcases open_ints Try.underlying33 Try.underlying5 (by kernel_rfl) hf with ⟨hcs, _⟩ | ⟨x, l, c, zs, hcs, _, hl, hm, hz, _, hcell, hwz⟩
    · simp [Value.cells] at hcs
      obtain ⟨rfl, rfl, rfl⟩ := hcs
      exact ⟨[], rfl, Nat.le_refl _, Rdw.nil⟩
    · simp [Value.cells] at hcs
      obtain ⟨rfl, rfl, rfl⟩ := hcs
      exact ⟨zs.take len0, by simp at hz ⊢; omega, by simp at hz ⊢; omega, Rdw.of_row hl hm (by simpa using hz) hcell hwz⟩
  subst hl0
  clear hA0 hval0
  refine (walk W a0 cap0 z0 hc0 w0).mono fun e W' ⟨he, bel⟩ => ?_
  subst he
  exact ⟨_, rfl, _, _, _, [], _, [], hW', trodAll_mk1 (shut_bool Try.underlying4 _), (trodAll_cons_mk (Below.trod laidOut (by kernel_rfl) (of_decide_eq_true (by kernel_rfl)) k0 bel lt0) trodAll_mk0), rfl, bel.frame _, fun h => by cases h⟩

theorem over : Rows.fnCropImageRow.holds Try.pinned (OpenSpec.ofChange Rows.fnCropImageSpec) :=
  OpenClaim.holds_of_wide 4 Try.f4 rfl rfl rfl rfl rfl rfl rfl ⟨rfl, rfl, rfl, rfl, rfl⟩ rfl rfl rfl rfl rfl (by kernel_rfl) Try.func4 (by kernel_rfl)
    (of_decide_eq_true (by kernel_rfl)) (by unfold Func.isWrapper; first | (rw [if_pos (by decide +kernel)]; kernel_rfl) | (rw [if_neg (by decide +kernel)]; exact ⟨rfl, rfl⟩))
    (fun os started H enc _ => lifted os started H enc)

theorem proved : Rows.FnCropImageSaid := over
end Go.Proofs.Ytlllofbicomjgaa.fnCropImage
