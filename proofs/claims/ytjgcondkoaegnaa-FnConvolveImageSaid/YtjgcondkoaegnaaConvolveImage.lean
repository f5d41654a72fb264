/- Whatever the code: ConvolveImage of the drawn image and kernel answers what the model answers, and where there is an answer, the kernel with one weight changes nothing, and an image of equal pixels stays one. -/
import Derived.Test.YtjgcondkoaegnaaRows
import Derived.WalkKit
import Derived.ProofKit
import Derived.OpenShut
import Derived.ShutString
import Derived.ChangeOld
import Derived.Below
import Derived.Test.YtjgcondkoaegnaaCvlT
import Derived.Test.YtjgcondkoaegnaaMgF
import Derived.Test.YtjgcondkoaegnaaLSt
import Derived.Test.YtjgcondkoaegnaaOkJ
import Derived.Deep.RegionHeld3
import Derived.Deep.Cut
namespace Go.Proofs.Ytjgcondkoaegnaa.fnConvolveImage
open Go.ChangeShapes Go.WideShapes Go.ChangeAt Go.RowKit
open Go.ChangeMaps (open_string shut_string)
set_option linter.unusedVariables false

set_option linter.unusedSimpArgs false
set_option maxRecDepth 20000
set_option maxHeartbeats 16000000 in
theorem walk (w : World) (a0 : Option Addr) (cap0 : Nat) (z0 : List Int) (hc0 : z0.length ≤ cap0) (w0 : Rdw .u8 w w.heap.size a0 z0) :
    Calls Try.prog 4 #[.slice a0 z0.length cap0] w fun e w' => e = .returned (.bool true) ∧ Below w.heap.size w w' := by
  have hm := w0.2.1
  unfold maxLen at hm
  by_cases hlen : 1048576 < z0.length
  · go_enter Try.func4, Try.ntmps4
    go_wp2
    go_ret
    exact ⟨rfl, Below.refl _ _⟩
  · go_enter Try.func4, Try.ntmps4
    go_wp2_with fail
    refine (drawCv_any a0 cap0 z0 w hc0 w0).mono ?_
    rintro e u1 ⟨W, H, P, A, c, xs, R, D, A2, c2, ks, rfl, hx, hxc, hk25, hkc, hr, hr2, hbel⟩
    have S1 : LSt w u1 [(A2, ks), (A, xs)] [] := ((LSt.start hbel).add hr).add hr2
    obtain ⟨X, Y, Z, ys, hys, HI, HQ, hor⟩ := cvc_law W H P xs R D ks hx hk25
    clear w0 hr hr2 hbel hm
    have S1001 : LSt w (u1.alloc (.cells #[.int .i64 W, .int .i64 H, .int .i64 P, .slice A xs.length c] 29)) [(A2, ks), (A, xs)] [⟨u1.heap.size, 29, #[.int .i64 W, .int .i64 H, .int .i64 P, .slice A xs.length c]⟩] := LSt.box2 S1 29 #[.int .i64 W, .int .i64 H, .int .i64 P, .slice A xs.length c] u1.heap.size (by simp)
    have S1002 : LSt w ((u1.alloc (.cells #[.int .i64 W, .int .i64 H, .int .i64 P, .slice A xs.length c] 29)).alloc (.cells #[.int .i64 R, .slice A2 ks.length c2, .int .i64 D] 32)) [(A2, ks), (A, xs)] [⟨(u1.heap.size + 1), 32, #[.int .i64 R, .slice A2 ks.length c2, .int .i64 D]⟩, ⟨u1.heap.size, 29, #[.int .i64 W, .int .i64 H, .int .i64 P, .slice A xs.length c]⟩] := LSt.box2 S1001 32 #[.int .i64 R, .slice A2 ks.length c2, .int .i64 D] (u1.heap.size + 1) (by simp)
    clear S1001
    go_wp2_with fail
    clear S1
    generalize (u1.alloc (.cells #[.int .i64 W, .int .i64 H, .int .i64 P, .slice A xs.length c] 29)).alloc (.cells #[.int .i64 R, .slice A2 ks.length c2, .int .i64 D] 32) = u1003 at *
    refine (CvC.use HI A c A2 c2 _ ((S1002).rds (A := A) (xs := xs) (by simp)) hxc ((S1002).rds (A := A2) (xs := ks) (by simp))).mono ?_
    rintro e u1004 ⟨A1004, c1004, rfl, hc1004, hr1004, hB1004⟩
    have S1004 := (S1002.call hB1004).add hr1004
    clear hr1004 hB1004 S1002
    have Fmx := S1004.2.2 ⟨u1.heap.size, 29, #[.int .i64 W, .int .i64 H, .int .i64 P, .slice A xs.length c]⟩ (by simp)
    have ml : u1.heap.size < u1004.heap.size := Fmx.lt
    have m0 : u1004.cell? ⟨u1.heap.size, 0, none⟩ = some (.int .i64 W) := cell_of_row _ _ 0 _ _ _ Fmx
    have m1 : u1004.cell? ⟨u1.heap.size, 1, none⟩ = some (.int .i64 H) := cell_of_row _ _ 1 _ _ _ Fmx
    have m2 : u1004.cell? ⟨u1.heap.size, 2, none⟩ = some (.int .i64 P) := cell_of_row _ _ 2 _ _ _ Fmx
    have m3 : u1004.cell? ⟨u1.heap.size, 3, none⟩ = some (.slice A xs.length c) := cell_of_row _ _ 3 _ _ _ Fmx
    clear Fmx
    have Fkx := S1004.2.2 ⟨(u1.heap.size + 1), 32, #[.int .i64 R, .slice A2 ks.length c2, .int .i64 D]⟩ (by simp)
    have kl : (u1.heap.size + 1) < u1004.heap.size := Fkx.lt
    have k0 : u1004.cell? ⟨(u1.heap.size + 1), 0, none⟩ = some (.int .i64 R) := cell_of_row _ _ 0 _ _ _ Fkx
    have k1 : u1004.cell? ⟨(u1.heap.size + 1), 1, none⟩ = some (.slice A2 ks.length c2) := cell_of_row _ _ 1 _ _ _ Fkx
    have k2 : u1004.cell? ⟨(u1.heap.size + 1), 2, none⟩ = some (.int .i64 D) := cell_of_row _ _ 2 _ _ _ Fkx
    clear Fkx
    rcases hor with hX | ⟨hX, q, fl, gl, hql, hfl, hgl, HPx, HF, HC, HPal, HOne⟩
    · have hX0 : (X == 0) = true := by simp [hX]
      clear hX
      have S1005 : LSt w (u1004.alloc (.cells #[.int .i64 X, .int .i64 Y, .int .i64 Z, .slice A1004 ys.length c1004] 29)) [(A1004, ys), (A2, ks), (A, xs)] [⟨u1004.heap.size, 29, #[.int .i64 X, .int .i64 Y, .int .i64 Z, .slice A1004 ys.length c1004]⟩, ⟨(u1.heap.size + 1), 32, #[.int .i64 R, .slice A2 ks.length c2, .int .i64 D]⟩, ⟨u1.heap.size, 29, #[.int .i64 W, .int .i64 H, .int .i64 P, .slice A xs.length c]⟩] := LSt.box2 S1004 29 #[.int .i64 X, .int .i64 Y, .int .i64 Z, .slice A1004 ys.length c1004] u1004.heap.size (by simp)
      go_upto_region 5 with fail
      clear ml m0 m1 m2 m3
      clear kl k0 k1 k2
      clear S1004
      generalize u1004.alloc (.cells #[.int .i64 X, .int .i64 Y, .int .i64 Z, .slice A1004 ys.length c1004] 29) = u1006 at *
      have HC := Lib.hid S1005.drew
      clear S1005
      refine wp_region_held_drew (S := (fun w' => w'.cell? ⟨u1004.heap.size, 0, none⟩ = some (.int .i64 X) ∧ w'.cell? ⟨u1004.heap.size, 1, none⟩ = some (.int .i64 Y) ∧ w'.cell? ⟨u1004.heap.size, 2, none⟩ = some (.int .i64 Z) ∧ w'.cell? ⟨u1004.heap.size, 3, none⟩ = some (.slice A1004 ys.length c1004) ∧ w'.cell? ⟨u1.heap.size, 0, none⟩ = some (.int .i64 W) ∧ w'.cell? ⟨u1.heap.size, 1, none⟩ = some (.int .i64 H) ∧ w'.cell? ⟨u1.heap.size, 2, none⟩ = some (.int .i64 P) ∧ w'.cell? ⟨u1.heap.size, 3, none⟩ = some (.slice A xs.length c) ∧ w'.cell? ⟨(u1.heap.size + 1), 0, none⟩ = some (.int .i64 R) ∧ w'.cell? ⟨(u1.heap.size + 1), 1, none⟩ = some (.slice A2 ks.length c2) ∧ w'.cell? ⟨(u1.heap.size + 1), 2, none⟩ = some (.int .i64 D))) (by kernel_rfl) (by exact ⟨cell_of_row _ _ 0 _ _ _ ((HC.out).2.2 ⟨u1004.heap.size, 29, #[.int .i64 X, .int .i64 Y, .int .i64 Z, .slice A1004 ys.length c1004]⟩ (by simp)), cell_of_row _ _ 1 _ _ _ ((HC.out).2.2 ⟨u1004.heap.size, 29, #[.int .i64 X, .int .i64 Y, .int .i64 Z, .slice A1004 ys.length c1004]⟩ (by simp)), cell_of_row _ _ 2 _ _ _ ((HC.out).2.2 ⟨u1004.heap.size, 29, #[.int .i64 X, .int .i64 Y, .int .i64 Z, .slice A1004 ys.length c1004]⟩ (by simp)), cell_of_row _ _ 3 _ _ _ ((HC.out).2.2 ⟨u1004.heap.size, 29, #[.int .i64 X, .int .i64 Y, .int .i64 Z, .slice A1004 ys.length c1004]⟩ (by simp)), cell_of_row _ _ 0 _ _ _ ((HC.out).2.2 ⟨u1.heap.size, 29, #[.int .i64 W, .int .i64 H, .int .i64 P, .slice A xs.length c]⟩ (by simp)), cell_of_row _ _ 1 _ _ _ ((HC.out).2.2 ⟨u1.heap.size, 29, #[.int .i64 W, .int .i64 H, .int .i64 P, .slice A xs.length c]⟩ (by simp)), cell_of_row _ _ 2 _ _ _ ((HC.out).2.2 ⟨u1.heap.size, 29, #[.int .i64 W, .int .i64 H, .int .i64 P, .slice A xs.length c]⟩ (by simp)), cell_of_row _ _ 3 _ _ _ ((HC.out).2.2 ⟨u1.heap.size, 29, #[.int .i64 W, .int .i64 H, .int .i64 P, .slice A xs.length c]⟩ (by simp)), cell_of_row _ _ 0 _ _ _ ((HC.out).2.2 ⟨(u1.heap.size + 1), 32, #[.int .i64 R, .slice A2 ks.length c2, .int .i64 D]⟩ (by simp)), cell_of_row _ _ 1 _ _ _ ((HC.out).2.2 ⟨(u1.heap.size + 1), 32, #[.int .i64 R, .slice A2 ks.length c2, .int .i64 D]⟩ (by simp)), cell_of_row _ _ 2 _ _ _ ((HC.out).2.2 ⟨(u1.heap.size + 1), 32, #[.int .i64 R, .slice A2 ks.length c2, .int .i64 D]⟩ (by simp))⟩) (fun hHeld => ?_)
      refine' wpAnyH_take (i := 0) (oi := _) (v := _) ?hi1 (by kernel_rfl) (by kernel_rfl) (by kernel_rfl) ?hq1 (Or.inl ⟨?hw1, ?hy1⟩) (by assumption) ?rest1
      case hi1 => (simp only [List.getElem?_toArray, List.getElem?_cons_succ, List.getElem?_cons_zero]; rfl)
      case hq1 => exact fun _ _ _ h => h
      case hw1 => rfl
      case hy1 => (intro wq hSw; (try dsimp only at hSw); go_simp; (try with_reducible rfl))
      (try simp only [Act.put, List.setIfInBounds_toArray, List.set_cons_zero, List.set_cons_succ])
      refine' wpAnyH_take (i := 1) (oi := _) (v := _) ?hi2 (by kernel_rfl) (by kernel_rfl) (by kernel_rfl) ?hq2 (Or.inl ⟨?hw2, ?hy2⟩) (by assumption) ?rest2
      case hi2 => (simp only [List.getElem?_toArray, List.getElem?_cons_succ, List.getElem?_cons_zero]; rfl)
      case hq2 => exact fun _ _ _ h => h
      case hw2 => rfl
      case hy2 => (intro wq hSw; (try dsimp only at hSw); go_simp; (try with_reducible rfl))
      (try simp only [Act.put, List.setIfInBounds_toArray, List.set_cons_zero, List.set_cons_succ])
      refine' wpAnyH_take (i := 2) (oi := _) (v := _) ?hi3 (by kernel_rfl) (by kernel_rfl) (by kernel_rfl) ?hq3 (Or.inl ⟨?hw3, ?hy3⟩) (by assumption) ?rest3
      case hi3 => (simp only [List.getElem?_toArray, List.getElem?_cons_succ, List.getElem?_cons_zero]; rfl)
      case hq3 => exact fun _ _ _ h => h
      case hw3 => rfl
      case hy3 => (intro wq hSw; (try dsimp only at hSw); go_simp; (try with_reducible rfl))
      (try simp only [Act.put, List.setIfInBounds_toArray, List.set_cons_zero, List.set_cons_succ])
      refine wpAnyH_ready (rs := [3]) (by kernel_rfl) (by simp) ?_
      refine' AllReadyH.cons (o := _) ?hi4 (fun K hK => ?rest4) AllReadyH.nil
      case hi4 => (simp only [List.getElem?_toArray, List.getElem?_cons_succ, List.getElem?_cons_zero]; rfl)
      go_simp
      go_at_call 8
      refine (CvC.use HQ A c A2 c2 _ ((HC.out).rds (A := A) (xs := xs) (by simp)) hxc ((HC.out).rds (A := A2) (xs := ks) (by simp))).mono ?_
      rintro e u1007 ⟨A1007, c1007, rfl, hc1007, hr1007, hB1007⟩
      have HD := Lib.hid ((HC.out.call hB1007).add hr1007)
      clear hr1007 hB1007 HC
      have HC := HD
      clear HD
      go_wp2_with fail
      refine hK.out _ _ (by (try dsimp only); exact ⟨cell_of_row _ _ 0 _ _ _ ((HC.out).2.2 ⟨u1004.heap.size, 29, #[.int .i64 X, .int .i64 Y, .int .i64 Z, .slice A1004 ys.length c1004]⟩ (by simp)), cell_of_row _ _ 1 _ _ _ ((HC.out).2.2 ⟨u1004.heap.size, 29, #[.int .i64 X, .int .i64 Y, .int .i64 Z, .slice A1004 ys.length c1004]⟩ (by simp)), cell_of_row _ _ 2 _ _ _ ((HC.out).2.2 ⟨u1004.heap.size, 29, #[.int .i64 X, .int .i64 Y, .int .i64 Z, .slice A1004 ys.length c1004]⟩ (by simp)), cell_of_row _ _ 3 _ _ _ ((HC.out).2.2 ⟨u1004.heap.size, 29, #[.int .i64 X, .int .i64 Y, .int .i64 Z, .slice A1004 ys.length c1004]⟩ (by simp)), cell_of_row _ _ 0 _ _ _ ((HC.out).2.2 ⟨u1.heap.size, 29, #[.int .i64 W, .int .i64 H, .int .i64 P, .slice A xs.length c]⟩ (by simp)), cell_of_row _ _ 1 _ _ _ ((HC.out).2.2 ⟨u1.heap.size, 29, #[.int .i64 W, .int .i64 H, .int .i64 P, .slice A xs.length c]⟩ (by simp)), cell_of_row _ _ 2 _ _ _ ((HC.out).2.2 ⟨u1.heap.size, 29, #[.int .i64 W, .int .i64 H, .int .i64 P, .slice A xs.length c]⟩ (by simp)), cell_of_row _ _ 3 _ _ _ ((HC.out).2.2 ⟨u1.heap.size, 29, #[.int .i64 W, .int .i64 H, .int .i64 P, .slice A xs.length c]⟩ (by simp)), cell_of_row _ _ 0 _ _ _ ((HC.out).2.2 ⟨(u1.heap.size + 1), 32, #[.int .i64 R, .slice A2 ks.length c2, .int .i64 D]⟩ (by simp)), cell_of_row _ _ 1 _ _ _ ((HC.out).2.2 ⟨(u1.heap.size + 1), 32, #[.int .i64 R, .slice A2 ks.length c2, .int .i64 D]⟩ (by simp)), cell_of_row _ _ 2 _ _ _ ((HC.out).2.2 ⟨(u1.heap.size + 1), 32, #[.int .i64 R, .slice A2 ks.length c2, .int .i64 D]⟩ (by simp))⟩) (fun hHeld => ?_)
      clear hK K
      (try simp only [Act.put, List.setIfInBounds_toArray, List.set_cons_zero, List.set_cons_succ])
      refine wpAnyH_ready (rs := [4]) (by kernel_rfl) (by simp) ?_
      refine' AllReadyH.cons (o := _) ?hi5 (fun K hK => ?rest5) AllReadyH.nil
      case hi5 => (simp only [List.getElem?_toArray, List.getElem?_cons_succ, List.getElem?_cons_zero]; rfl)
      go_simp
      go_at_call 18
      refine (lEqIm X Y Z ys A1004 A1007 c1004 c1007 _ ((HC.out).rds (A := A1004) (xs := ys) (by simp)) ((HC.out).rds (A := A1007) (xs := ys) (by simp)) (by omega)).mono ?_
      rintro e u1008 ⟨rfl, hB1008⟩
      have HD := Lib.hid (HC.out.call hB1008)
      clear hB1008 HC
      have HC := HD
      clear HD
      go_wp2_with fail
      refine hK.out _ _ (by (try dsimp only); exact ⟨cell_of_row _ _ 0 _ _ _ ((HC.out).2.2 ⟨u1004.heap.size, 29, #[.int .i64 X, .int .i64 Y, .int .i64 Z, .slice A1004 ys.length c1004]⟩ (by simp)), cell_of_row _ _ 1 _ _ _ ((HC.out).2.2 ⟨u1004.heap.size, 29, #[.int .i64 X, .int .i64 Y, .int .i64 Z, .slice A1004 ys.length c1004]⟩ (by simp)), cell_of_row _ _ 2 _ _ _ ((HC.out).2.2 ⟨u1004.heap.size, 29, #[.int .i64 X, .int .i64 Y, .int .i64 Z, .slice A1004 ys.length c1004]⟩ (by simp)), cell_of_row _ _ 3 _ _ _ ((HC.out).2.2 ⟨u1004.heap.size, 29, #[.int .i64 X, .int .i64 Y, .int .i64 Z, .slice A1004 ys.length c1004]⟩ (by simp)), cell_of_row _ _ 0 _ _ _ ((HC.out).2.2 ⟨u1.heap.size, 29, #[.int .i64 W, .int .i64 H, .int .i64 P, .slice A xs.length c]⟩ (by simp)), cell_of_row _ _ 1 _ _ _ ((HC.out).2.2 ⟨u1.heap.size, 29, #[.int .i64 W, .int .i64 H, .int .i64 P, .slice A xs.length c]⟩ (by simp)), cell_of_row _ _ 2 _ _ _ ((HC.out).2.2 ⟨u1.heap.size, 29, #[.int .i64 W, .int .i64 H, .int .i64 P, .slice A xs.length c]⟩ (by simp)), cell_of_row _ _ 3 _ _ _ ((HC.out).2.2 ⟨u1.heap.size, 29, #[.int .i64 W, .int .i64 H, .int .i64 P, .slice A xs.length c]⟩ (by simp)), cell_of_row _ _ 0 _ _ _ ((HC.out).2.2 ⟨(u1.heap.size + 1), 32, #[.int .i64 R, .slice A2 ks.length c2, .int .i64 D]⟩ (by simp)), cell_of_row _ _ 1 _ _ _ ((HC.out).2.2 ⟨(u1.heap.size + 1), 32, #[.int .i64 R, .slice A2 ks.length c2, .int .i64 D]⟩ (by simp)), cell_of_row _ _ 2 _ _ _ ((HC.out).2.2 ⟨(u1.heap.size + 1), 32, #[.int .i64 R, .slice A2 ks.length c2, .int .i64 D]⟩ (by simp))⟩) (fun hHeld => ?_)
      clear hK K
      (try simp only [Act.put, List.setIfInBounds_toArray, List.set_cons_zero, List.set_cons_succ])
      refine' wpAnyH_take (i := 5) (oi := _) (v := _) ?hi6 (by kernel_rfl) (by kernel_rfl) (by kernel_rfl) ?hq6 (Or.inl ⟨?hw6, ?hy6⟩) (by assumption) ?rest6
      case hi6 => (simp only [List.getElem?_toArray, List.getElem?_cons_succ, List.getElem?_cons_zero]; rfl)
      case hq6 => exact fun _ _ _ h => h
      case hw6 => rfl
      case hy6 => (intro wq hSw; (try dsimp only at hSw); go_simp; (try with_reducible rfl))
      (try simp only [Act.put, List.setIfInBounds_toArray, List.set_cons_zero, List.set_cons_succ])
      refine' wpAnyH_take (i := 6) (oi := _) (v := _) ?hi7 (by kernel_rfl) (by kernel_rfl) (by kernel_rfl) ?hq7 (Or.inl ⟨?hw7, ?hy7⟩) (by assumption) ?rest7
      case hi7 => (simp only [List.getElem?_toArray, List.getElem?_cons_succ, List.getElem?_cons_zero]; rfl)
      case hq7 => exact fun _ _ _ h => h
      case hw7 => rfl
      case hy7 => (intro wq hSw; (try dsimp only at hSw); go_simp; (try with_reducible rfl))
      (try simp only [Act.put, List.setIfInBounds_toArray, List.set_cons_zero, List.set_cons_succ])
      refine' wpAnyH_take (i := 7) (oi := _) (v := _) ?hi8 (by kernel_rfl) (by kernel_rfl) (by kernel_rfl) ?hq8 (Or.inl ⟨?hw8, ?hy8⟩) (by assumption) ?rest8
      case hi8 => (simp only [List.getElem?_toArray, List.getElem?_cons_succ, List.getElem?_cons_zero]; rfl)
      case hq8 => exact fun _ _ _ h => h
      case hw8 => rfl
      case hy8 => (intro wq hSw; (try dsimp only at hSw); go_simp; (try with_reducible rfl))
      (try simp only [Act.put, List.setIfInBounds_toArray, List.set_cons_zero, List.set_cons_succ])
      refine' wpAnyH_take (i := 8) (oi := _) (v := _) ?hi9 (by kernel_rfl) (by kernel_rfl) (by kernel_rfl) ?hq9 (Or.inl ⟨?hw9, ?hy9⟩) (by assumption) ?rest9
      case hi9 => (simp only [List.getElem?_toArray, List.getElem?_cons_succ, List.getElem?_cons_zero]; rfl)
      case hq9 => exact fun _ _ _ h => h
      case hw9 => rfl
      case hy9 => (intro wq hSw; (try dsimp only at hSw); go_simp; (try with_reducible rfl))
      (try simp only [Act.put, List.setIfInBounds_toArray, List.set_cons_zero, List.set_cons_succ])
      refine' wpAnyH_take (i := 9) (oi := _) (v := _) ?hi10 (by kernel_rfl) (by kernel_rfl) (by kernel_rfl) ?hq10 (Or.inl ⟨?hw10, ?hy10⟩) (by assumption) ?rest10
      case hi10 => (simp only [List.getElem?_toArray, List.getElem?_cons_succ, List.getElem?_cons_zero]; rfl)
      case hq10 => exact fun _ _ _ h => h
      case hw10 => rfl
      case hy10 => (intro wq hSw; (try dsimp only at hSw); go_simp; (try with_reducible rfl))
      (try simp only [Act.put, List.setIfInBounds_toArray, List.set_cons_zero, List.set_cons_succ])
      refine' wpAnyH_take (i := 10) (oi := _) (v := _) ?hi11 (by kernel_rfl) (by kernel_rfl) (by kernel_rfl) ?hq11 (Or.inl ⟨?hw11, ?hy11⟩) (by assumption) ?rest11
      case hi11 => (simp only [List.getElem?_toArray, List.getElem?_cons_succ, List.getElem?_cons_zero]; rfl)
      case hq11 => exact fun _ _ _ h => h
      case hw11 => rfl
      case hy11 => (intro wq hSw; (try dsimp only at hSw); go_simp; (try with_reducible rfl))
      (try simp only [Act.put, List.setIfInBounds_toArray, List.set_cons_zero, List.set_cons_succ])
      refine wpAnyH_done (by kernel_rfl) ?_ _
      have S1009 := HC.out
      clear HC
      go_upto_region 6 with fail
      have HC := Lib.hid S1009.drew
      clear S1009
      refine wp_region_held_drew (S := (fun w' => w'.cell? ⟨u1004.heap.size, 0, none⟩ = some (.int .i64 X) ∧ w'.cell? ⟨u1004.heap.size, 1, none⟩ = some (.int .i64 Y) ∧ w'.cell? ⟨u1004.heap.size, 2, none⟩ = some (.int .i64 Z) ∧ w'.cell? ⟨u1004.heap.size, 3, none⟩ = some (.slice A1004 ys.length c1004) ∧ w'.cell? ⟨u1.heap.size, 0, none⟩ = some (.int .i64 W) ∧ w'.cell? ⟨u1.heap.size, 1, none⟩ = some (.int .i64 H) ∧ w'.cell? ⟨u1.heap.size, 2, none⟩ = some (.int .i64 P) ∧ w'.cell? ⟨u1.heap.size, 3, none⟩ = some (.slice A xs.length c) ∧ w'.cell? ⟨(u1.heap.size + 1), 0, none⟩ = some (.int .i64 R) ∧ w'.cell? ⟨(u1.heap.size + 1), 1, none⟩ = some (.slice A2 ks.length c2) ∧ w'.cell? ⟨(u1.heap.size + 1), 2, none⟩ = some (.int .i64 D))) (by kernel_rfl) (by exact ⟨cell_of_row _ _ 0 _ _ _ ((HC.out).2.2 ⟨u1004.heap.size, 29, #[.int .i64 X, .int .i64 Y, .int .i64 Z, .slice A1004 ys.length c1004]⟩ (by simp)), cell_of_row _ _ 1 _ _ _ ((HC.out).2.2 ⟨u1004.heap.size, 29, #[.int .i64 X, .int .i64 Y, .int .i64 Z, .slice A1004 ys.length c1004]⟩ (by simp)), cell_of_row _ _ 2 _ _ _ ((HC.out).2.2 ⟨u1004.heap.size, 29, #[.int .i64 X, .int .i64 Y, .int .i64 Z, .slice A1004 ys.length c1004]⟩ (by simp)), cell_of_row _ _ 3 _ _ _ ((HC.out).2.2 ⟨u1004.heap.size, 29, #[.int .i64 X, .int .i64 Y, .int .i64 Z, .slice A1004 ys.length c1004]⟩ (by simp)), cell_of_row _ _ 0 _ _ _ ((HC.out).2.2 ⟨u1.heap.size, 29, #[.int .i64 W, .int .i64 H, .int .i64 P, .slice A xs.length c]⟩ (by simp)), cell_of_row _ _ 1 _ _ _ ((HC.out).2.2 ⟨u1.heap.size, 29, #[.int .i64 W, .int .i64 H, .int .i64 P, .slice A xs.length c]⟩ (by simp)), cell_of_row _ _ 2 _ _ _ ((HC.out).2.2 ⟨u1.heap.size, 29, #[.int .i64 W, .int .i64 H, .int .i64 P, .slice A xs.length c]⟩ (by simp)), cell_of_row _ _ 3 _ _ _ ((HC.out).2.2 ⟨u1.heap.size, 29, #[.int .i64 W, .int .i64 H, .int .i64 P, .slice A xs.length c]⟩ (by simp)), cell_of_row _ _ 0 _ _ _ ((HC.out).2.2 ⟨(u1.heap.size + 1), 32, #[.int .i64 R, .slice A2 ks.length c2, .int .i64 D]⟩ (by simp)), cell_of_row _ _ 1 _ _ _ ((HC.out).2.2 ⟨(u1.heap.size + 1), 32, #[.int .i64 R, .slice A2 ks.length c2, .int .i64 D]⟩ (by simp)), cell_of_row _ _ 2 _ _ _ ((HC.out).2.2 ⟨(u1.heap.size + 1), 32, #[.int .i64 R, .slice A2 ks.length c2, .int .i64 D]⟩ (by simp))⟩) (fun hHeld => ?_)
      refine' wpAnyH_take (i := 0) (oi := _) (v := _) ?hi12 (by kernel_rfl) (by kernel_rfl) (by kernel_rfl) ?hq12 (Or.inl ⟨?hw12, ?hy12⟩) (by assumption) ?rest12
      case hi12 => (simp only [List.getElem?_toArray, List.getElem?_cons_succ, List.getElem?_cons_zero]; rfl)
      case hq12 => exact fun _ _ _ h => h
      case hw12 => rfl
      case hy12 => (intro wq hSw; (try dsimp only at hSw); go_simp; (try with_reducible rfl))
      (try simp only [Act.put, List.setIfInBounds_toArray, List.set_cons_zero, List.set_cons_succ])
      refine' wpAnyH_take (i := 1) (oi := _) (v := _) ?hi13 (by kernel_rfl) (by kernel_rfl) (by kernel_rfl) ?hq13 (Or.inl ⟨?hw13, ?hy13⟩) (by assumption) ?rest13
      case hi13 => (simp only [List.getElem?_toArray, List.getElem?_cons_succ, List.getElem?_cons_zero]; rfl)
      case hq13 => exact fun _ _ _ h => h
      case hw13 => rfl
      case hy13 => (intro wq hSw; (try dsimp only at hSw); go_simp; (try with_reducible rfl))
      (try simp only [Act.put, List.setIfInBounds_toArray, List.set_cons_zero, List.set_cons_succ])
      refine' wpAnyH_take (i := 2) (oi := _) (v := _) ?hi14 (by kernel_rfl) (by kernel_rfl) (by kernel_rfl) ?hq14 (Or.inl ⟨?hw14, ?hy14⟩) (by assumption) ?rest14
      case hi14 => (simp only [List.getElem?_toArray, List.getElem?_cons_succ, List.getElem?_cons_zero]; rfl)
      case hq14 => exact fun _ _ _ h => h
      case hw14 => rfl
      case hy14 => (intro wq hSw; (try dsimp only at hSw); go_simp; (try with_reducible rfl))
      (try simp only [Act.put, List.setIfInBounds_toArray, List.set_cons_zero, List.set_cons_succ])
      refine wpAnyH_ready (rs := [3]) (by kernel_rfl) (by simp) ?_
      refine' AllReadyH.cons (o := _) ?hi15 (fun K hK => ?rest15) AllReadyH.nil
      case hi15 => (simp only [List.getElem?_toArray, List.getElem?_cons_succ, List.getElem?_cons_zero]; rfl)
      go_simp
      go_at_call 8
      refine (CvC.use HQ A c A2 c2 _ ((HC.out).rds (A := A) (xs := xs) (by simp)) hxc ((HC.out).rds (A := A2) (xs := ks) (by simp))).mono ?_
      rintro e u1010 ⟨A1010, c1010, rfl, hc1010, hr1010, hB1010⟩
      have HD := Lib.hid ((HC.out.call hB1010).add hr1010)
      clear hr1010 hB1010 HC
      have HC := HD
      clear HD
      go_wp2_with fail
      refine hK.out _ _ (by (try dsimp only); exact ⟨cell_of_row _ _ 0 _ _ _ ((HC.out).2.2 ⟨u1004.heap.size, 29, #[.int .i64 X, .int .i64 Y, .int .i64 Z, .slice A1004 ys.length c1004]⟩ (by simp)), cell_of_row _ _ 1 _ _ _ ((HC.out).2.2 ⟨u1004.heap.size, 29, #[.int .i64 X, .int .i64 Y, .int .i64 Z, .slice A1004 ys.length c1004]⟩ (by simp)), cell_of_row _ _ 2 _ _ _ ((HC.out).2.2 ⟨u1004.heap.size, 29, #[.int .i64 X, .int .i64 Y, .int .i64 Z, .slice A1004 ys.length c1004]⟩ (by simp)), cell_of_row _ _ 3 _ _ _ ((HC.out).2.2 ⟨u1004.heap.size, 29, #[.int .i64 X, .int .i64 Y, .int .i64 Z, .slice A1004 ys.length c1004]⟩ (by simp)), cell_of_row _ _ 0 _ _ _ ((HC.out).2.2 ⟨u1.heap.size, 29, #[.int .i64 W, .int .i64 H, .int .i64 P, .slice A xs.length c]⟩ (by simp)), cell_of_row _ _ 1 _ _ _ ((HC.out).2.2 ⟨u1.heap.size, 29, #[.int .i64 W, .int .i64 H, .int .i64 P, .slice A xs.length c]⟩ (by simp)), cell_of_row _ _ 2 _ _ _ ((HC.out).2.2 ⟨u1.heap.size, 29, #[.int .i64 W, .int .i64 H, .int .i64 P, .slice A xs.length c]⟩ (by simp)), cell_of_row _ _ 3 _ _ _ ((HC.out).2.2 ⟨u1.heap.size, 29, #[.int .i64 W, .int .i64 H, .int .i64 P, .slice A xs.length c]⟩ (by simp)), cell_of_row _ _ 0 _ _ _ ((HC.out).2.2 ⟨(u1.heap.size + 1), 32, #[.int .i64 R, .slice A2 ks.length c2, .int .i64 D]⟩ (by simp)), cell_of_row _ _ 1 _ _ _ ((HC.out).2.2 ⟨(u1.heap.size + 1), 32, #[.int .i64 R, .slice A2 ks.length c2, .int .i64 D]⟩ (by simp)), cell_of_row _ _ 2 _ _ _ ((HC.out).2.2 ⟨(u1.heap.size + 1), 32, #[.int .i64 R, .slice A2 ks.length c2, .int .i64 D]⟩ (by simp))⟩) (fun hHeld => ?_)
      clear hK K
      (try simp only [Act.put, List.setIfInBounds_toArray, List.set_cons_zero, List.set_cons_succ])
      refine wpAnyH_ready (rs := [4]) (by kernel_rfl) (by simp) ?_
      refine' AllReadyH.cons (o := _) ?hi16 (fun K hK => ?rest16) AllReadyH.nil
      case hi16 => (simp only [List.getElem?_toArray, List.getElem?_cons_succ, List.getElem?_cons_zero]; rfl)
      go_simp
      go_at_call 18
      refine (lEqIm X Y Z ys A1004 A1010 c1004 c1010 _ ((HC.out).rds (A := A1004) (xs := ys) (by simp)) ((HC.out).rds (A := A1010) (xs := ys) (by simp)) (by omega)).mono ?_
      rintro e u1011 ⟨rfl, hB1011⟩
      have HD := Lib.hid (HC.out.call hB1011)
      clear hB1011 HC
      have HC := HD
      clear HD
      go_wp2_with fail
      refine hK.out _ _ (by (try dsimp only); exact ⟨cell_of_row _ _ 0 _ _ _ ((HC.out).2.2 ⟨u1004.heap.size, 29, #[.int .i64 X, .int .i64 Y, .int .i64 Z, .slice A1004 ys.length c1004]⟩ (by simp)), cell_of_row _ _ 1 _ _ _ ((HC.out).2.2 ⟨u1004.heap.size, 29, #[.int .i64 X, .int .i64 Y, .int .i64 Z, .slice A1004 ys.length c1004]⟩ (by simp)), cell_of_row _ _ 2 _ _ _ ((HC.out).2.2 ⟨u1004.heap.size, 29, #[.int .i64 X, .int .i64 Y, .int .i64 Z, .slice A1004 ys.length c1004]⟩ (by simp)), cell_of_row _ _ 3 _ _ _ ((HC.out).2.2 ⟨u1004.heap.size, 29, #[.int .i64 X, .int .i64 Y, .int .i64 Z, .slice A1004 ys.length c1004]⟩ (by simp)), cell_of_row _ _ 0 _ _ _ ((HC.out).2.2 ⟨u1.heap.size, 29, #[.int .i64 W, .int .i64 H, .int .i64 P, .slice A xs.length c]⟩ (by simp)), cell_of_row _ _ 1 _ _ _ ((HC.out).2.2 ⟨u1.heap.size, 29, #[.int .i64 W, .int .i64 H, .int .i64 P, .slice A xs.length c]⟩ (by simp)), cell_of_row _ _ 2 _ _ _ ((HC.out).2.2 ⟨u1.heap.size, 29, #[.int .i64 W, .int .i64 H, .int .i64 P, .slice A xs.length c]⟩ (by simp)), cell_of_row _ _ 3 _ _ _ ((HC.out).2.2 ⟨u1.heap.size, 29, #[.int .i64 W, .int .i64 H, .int .i64 P, .slice A xs.length c]⟩ (by simp)), cell_of_row _ _ 0 _ _ _ ((HC.out).2.2 ⟨(u1.heap.size + 1), 32, #[.int .i64 R, .slice A2 ks.length c2, .int .i64 D]⟩ (by simp)), cell_of_row _ _ 1 _ _ _ ((HC.out).2.2 ⟨(u1.heap.size + 1), 32, #[.int .i64 R, .slice A2 ks.length c2, .int .i64 D]⟩ (by simp)), cell_of_row _ _ 2 _ _ _ ((HC.out).2.2 ⟨(u1.heap.size + 1), 32, #[.int .i64 R, .slice A2 ks.length c2, .int .i64 D]⟩ (by simp))⟩) (fun hHeld => ?_)
      clear hK K
      (try simp only [Act.put, List.setIfInBounds_toArray, List.set_cons_zero, List.set_cons_succ])
      refine' wpAnyH_take (i := 5) (oi := _) (v := _) ?hi17 (by kernel_rfl) (by kernel_rfl) (by kernel_rfl) ?hq17 (Or.inl ⟨?hw17, ?hy17⟩) (by assumption) ?rest17
      case hi17 => (simp only [List.getElem?_toArray, List.getElem?_cons_succ, List.getElem?_cons_zero]; rfl)
      case hq17 => exact fun _ _ _ h => h
      case hw17 => rfl
      case hy17 => (intro wq hSw; (try dsimp only at hSw); go_simp; (try with_reducible rfl))
      (try simp only [Act.put, List.setIfInBounds_toArray, List.set_cons_zero, List.set_cons_succ])
      refine wpAnyH_done (by kernel_rfl) ?_ _
      have S1012 := HC.out
      clear HC
      go_wp2
      go_ret
      exact ⟨rfl, S1012.1⟩
    · have hX0 : (X == 0) = false := beq_eq_false_iff_ne.2 hX
      clear hX
      have S1005 : LSt w (u1004.alloc (.cells #[.int .i64 X, .int .i64 Y, .int .i64 Z, .slice A1004 ys.length c1004] 29)) [(A1004, ys), (A2, ks), (A, xs)] [⟨u1004.heap.size, 29, #[.int .i64 X, .int .i64 Y, .int .i64 Z, .slice A1004 ys.length c1004]⟩, ⟨(u1.heap.size + 1), 32, #[.int .i64 R, .slice A2 ks.length c2, .int .i64 D]⟩, ⟨u1.heap.size, 29, #[.int .i64 W, .int .i64 H, .int .i64 P, .slice A xs.length c]⟩] := LSt.box2 S1004 29 #[.int .i64 X, .int .i64 Y, .int .i64 Z, .slice A1004 ys.length c1004] u1004.heap.size (by simp)
      go_upto_region 5 with fail
      clear ml m0 m1 m2 m3
      clear kl k0 k1 k2
      clear S1004
      generalize u1004.alloc (.cells #[.int .i64 X, .int .i64 Y, .int .i64 Z, .slice A1004 ys.length c1004] 29) = u1006 at *
      have HC := Lib.hid S1005.drew
      clear S1005
      refine wp_region_held_drew (S := (fun w' => w'.cell? ⟨u1004.heap.size, 0, none⟩ = some (.int .i64 X) ∧ w'.cell? ⟨u1004.heap.size, 1, none⟩ = some (.int .i64 Y) ∧ w'.cell? ⟨u1004.heap.size, 2, none⟩ = some (.int .i64 Z) ∧ w'.cell? ⟨u1004.heap.size, 3, none⟩ = some (.slice A1004 ys.length c1004) ∧ w'.cell? ⟨u1.heap.size, 0, none⟩ = some (.int .i64 W) ∧ w'.cell? ⟨u1.heap.size, 1, none⟩ = some (.int .i64 H) ∧ w'.cell? ⟨u1.heap.size, 2, none⟩ = some (.int .i64 P) ∧ w'.cell? ⟨u1.heap.size, 3, none⟩ = some (.slice A xs.length c) ∧ w'.cell? ⟨(u1.heap.size + 1), 0, none⟩ = some (.int .i64 R) ∧ w'.cell? ⟨(u1.heap.size + 1), 1, none⟩ = some (.slice A2 ks.length c2) ∧ w'.cell? ⟨(u1.heap.size + 1), 2, none⟩ = some (.int .i64 D))) (by kernel_rfl) (by exact ⟨cell_of_row _ _ 0 _ _ _ ((HC.out).2.2 ⟨u1004.heap.size, 29, #[.int .i64 X, .int .i64 Y, .int .i64 Z, .slice A1004 ys.length c1004]⟩ (by simp)), cell_of_row _ _ 1 _ _ _ ((HC.out).2.2 ⟨u1004.heap.size, 29, #[.int .i64 X, .int .i64 Y, .int .i64 Z, .slice A1004 ys.length c1004]⟩ (by simp)), cell_of_row _ _ 2 _ _ _ ((HC.out).2.2 ⟨u1004.heap.size, 29, #[.int .i64 X, .int .i64 Y, .int .i64 Z, .slice A1004 ys.length c1004]⟩ (by simp)), cell_of_row _ _ 3 _ _ _ ((HC.out).2.2 ⟨u1004.heap.size, 29, #[.int .i64 X, .int .i64 Y, .int .i64 Z, .slice A1004 ys.length c1004]⟩ (by simp)), cell_of_row _ _ 0 _ _ _ ((HC.out).2.2 ⟨u1.heap.size, 29, #[.int .i64 W, .int .i64 H, .int .i64 P, .slice A xs.length c]⟩ (by simp)), cell_of_row _ _ 1 _ _ _ ((HC.out).2.2 ⟨u1.heap.size, 29, #[.int .i64 W, .int .i64 H, .int .i64 P, .slice A xs.length c]⟩ (by simp)), cell_of_row _ _ 2 _ _ _ ((HC.out).2.2 ⟨u1.heap.size, 29, #[.int .i64 W, .int .i64 H, .int .i64 P, .slice A xs.length c]⟩ (by simp)), cell_of_row _ _ 3 _ _ _ ((HC.out).2.2 ⟨u1.heap.size, 29, #[.int .i64 W, .int .i64 H, .int .i64 P, .slice A xs.length c]⟩ (by simp)), cell_of_row _ _ 0 _ _ _ ((HC.out).2.2 ⟨(u1.heap.size + 1), 32, #[.int .i64 R, .slice A2 ks.length c2, .int .i64 D]⟩ (by simp)), cell_of_row _ _ 1 _ _ _ ((HC.out).2.2 ⟨(u1.heap.size + 1), 32, #[.int .i64 R, .slice A2 ks.length c2, .int .i64 D]⟩ (by simp)), cell_of_row _ _ 2 _ _ _ ((HC.out).2.2 ⟨(u1.heap.size + 1), 32, #[.int .i64 R, .slice A2 ks.length c2, .int .i64 D]⟩ (by simp))⟩) (fun hHeld => ?_)
      refine' wpAnyH_take (i := 0) (oi := _) (v := _) ?hi18 (by kernel_rfl) (by kernel_rfl) (by kernel_rfl) ?hq18 (Or.inl ⟨?hw18, ?hy18⟩) (by assumption) ?rest18
      case hi18 => (simp only [List.getElem?_toArray, List.getElem?_cons_succ, List.getElem?_cons_zero]; rfl)
      case hq18 => exact fun _ _ _ h => h
      case hw18 => rfl
      case hy18 => (intro wq hSw; (try dsimp only at hSw); go_simp; (try with_reducible rfl))
      (try simp only [Act.put, List.setIfInBounds_toArray, List.set_cons_zero, List.set_cons_succ])
      refine' wpAnyH_take (i := 1) (oi := _) (v := _) ?hi19 (by kernel_rfl) (by kernel_rfl) (by kernel_rfl) ?hq19 (Or.inl ⟨?hw19, ?hy19⟩) (by assumption) ?rest19
      case hi19 => (simp only [List.getElem?_toArray, List.getElem?_cons_succ, List.getElem?_cons_zero]; rfl)
      case hq19 => exact fun _ _ _ h => h
      case hw19 => rfl
      case hy19 => (intro wq hSw; (try dsimp only at hSw); go_simp; (try with_reducible rfl))
      (try simp only [Act.put, List.setIfInBounds_toArray, List.set_cons_zero, List.set_cons_succ])
      refine' wpAnyH_take (i := 2) (oi := _) (v := _) ?hi20 (by kernel_rfl) (by kernel_rfl) (by kernel_rfl) ?hq20 (Or.inl ⟨?hw20, ?hy20⟩) (by assumption) ?rest20
      case hi20 => (simp only [List.getElem?_toArray, List.getElem?_cons_succ, List.getElem?_cons_zero]; rfl)
      case hq20 => exact fun _ _ _ h => h
      case hw20 => rfl
      case hy20 => (intro wq hSw; (try dsimp only at hSw); go_simp; (try with_reducible rfl))
      (try simp only [Act.put, List.setIfInBounds_toArray, List.set_cons_zero, List.set_cons_succ])
      refine wpAnyH_ready (rs := [3]) (by kernel_rfl) (by simp) ?_
      refine' AllReadyH.cons (o := _) ?hi21 (fun K hK => ?rest21) AllReadyH.nil
      case hi21 => (simp only [List.getElem?_toArray, List.getElem?_cons_succ, List.getElem?_cons_zero]; rfl)
      go_simp
      go_at_call 8
      refine (CvC.use HQ A c A2 c2 _ ((HC.out).rds (A := A) (xs := xs) (by simp)) hxc ((HC.out).rds (A := A2) (xs := ks) (by simp))).mono ?_
      rintro e u1007 ⟨A1007, c1007, rfl, hc1007, hr1007, hB1007⟩
      have HD := Lib.hid ((HC.out.call hB1007).add hr1007)
      clear hr1007 hB1007 HC
      have HC := HD
      clear HD
      go_wp2_with fail
      refine hK.out _ _ (by (try dsimp only); exact ⟨cell_of_row _ _ 0 _ _ _ ((HC.out).2.2 ⟨u1004.heap.size, 29, #[.int .i64 X, .int .i64 Y, .int .i64 Z, .slice A1004 ys.length c1004]⟩ (by simp)), cell_of_row _ _ 1 _ _ _ ((HC.out).2.2 ⟨u1004.heap.size, 29, #[.int .i64 X, .int .i64 Y, .int .i64 Z, .slice A1004 ys.length c1004]⟩ (by simp)), cell_of_row _ _ 2 _ _ _ ((HC.out).2.2 ⟨u1004.heap.size, 29, #[.int .i64 X, .int .i64 Y, .int .i64 Z, .slice A1004 ys.length c1004]⟩ (by simp)), cell_of_row _ _ 3 _ _ _ ((HC.out).2.2 ⟨u1004.heap.size, 29, #[.int .i64 X, .int .i64 Y, .int .i64 Z, .slice A1004 ys.length c1004]⟩ (by simp)), cell_of_row _ _ 0 _ _ _ ((HC.out).2.2 ⟨u1.heap.size, 29, #[.int .i64 W, .int .i64 H, .int .i64 P, .slice A xs.length c]⟩ (by simp)), cell_of_row _ _ 1 _ _ _ ((HC.out).2.2 ⟨u1.heap.size, 29, #[.int .i64 W, .int .i64 H, .int .i64 P, .slice A xs.length c]⟩ (by simp)), cell_of_row _ _ 2 _ _ _ ((HC.out).2.2 ⟨u1.heap.size, 29, #[.int .i64 W, .int .i64 H, .int .i64 P, .slice A xs.length c]⟩ (by simp)), cell_of_row _ _ 3 _ _ _ ((HC.out).2.2 ⟨u1.heap.size, 29, #[.int .i64 W, .int .i64 H, .int .i64 P, .slice A xs.length c]⟩ (by simp)), cell_of_row _ _ 0 _ _ _ ((HC.out).2.2 ⟨(u1.heap.size + 1), 32, #[.int .i64 R, .slice A2 ks.length c2, .int .i64 D]⟩ (by simp)), cell_of_row _ _ 1 _ _ _ ((HC.out).2.2 ⟨(u1.heap.size + 1), 32, #[.int .i64 R, .slice A2 ks.length c2, .int .i64 D]⟩ (by simp)), cell_of_row _ _ 2 _ _ _ ((HC.out).2.2 ⟨(u1.heap.size + 1), 32, #[.int .i64 R, .slice A2 ks.length c2, .int .i64 D]⟩ (by simp))⟩) (fun hHeld => ?_)
      clear hK K
      (try simp only [Act.put, List.setIfInBounds_toArray, List.set_cons_zero, List.set_cons_succ])
      refine wpAnyH_ready (rs := [4]) (by kernel_rfl) (by simp) ?_
      refine' AllReadyH.cons (o := _) ?hi22 (fun K hK => ?rest22) AllReadyH.nil
      case hi22 => (simp only [List.getElem?_toArray, List.getElem?_cons_succ, List.getElem?_cons_zero]; rfl)
      go_simp
      go_at_call 18
      refine (lEqIm X Y Z ys A1004 A1007 c1004 c1007 _ ((HC.out).rds (A := A1004) (xs := ys) (by simp)) ((HC.out).rds (A := A1007) (xs := ys) (by simp)) (by omega)).mono ?_
      rintro e u1008 ⟨rfl, hB1008⟩
      have HD := Lib.hid (HC.out.call hB1008)
      clear hB1008 HC
      have HC := HD
      clear HD
      go_wp2_with fail
      refine hK.out _ _ (by (try dsimp only); exact ⟨cell_of_row _ _ 0 _ _ _ ((HC.out).2.2 ⟨u1004.heap.size, 29, #[.int .i64 X, .int .i64 Y, .int .i64 Z, .slice A1004 ys.length c1004]⟩ (by simp)), cell_of_row _ _ 1 _ _ _ ((HC.out).2.2 ⟨u1004.heap.size, 29, #[.int .i64 X, .int .i64 Y, .int .i64 Z, .slice A1004 ys.length c1004]⟩ (by simp)), cell_of_row _ _ 2 _ _ _ ((HC.out).2.2 ⟨u1004.heap.size, 29, #[.int .i64 X, .int .i64 Y, .int .i64 Z, .slice A1004 ys.length c1004]⟩ (by simp)), cell_of_row _ _ 3 _ _ _ ((HC.out).2.2 ⟨u1004.heap.size, 29, #[.int .i64 X, .int .i64 Y, .int .i64 Z, .slice A1004 ys.length c1004]⟩ (by simp)), cell_of_row _ _ 0 _ _ _ ((HC.out).2.2 ⟨u1.heap.size, 29, #[.int .i64 W, .int .i64 H, .int .i64 P, .slice A xs.length c]⟩ (by simp)), cell_of_row _ _ 1 _ _ _ ((HC.out).2.2 ⟨u1.heap.size, 29, #[.int .i64 W, .int .i64 H, .int .i64 P, .slice A xs.length c]⟩ (by simp)), cell_of_row _ _ 2 _ _ _ ((HC.out).2.2 ⟨u1.heap.size, 29, #[.int .i64 W, .int .i64 H, .int .i64 P, .slice A xs.length c]⟩ (by simp)), cell_of_row _ _ 3 _ _ _ ((HC.out).2.2 ⟨u1.heap.size, 29, #[.int .i64 W, .int .i64 H, .int .i64 P, .slice A xs.length c]⟩ (by simp)), cell_of_row _ _ 0 _ _ _ ((HC.out).2.2 ⟨(u1.heap.size + 1), 32, #[.int .i64 R, .slice A2 ks.length c2, .int .i64 D]⟩ (by simp)), cell_of_row _ _ 1 _ _ _ ((HC.out).2.2 ⟨(u1.heap.size + 1), 32, #[.int .i64 R, .slice A2 ks.length c2, .int .i64 D]⟩ (by simp)), cell_of_row _ _ 2 _ _ _ ((HC.out).2.2 ⟨(u1.heap.size + 1), 32, #[.int .i64 R, .slice A2 ks.length c2, .int .i64 D]⟩ (by simp))⟩) (fun hHeld => ?_)
      clear hK K
      (try simp only [Act.put, List.setIfInBounds_toArray, List.set_cons_zero, List.set_cons_succ])
      refine' wpAnyH_take (i := 5) (oi := _) (v := _) ?hi23 (by kernel_rfl) (by kernel_rfl) (by kernel_rfl) ?hq23 (Or.inl ⟨?hw23, ?hy23⟩) (by assumption) ?rest23
      case hi23 => (simp only [List.getElem?_toArray, List.getElem?_cons_succ, List.getElem?_cons_zero]; rfl)
      case hq23 => exact fun _ _ _ h => h
      case hw23 => rfl
      case hy23 => (intro wq hSw; (try dsimp only at hSw); go_simp; (try with_reducible rfl))
      (try simp only [Act.put, List.setIfInBounds_toArray, List.set_cons_zero, List.set_cons_succ])
      refine' wpAnyH_take (i := 6) (oi := _) (v := _) ?hi24 (by kernel_rfl) (by kernel_rfl) (by kernel_rfl) ?hq24 (Or.inl ⟨?hw24, ?hy24⟩) (by assumption) ?rest24
      case hi24 => (simp only [List.getElem?_toArray, List.getElem?_cons_succ, List.getElem?_cons_zero]; rfl)
      case hq24 => exact fun _ _ _ h => h
      case hw24 => rfl
      case hy24 => (intro wq hSw; (try dsimp only at hSw); go_simp; (try with_reducible rfl))
      (try simp only [Act.put, List.setIfInBounds_toArray, List.set_cons_zero, List.set_cons_succ])
      refine' wpAnyH_take (i := 7) (oi := _) (v := _) ?hi25 (by kernel_rfl) (by kernel_rfl) (by kernel_rfl) ?hq25 (Or.inl ⟨?hw25, ?hy25⟩) (by assumption) ?rest25
      case hi25 => (simp only [List.getElem?_toArray, List.getElem?_cons_succ, List.getElem?_cons_zero]; rfl)
      case hq25 => exact fun _ _ _ h => h
      case hw25 => rfl
      case hy25 => (intro wq hSw; (try dsimp only at hSw); go_simp; (try with_reducible rfl))
      (try simp only [Act.put, List.setIfInBounds_toArray, List.set_cons_zero, List.set_cons_succ])
      refine' wpAnyH_take (i := 8) (oi := _) (v := _) ?hi26 (by kernel_rfl) (by kernel_rfl) (by kernel_rfl) ?hq26 (Or.inl ⟨?hw26, ?hy26⟩) (by assumption) ?rest26
      case hi26 => (simp only [List.getElem?_toArray, List.getElem?_cons_succ, List.getElem?_cons_zero]; rfl)
      case hq26 => exact fun _ _ _ h => h
      case hw26 => rfl
      case hy26 => (intro wq hSw; (try dsimp only at hSw); go_simp; (try with_reducible rfl))
      (try simp only [Act.put, List.setIfInBounds_toArray, List.set_cons_zero, List.set_cons_succ])
      refine' wpAnyH_take (i := 9) (oi := _) (v := _) ?hi27 (by kernel_rfl) (by kernel_rfl) (by kernel_rfl) ?hq27 (Or.inl ⟨?hw27, ?hy27⟩) (by assumption) ?rest27
      case hi27 => (simp only [List.getElem?_toArray, List.getElem?_cons_succ, List.getElem?_cons_zero]; rfl)
      case hq27 => exact fun _ _ _ h => h
      case hw27 => rfl
      case hy27 => (intro wq hSw; (try dsimp only at hSw); go_simp; (try with_reducible rfl))
      (try simp only [Act.put, List.setIfInBounds_toArray, List.set_cons_zero, List.set_cons_succ])
      refine' wpAnyH_take (i := 10) (oi := _) (v := _) ?hi28 (by kernel_rfl) (by kernel_rfl) (by kernel_rfl) ?hq28 (Or.inl ⟨?hw28, ?hy28⟩) (by assumption) ?rest28
      case hi28 => (simp only [List.getElem?_toArray, List.getElem?_cons_succ, List.getElem?_cons_zero]; rfl)
      case hq28 => exact fun _ _ _ h => h
      case hw28 => rfl
      case hy28 => (intro wq hSw; (try dsimp only at hSw); go_simp; (try with_reducible rfl))
      (try simp only [Act.put, List.setIfInBounds_toArray, List.set_cons_zero, List.set_cons_succ])
      refine wpAnyH_done (by kernel_rfl) ?_ _
      have S1009 := HC.out
      clear HC
      go_upto_region 7 with fail
      have HS0 := Lib.hid S1009.drew
      clear S1009
      go_cut [6] from 36 (fun s6 wx => ∃ (gb : Nat) (A93 : Option Addr) (c93 : Nat), s6 = .pointer (some ⟨gb, 0, none⟩) ∧ fl.length ≤ c93 ∧ Hid (LSt w wx [(A93, fl), (A1007, ys), (A1004, ys), (A2, ks), (A, xs)] [⟨gb, 29, #[.int .i64 W, .int .i64 H, .int .i64 P, .slice A93 fl.length c93]⟩, ⟨u1004.heap.size, 29, #[.int .i64 X, .int .i64 Y, .int .i64 Z, .slice A1004 ys.length c1004]⟩, ⟨(u1.heap.size + 1), 32, #[.int .i64 R, .slice A2 ks.length c2, .int .i64 D]⟩, ⟨u1.heap.size, 29, #[.int .i64 W, .int .i64 H, .int .i64 P, .slice A xs.length c]⟩]))
      case first =>
        have HB : Hid (Below u1008.drew.heap.size u1008.drew u1008.drew) := Lib.hid (by exact Below.refl _ _)
        refine wp_region_held_drew (S := (fun w' => w'.cell? ⟨u1.heap.size, 0, none⟩ = some (.int .i64 W) ∧ w'.cell? ⟨u1.heap.size, 1, none⟩ = some (.int .i64 H) ∧ w'.cell? ⟨u1.heap.size, 2, none⟩ = some (.int .i64 P) ∧ w'.cell? ⟨u1.heap.size, 3, none⟩ = some (.slice A xs.length c))) (by kernel_rfl) (by exact ⟨cell_of_row _ _ 0 _ _ _ (((LSt.call HS0.out HB.out)).2.2 ⟨u1.heap.size, 29, #[.int .i64 W, .int .i64 H, .int .i64 P, .slice A xs.length c]⟩ (by simp)), cell_of_row _ _ 1 _ _ _ (((LSt.call HS0.out HB.out)).2.2 ⟨u1.heap.size, 29, #[.int .i64 W, .int .i64 H, .int .i64 P, .slice A xs.length c]⟩ (by simp)), cell_of_row _ _ 2 _ _ _ (((LSt.call HS0.out HB.out)).2.2 ⟨u1.heap.size, 29, #[.int .i64 W, .int .i64 H, .int .i64 P, .slice A xs.length c]⟩ (by simp)), cell_of_row _ _ 3 _ _ _ (((LSt.call HS0.out HB.out)).2.2 ⟨u1.heap.size, 29, #[.int .i64 W, .int .i64 H, .int .i64 P, .slice A xs.length c]⟩ (by simp))⟩) (fun hHeld => ?_)
        refine' wpAnyH_take (i := 0) (oi := _) (v := _) ?hi29 (by kernel_rfl) (by kernel_rfl) (by kernel_rfl) ?hq29 (Or.inl ⟨?hw29, ?hy29⟩) (by assumption) ?rest29
        case hi29 => (simp only [List.getElem?_toArray, List.getElem?_cons_succ, List.getElem?_cons_zero]; rfl)
        case hq29 => exact fun _ _ _ h => h
        case hw29 => rfl
        case hy29 => (intro wq hSw; (try dsimp only at hSw); go_simp; (try with_reducible rfl))
        (try simp only [Act.put, List.setIfInBounds_toArray, List.set_cons_zero, List.set_cons_succ])
        refine' wpAnyH_take (i := 1) (oi := _) (v := _) ?hi30 (by kernel_rfl) (by kernel_rfl) (by kernel_rfl) ?hq30 (Or.inl ⟨?hw30, ?hy30⟩) (by assumption) ?rest30
        case hi30 => (simp only [List.getElem?_toArray, List.getElem?_cons_succ, List.getElem?_cons_zero]; rfl)
        case hq30 => exact fun _ _ _ h => h
        case hw30 => rfl
        case hy30 => (intro wq hSw; (try dsimp only at hSw); go_simp; (try with_reducible rfl))
        (try simp only [Act.put, List.setIfInBounds_toArray, List.set_cons_zero, List.set_cons_succ])
        refine' wpAnyH_take (i := 2) (oi := _) (v := _) ?hi31 (by kernel_rfl) (by kernel_rfl) (by kernel_rfl) ?hq31 (Or.inl ⟨?hw31, ?hy31⟩) (by assumption) ?rest31
        case hi31 => (simp only [List.getElem?_toArray, List.getElem?_cons_succ, List.getElem?_cons_zero]; rfl)
        case hq31 => exact fun _ _ _ h => h
        case hw31 => rfl
        case hy31 => (intro wq hSw; (try dsimp only at hSw); go_simp; (try with_reducible rfl))
        (try simp only [Act.put, List.setIfInBounds_toArray, List.set_cons_zero, List.set_cons_succ])
        refine' wpAnyH_take (i := 3) (oi := _) (v := _) ?hi32 (by kernel_rfl) (by kernel_rfl) (by kernel_rfl) ?hq32 (Or.inl ⟨?hw32, ?hy32⟩) (by assumption) ?rest32
        case hi32 => (simp only [List.getElem?_toArray, List.getElem?_cons_succ, List.getElem?_cons_zero]; rfl)
        case hq32 => exact fun _ _ _ h => h
        case hw32 => rfl
        case hy32 => (intro wq hSw; (try dsimp only at hSw); go_simp; (try with_reducible rfl))
        (try simp only [Act.put, List.setIfInBounds_toArray, List.set_cons_zero, List.set_cons_succ])
        refine' wpAnyH_take (i := 4) (oi := _) (v := _) ?hi33 (by kernel_rfl) (by kernel_rfl) (by kernel_rfl) ?hq33 (Or.inl ⟨?hw33, ?hy33⟩) (by assumption) ?rest33
        case hi33 => (simp only [List.getElem?_toArray, List.getElem?_cons_succ, List.getElem?_cons_zero]; rfl)
        case hq33 => exact fun _ _ _ h => h
        case hw33 => rfl
        case hy33 => (intro wq hSw; (try dsimp only at hSw); go_simp; (try with_reducible rfl))
        (try simp only [Act.put, List.setIfInBounds_toArray, List.set_cons_zero, List.set_cons_succ])
        refine wpAnyH_ready (rs := [5, 7]) (by kernel_rfl) (by simp) ?_
        refine' (AllReadyH.cons (o := _) ?hj1_5 (fun K hK => ?rj1_5) (AllReadyH.cons (o := _) ?hj1_7 (fun K hK => ?rj1_7) AllReadyH.nil))
        case hj1_5 => (simp only [List.getElem?_toArray, List.getElem?_cons_succ, List.getElem?_cons_zero]; rfl)
        case hj1_7 => (simp only [List.getElem?_toArray, List.getElem?_cons_succ, List.getElem?_cons_zero]; rfl)
        case rj1_5 =>
          go_simp
          go_at_call 20
          refine (PxC.use HPx A c _ ((LSt.call HS0.out HB.out).rds (A := A) (xs := xs) (by simp)) hxc).mono ?_
          rintro e u92 ⟨A92, c92, rfl, hc92, hr92, hB92⟩
          have HB2 : Hid (Below u1008.drew.heap.size u1008.drew u92) := Lib.hid (by exact HB.out.trans (hB92.mono HB.out.size))
          have HR := Lib.hid hr92
          clear hr92 hB92 HB
          have HB := HB2
          clear HB2
          go_wp2_with fail
          refine hK.out _ _ (by (try dsimp only); exact ⟨cell_of_row _ _ 0 _ _ _ (((LSt.call HS0.out HB.out)).2.2 ⟨u1.heap.size, 29, #[.int .i64 W, .int .i64 H, .int .i64 P, .slice A xs.length c]⟩ (by simp)), cell_of_row _ _ 1 _ _ _ (((LSt.call HS0.out HB.out)).2.2 ⟨u1.heap.size, 29, #[.int .i64 W, .int .i64 H, .int .i64 P, .slice A xs.length c]⟩ (by simp)), cell_of_row _ _ 2 _ _ _ (((LSt.call HS0.out HB.out)).2.2 ⟨u1.heap.size, 29, #[.int .i64 W, .int .i64 H, .int .i64 P, .slice A xs.length c]⟩ (by simp)), cell_of_row _ _ 3 _ _ _ (((LSt.call HS0.out HB.out)).2.2 ⟨u1.heap.size, 29, #[.int .i64 W, .int .i64 H, .int .i64 P, .slice A xs.length c]⟩ (by simp))⟩) (fun hHeld => ?_)
          clear hK K
          (try simp only [Act.put, List.setIfInBounds_toArray, List.set_cons_zero, List.set_cons_succ])
          refine wpAnyH_ready (rs := [6, 7]) (by kernel_rfl) (by simp) ?_
          refine' (AllReadyH.cons (o := _) ?hj2_6 (fun K hK => ?rj2_6) (AllReadyH.cons (o := _) ?hj2_7 (fun K hK => ?rj2_7) AllReadyH.nil))
          case hj2_6 => (simp only [List.getElem?_toArray, List.getElem?_cons_succ, List.getElem?_cons_zero]; rfl)
          case hj2_7 => (simp only [List.getElem?_toArray, List.getElem?_cons_succ, List.getElem?_cons_zero]; rfl)
          case rj2_6 =>
            go_simp
            go_at_call 19
            refine (HF.out A92 c92 _ HR.out hc92).mono ?_
            rintro e u93 ⟨v93, rfl, HO, hB93⟩
            obtain ⟨A93, c93, rfl, hc93⟩ := HO.slice
            have HO := Lib.hid HO
            have HB2 : Hid (Below u1008.drew.heap.size u1008.drew u93) := Lib.hid (by exact HB.out.trans (hB93.mono HB.out.size))
            clear hB93 HB
            have HB := HB2
            clear HB2
            go_wp2_with fail
            refine hK.out _ _ (by (try dsimp only); exact ⟨cell_of_row _ _ 0 _ _ _ (((LSt.call HS0.out HB.out)).2.2 ⟨u1.heap.size, 29, #[.int .i64 W, .int .i64 H, .int .i64 P, .slice A xs.length c]⟩ (by simp)), cell_of_row _ _ 1 _ _ _ (((LSt.call HS0.out HB.out)).2.2 ⟨u1.heap.size, 29, #[.int .i64 W, .int .i64 H, .int .i64 P, .slice A xs.length c]⟩ (by simp)), cell_of_row _ _ 2 _ _ _ (((LSt.call HS0.out HB.out)).2.2 ⟨u1.heap.size, 29, #[.int .i64 W, .int .i64 H, .int .i64 P, .slice A xs.length c]⟩ (by simp)), cell_of_row _ _ 3 _ _ _ (((LSt.call HS0.out HB.out)).2.2 ⟨u1.heap.size, 29, #[.int .i64 W, .int .i64 H, .int .i64 P, .slice A xs.length c]⟩ (by simp))⟩) (fun hHeld => ?_)
            clear hK K
            (try simp only [Act.put, List.setIfInBounds_toArray, List.set_cons_zero, List.set_cons_succ])
            refine wpAnyH_ready (rs := [7]) (by kernel_rfl) (by simp) ?_
            refine' (AllReadyH.cons (o := _) ?hj3_7 (fun K hK => ?rj3_7) AllReadyH.nil)
            case hj3_7 => (simp only [List.getElem?_toArray, List.getElem?_cons_succ, List.getElem?_cons_zero]; rfl)
            case rj3_7 =>
              go_simp
              have hga := HB.out.size
              have HZ : Hid (Bx (u93.alloc (.cells #[.int .i64 0, .int .i64 0, .int .i64 0, .slice none 0 0] 29)) u93.heap.size 29 #[.int .i64 0, .int .i64 0, .int .i64 0, .slice none 0 0]) := Lib.hid (by exact Bx.new u93 29 #[.int .i64 0, .int .i64 0, .int .i64 0, .slice none 0 0])
              refine hK.out _ _ (by (try dsimp only); exact ⟨cell_of_row _ _ 0 _ _ _ (((LSt.call HS0.out (HB.out.alloc HB.out.size _))).2.2 ⟨u1.heap.size, 29, #[.int .i64 W, .int .i64 H, .int .i64 P, .slice A xs.length c]⟩ (by simp)), cell_of_row _ _ 1 _ _ _ (((LSt.call HS0.out (HB.out.alloc HB.out.size _))).2.2 ⟨u1.heap.size, 29, #[.int .i64 W, .int .i64 H, .int .i64 P, .slice A xs.length c]⟩ (by simp)), cell_of_row _ _ 2 _ _ _ (((LSt.call HS0.out (HB.out.alloc HB.out.size _))).2.2 ⟨u1.heap.size, 29, #[.int .i64 W, .int .i64 H, .int .i64 P, .slice A xs.length c]⟩ (by simp)), cell_of_row _ _ 3 _ _ _ (((LSt.call HS0.out (HB.out.alloc HB.out.size _))).2.2 ⟨u1.heap.size, 29, #[.int .i64 W, .int .i64 H, .int .i64 P, .slice A xs.length c]⟩ (by simp))⟩) (fun hHeld => ?_)
              clear hK K
              (try simp only [Act.put, List.setIfInBounds_toArray, List.set_cons_zero, List.set_cons_succ])
              refine wpAnyH_ready (rs := [8]) (by kernel_rfl) (by simp) ?_
              refine' (AllReadyH.cons (o := _) ?hj4_8 (fun K hK => ?rj4_8) AllReadyH.nil)
              case hj4_8 => (simp only [List.getElem?_toArray, List.getElem?_cons_succ, List.getElem?_cons_zero]; rfl)
              case rj4_8 =>
                have hzz := HZ.out
                have z0 : (u93.alloc (.cells #[.int .i64 0, .int .i64 0, .int .i64 0, .slice none 0 0] 29)).cell? ⟨u93.heap.size, 0, none⟩ = some (.int .i64 0) := cell_of_row _ _ 0 _ _ _ hzz
                have z1 : (u93.alloc (.cells #[.int .i64 0, .int .i64 0, .int .i64 0, .slice none 0 0] 29)).cell? ⟨u93.heap.size, 1, none⟩ = some (.int .i64 0) := cell_of_row _ _ 1 _ _ _ hzz
                have z2 : (u93.alloc (.cells #[.int .i64 0, .int .i64 0, .int .i64 0, .slice none 0 0] 29)).cell? ⟨u93.heap.size, 2, none⟩ = some (.int .i64 0) := cell_of_row _ _ 2 _ _ _ hzz
                have z3 : (u93.alloc (.cells #[.int .i64 0, .int .i64 0, .int .i64 0, .slice none 0 0] 29)).cell? ⟨u93.heap.size, 3, none⟩ = some (.slice none 0 0) := cell_of_row _ _ 3 _ _ _ hzz
                have y0 : (u93.alloc (.cells #[.int .i64 0, .int .i64 0, .int .i64 0, .slice none 0 0] 29)).frozen? ⟨u93.heap.size, 0, none⟩ = false := frozen_of_row _ _ 0 _ _ hzz
                have y1 : (u93.alloc (.cells #[.int .i64 0, .int .i64 0, .int .i64 0, .slice none 0 0] 29)).frozen? ⟨u93.heap.size, 1, none⟩ = false := frozen_of_row _ _ 1 _ _ hzz
                have y2 : (u93.alloc (.cells #[.int .i64 0, .int .i64 0, .int .i64 0, .slice none 0 0] 29)).frozen? ⟨u93.heap.size, 2, none⟩ = false := frozen_of_row _ _ 2 _ _ hzz
                have y3 : (u93.alloc (.cells #[.int .i64 0, .int .i64 0, .int .i64 0, .slice none 0 0] 29)).frozen? ⟨u93.heap.size, 3, none⟩ = false := frozen_of_row _ _ 3 _ _ hzz
                clear hzz
                go_simp
                go_wp2_with fail
                refine hK.out _ _ (by (try dsimp only); exact ⟨cell_of_row _ _ 0 _ _ _ (((fim_fillB 29 #[.int .i64 W, .int .i64 H, .int .i64 P, .slice A93 fl.length c93] HS0.out HB.out HO.out)).2.2 ⟨u1.heap.size, 29, #[.int .i64 W, .int .i64 H, .int .i64 P, .slice A xs.length c]⟩ (by simp)), cell_of_row _ _ 1 _ _ _ (((fim_fillB 29 #[.int .i64 W, .int .i64 H, .int .i64 P, .slice A93 fl.length c93] HS0.out HB.out HO.out)).2.2 ⟨u1.heap.size, 29, #[.int .i64 W, .int .i64 H, .int .i64 P, .slice A xs.length c]⟩ (by simp)), cell_of_row _ _ 2 _ _ _ (((fim_fillB 29 #[.int .i64 W, .int .i64 H, .int .i64 P, .slice A93 fl.length c93] HS0.out HB.out HO.out)).2.2 ⟨u1.heap.size, 29, #[.int .i64 W, .int .i64 H, .int .i64 P, .slice A xs.length c]⟩ (by simp)), cell_of_row _ _ 3 _ _ _ (((fim_fillB 29 #[.int .i64 W, .int .i64 H, .int .i64 P, .slice A93 fl.length c93] HS0.out HB.out HO.out)).2.2 ⟨u1.heap.size, 29, #[.int .i64 W, .int .i64 H, .int .i64 P, .slice A xs.length c]⟩ (by simp))⟩) (fun hHeld => ?_)
                clear hK K
                (try simp only [Act.put, List.setIfInBounds_toArray, List.set_cons_zero, List.set_cons_succ])
                refine wpAnyH_done (by kernel_rfl) ?_ _
                go_wp2_with fail
                go_meet
                exact ⟨_, A93, c93, rfl, hc93, Lib.hid (fim_fillB 29 #[.int .i64 W, .int .i64 H, .int .i64 P, .slice A93 fl.length c93] HS0.out HB.out HO.out)⟩
          case rj2_7 =>
            go_simp
            have hga := HB.out.size
            have HZ : Hid (Bx (u92.alloc (.cells #[.int .i64 0, .int .i64 0, .int .i64 0, .slice none 0 0] 29)) u92.heap.size 29 #[.int .i64 0, .int .i64 0, .int .i64 0, .slice none 0 0]) := Lib.hid (by exact Bx.new u92 29 #[.int .i64 0, .int .i64 0, .int .i64 0, .slice none 0 0])
            have HB2 : Hid (Below u1008.drew.heap.size u1008.drew (u92.alloc (.cells #[.int .i64 0, .int .i64 0, .int .i64 0, .slice none 0 0] 29))) := Lib.hid (by exact HB.out.alloc HB.out.size _)
            clear HB
            have HB := HB2
            clear HB2
            have HR2 : Hid (Rds .i64 (u92.alloc (.cells #[.int .i64 0, .int .i64 0, .int .i64 0, .slice none 0 0] 29)) (u92.alloc (.cells #[.int .i64 0, .int .i64 0, .int .i64 0, .slice none 0 0] 29)).heap.size A92 q) := Lib.hid (by exact (HR.out.alloc (Nat.le_refl _) _).more (by simp))
            clear HR
            have HR := HR2
            clear HR2
            refine hK.out _ _ (by (try dsimp only); exact ⟨cell_of_row _ _ 0 _ _ _ (((LSt.call HS0.out HB.out)).2.2 ⟨u1.heap.size, 29, #[.int .i64 W, .int .i64 H, .int .i64 P, .slice A xs.length c]⟩ (by simp)), cell_of_row _ _ 1 _ _ _ (((LSt.call HS0.out HB.out)).2.2 ⟨u1.heap.size, 29, #[.int .i64 W, .int .i64 H, .int .i64 P, .slice A xs.length c]⟩ (by simp)), cell_of_row _ _ 2 _ _ _ (((LSt.call HS0.out HB.out)).2.2 ⟨u1.heap.size, 29, #[.int .i64 W, .int .i64 H, .int .i64 P, .slice A xs.length c]⟩ (by simp)), cell_of_row _ _ 3 _ _ _ (((LSt.call HS0.out HB.out)).2.2 ⟨u1.heap.size, 29, #[.int .i64 W, .int .i64 H, .int .i64 P, .slice A xs.length c]⟩ (by simp))⟩) (fun hHeld => ?_)
            clear hK K
            (try simp only [Act.put, List.setIfInBounds_toArray, List.set_cons_zero, List.set_cons_succ])
            refine wpAnyH_ready (rs := [6]) (by kernel_rfl) (by simp) ?_
            refine' (AllReadyH.cons (o := _) ?hj5_6 (fun K hK => ?rj5_6) AllReadyH.nil)
            case hj5_6 => (simp only [List.getElem?_toArray, List.getElem?_cons_succ, List.getElem?_cons_zero]; rfl)
            case rj5_6 =>
              go_simp
              have hgz := HZ.out.lt
              go_at_call 19
              refine (HF.out A92 c92 _ HR.out hc92).mono ?_
              rintro e u93 ⟨v93, rfl, HO, hB93⟩
              obtain ⟨A93, c93, rfl, hc93⟩ := HO.slice
              have HO := Lib.hid HO
              have HB2 : Hid (Below u1008.drew.heap.size u1008.drew u93) := Lib.hid (by exact HB.out.trans (hB93.mono HB.out.size))
              have HZ2 := Lib.hid (HZ.out.below hB93)
              clear HZ
              have HZ := HZ2
              clear HZ2
              clear hB93 HB
              have HB := HB2
              clear HB2
              go_wp2_with fail
              refine hK.out _ _ (by (try dsimp only); exact ⟨cell_of_row _ _ 0 _ _ _ (((LSt.call HS0.out HB.out)).2.2 ⟨u1.heap.size, 29, #[.int .i64 W, .int .i64 H, .int .i64 P, .slice A xs.length c]⟩ (by simp)), cell_of_row _ _ 1 _ _ _ (((LSt.call HS0.out HB.out)).2.2 ⟨u1.heap.size, 29, #[.int .i64 W, .int .i64 H, .int .i64 P, .slice A xs.length c]⟩ (by simp)), cell_of_row _ _ 2 _ _ _ (((LSt.call HS0.out HB.out)).2.2 ⟨u1.heap.size, 29, #[.int .i64 W, .int .i64 H, .int .i64 P, .slice A xs.length c]⟩ (by simp)), cell_of_row _ _ 3 _ _ _ (((LSt.call HS0.out HB.out)).2.2 ⟨u1.heap.size, 29, #[.int .i64 W, .int .i64 H, .int .i64 P, .slice A xs.length c]⟩ (by simp))⟩) (fun hHeld => ?_)
              clear hK K
              (try simp only [Act.put, List.setIfInBounds_toArray, List.set_cons_zero, List.set_cons_succ])
              refine wpAnyH_ready (rs := [8]) (by kernel_rfl) (by simp) ?_
              refine' (AllReadyH.cons (o := _) ?hj6_8 (fun K hK => ?rj6_8) AllReadyH.nil)
              case hj6_8 => (simp only [List.getElem?_toArray, List.getElem?_cons_succ, List.getElem?_cons_zero]; rfl)
              case rj6_8 =>
                have hzz := HZ.out
                have z0 : u93.cell? ⟨u92.heap.size, 0, none⟩ = some (.int .i64 0) := cell_of_row _ _ 0 _ _ _ hzz
                have z1 : u93.cell? ⟨u92.heap.size, 1, none⟩ = some (.int .i64 0) := cell_of_row _ _ 1 _ _ _ hzz
                have z2 : u93.cell? ⟨u92.heap.size, 2, none⟩ = some (.int .i64 0) := cell_of_row _ _ 2 _ _ _ hzz
                have z3 : u93.cell? ⟨u92.heap.size, 3, none⟩ = some (.slice none 0 0) := cell_of_row _ _ 3 _ _ _ hzz
                have y0 : u93.frozen? ⟨u92.heap.size, 0, none⟩ = false := frozen_of_row _ _ 0 _ _ hzz
                have y1 : u93.frozen? ⟨u92.heap.size, 1, none⟩ = false := frozen_of_row _ _ 1 _ _ hzz
                have y2 : u93.frozen? ⟨u92.heap.size, 2, none⟩ = false := frozen_of_row _ _ 2 _ _ hzz
                have y3 : u93.frozen? ⟨u92.heap.size, 3, none⟩ = false := frozen_of_row _ _ 3 _ _ hzz
                clear hzz
                go_simp
                go_wp2_with fail
                refine hK.out _ _ (by (try dsimp only); exact ⟨cell_of_row _ _ 0 _ _ _ (((fim_fillA HS0.out HB.out HZ.out (by omega) HO.out (by omega) (.int .i64 W) (.int .i64 H) (.int .i64 P) (.slice A93 fl.length c93))).2.2 ⟨u1.heap.size, 29, #[.int .i64 W, .int .i64 H, .int .i64 P, .slice A xs.length c]⟩ (by simp)), cell_of_row _ _ 1 _ _ _ (((fim_fillA HS0.out HB.out HZ.out (by omega) HO.out (by omega) (.int .i64 W) (.int .i64 H) (.int .i64 P) (.slice A93 fl.length c93))).2.2 ⟨u1.heap.size, 29, #[.int .i64 W, .int .i64 H, .int .i64 P, .slice A xs.length c]⟩ (by simp)), cell_of_row _ _ 2 _ _ _ (((fim_fillA HS0.out HB.out HZ.out (by omega) HO.out (by omega) (.int .i64 W) (.int .i64 H) (.int .i64 P) (.slice A93 fl.length c93))).2.2 ⟨u1.heap.size, 29, #[.int .i64 W, .int .i64 H, .int .i64 P, .slice A xs.length c]⟩ (by simp)), cell_of_row _ _ 3 _ _ _ (((fim_fillA HS0.out HB.out HZ.out (by omega) HO.out (by omega) (.int .i64 W) (.int .i64 H) (.int .i64 P) (.slice A93 fl.length c93))).2.2 ⟨u1.heap.size, 29, #[.int .i64 W, .int .i64 H, .int .i64 P, .slice A xs.length c]⟩ (by simp))⟩) (fun hHeld => ?_)
                clear hK K
                (try simp only [Act.put, List.setIfInBounds_toArray, List.set_cons_zero, List.set_cons_succ])
                refine wpAnyH_done (by kernel_rfl) ?_ _
                go_wp2_with fail
                go_meet
                exact ⟨_, A93, c93, rfl, hc93, Lib.hid (fim_fillA HS0.out HB.out HZ.out (by omega) HO.out (by omega) (.int .i64 W) (.int .i64 H) (.int .i64 P) (.slice A93 fl.length c93))⟩
        case rj1_7 =>
          go_simp
          have hga := HB.out.size
          have HZ : Hid (Bx (u1008.drew.alloc (.cells #[.int .i64 0, .int .i64 0, .int .i64 0, .slice none 0 0] 29)) u1008.drew.heap.size 29 #[.int .i64 0, .int .i64 0, .int .i64 0, .slice none 0 0]) := Lib.hid (by exact Bx.new u1008.drew 29 #[.int .i64 0, .int .i64 0, .int .i64 0, .slice none 0 0])
          have HB2 : Hid (Below u1008.drew.heap.size u1008.drew (u1008.drew.alloc (.cells #[.int .i64 0, .int .i64 0, .int .i64 0, .slice none 0 0] 29))) := Lib.hid (by exact HB.out.alloc HB.out.size _)
          clear HB
          have HB := HB2
          clear HB2
          refine hK.out _ _ (by (try dsimp only); exact ⟨cell_of_row _ _ 0 _ _ _ (((LSt.call HS0.out HB.out)).2.2 ⟨u1.heap.size, 29, #[.int .i64 W, .int .i64 H, .int .i64 P, .slice A xs.length c]⟩ (by simp)), cell_of_row _ _ 1 _ _ _ (((LSt.call HS0.out HB.out)).2.2 ⟨u1.heap.size, 29, #[.int .i64 W, .int .i64 H, .int .i64 P, .slice A xs.length c]⟩ (by simp)), cell_of_row _ _ 2 _ _ _ (((LSt.call HS0.out HB.out)).2.2 ⟨u1.heap.size, 29, #[.int .i64 W, .int .i64 H, .int .i64 P, .slice A xs.length c]⟩ (by simp)), cell_of_row _ _ 3 _ _ _ (((LSt.call HS0.out HB.out)).2.2 ⟨u1.heap.size, 29, #[.int .i64 W, .int .i64 H, .int .i64 P, .slice A xs.length c]⟩ (by simp))⟩) (fun hHeld => ?_)
          clear hK K
          (try simp only [Act.put, List.setIfInBounds_toArray, List.set_cons_zero, List.set_cons_succ])
          refine wpAnyH_ready (rs := [5]) (by kernel_rfl) (by simp) ?_
          refine' (AllReadyH.cons (o := _) ?hj7_5 (fun K hK => ?rj7_5) AllReadyH.nil)
          case hj7_5 => (simp only [List.getElem?_toArray, List.getElem?_cons_succ, List.getElem?_cons_zero]; rfl)
          case rj7_5 =>
            go_simp
            go_at_call 20
            refine (PxC.use HPx A c _ ((LSt.call HS0.out HB.out).rds (A := A) (xs := xs) (by simp)) hxc).mono ?_
            rintro e u92 ⟨A92, c92, rfl, hc92, hr92, hB92⟩
            have HB2 : Hid (Below u1008.drew.heap.size u1008.drew u92) := Lib.hid (by exact HB.out.trans (hB92.mono HB.out.size))
            have HZ2 := Lib.hid (HZ.out.below hB92)
            clear HZ
            have HZ := HZ2
            clear HZ2
            have HR := Lib.hid hr92
            clear hr92 hB92 HB
            have HB := HB2
            clear HB2
            go_wp2_with fail
            refine hK.out _ _ (by (try dsimp only); exact ⟨cell_of_row _ _ 0 _ _ _ (((LSt.call HS0.out HB.out)).2.2 ⟨u1.heap.size, 29, #[.int .i64 W, .int .i64 H, .int .i64 P, .slice A xs.length c]⟩ (by simp)), cell_of_row _ _ 1 _ _ _ (((LSt.call HS0.out HB.out)).2.2 ⟨u1.heap.size, 29, #[.int .i64 W, .int .i64 H, .int .i64 P, .slice A xs.length c]⟩ (by simp)), cell_of_row _ _ 2 _ _ _ (((LSt.call HS0.out HB.out)).2.2 ⟨u1.heap.size, 29, #[.int .i64 W, .int .i64 H, .int .i64 P, .slice A xs.length c]⟩ (by simp)), cell_of_row _ _ 3 _ _ _ (((LSt.call HS0.out HB.out)).2.2 ⟨u1.heap.size, 29, #[.int .i64 W, .int .i64 H, .int .i64 P, .slice A xs.length c]⟩ (by simp))⟩) (fun hHeld => ?_)
            clear hK K
            (try simp only [Act.put, List.setIfInBounds_toArray, List.set_cons_zero, List.set_cons_succ])
            refine wpAnyH_ready (rs := [6]) (by kernel_rfl) (by simp) ?_
            refine' (AllReadyH.cons (o := _) ?hj8_6 (fun K hK => ?rj8_6) AllReadyH.nil)
            case hj8_6 => (simp only [List.getElem?_toArray, List.getElem?_cons_succ, List.getElem?_cons_zero]; rfl)
            case rj8_6 =>
              go_simp
              have hgz := HZ.out.lt
              go_at_call 19
              refine (HF.out A92 c92 _ HR.out hc92).mono ?_
              rintro e u93 ⟨v93, rfl, HO, hB93⟩
              obtain ⟨A93, c93, rfl, hc93⟩ := HO.slice
              have HO := Lib.hid HO
              have HB2 : Hid (Below u1008.drew.heap.size u1008.drew u93) := Lib.hid (by exact HB.out.trans (hB93.mono HB.out.size))
              have HZ2 := Lib.hid (HZ.out.below hB93)
              clear HZ
              have HZ := HZ2
              clear HZ2
              clear hB93 HB
              have HB := HB2
              clear HB2
              go_wp2_with fail
              refine hK.out _ _ (by (try dsimp only); exact ⟨cell_of_row _ _ 0 _ _ _ (((LSt.call HS0.out HB.out)).2.2 ⟨u1.heap.size, 29, #[.int .i64 W, .int .i64 H, .int .i64 P, .slice A xs.length c]⟩ (by simp)), cell_of_row _ _ 1 _ _ _ (((LSt.call HS0.out HB.out)).2.2 ⟨u1.heap.size, 29, #[.int .i64 W, .int .i64 H, .int .i64 P, .slice A xs.length c]⟩ (by simp)), cell_of_row _ _ 2 _ _ _ (((LSt.call HS0.out HB.out)).2.2 ⟨u1.heap.size, 29, #[.int .i64 W, .int .i64 H, .int .i64 P, .slice A xs.length c]⟩ (by simp)), cell_of_row _ _ 3 _ _ _ (((LSt.call HS0.out HB.out)).2.2 ⟨u1.heap.size, 29, #[.int .i64 W, .int .i64 H, .int .i64 P, .slice A xs.length c]⟩ (by simp))⟩) (fun hHeld => ?_)
              clear hK K
              (try simp only [Act.put, List.setIfInBounds_toArray, List.set_cons_zero, List.set_cons_succ])
              refine wpAnyH_ready (rs := [8]) (by kernel_rfl) (by simp) ?_
              refine' (AllReadyH.cons (o := _) ?hj9_8 (fun K hK => ?rj9_8) AllReadyH.nil)
              case hj9_8 => (simp only [List.getElem?_toArray, List.getElem?_cons_succ, List.getElem?_cons_zero]; rfl)
              case rj9_8 =>
                have hzz := HZ.out
                have z0 : u93.cell? ⟨u1008.heap.size, 0, none⟩ = some (.int .i64 0) := cell_of_row _ _ 0 _ _ _ hzz
                have z1 : u93.cell? ⟨u1008.heap.size, 1, none⟩ = some (.int .i64 0) := cell_of_row _ _ 1 _ _ _ hzz
                have z2 : u93.cell? ⟨u1008.heap.size, 2, none⟩ = some (.int .i64 0) := cell_of_row _ _ 2 _ _ _ hzz
                have z3 : u93.cell? ⟨u1008.heap.size, 3, none⟩ = some (.slice none 0 0) := cell_of_row _ _ 3 _ _ _ hzz
                have y0 : u93.frozen? ⟨u1008.heap.size, 0, none⟩ = false := frozen_of_row _ _ 0 _ _ hzz
                have y1 : u93.frozen? ⟨u1008.heap.size, 1, none⟩ = false := frozen_of_row _ _ 1 _ _ hzz
                have y2 : u93.frozen? ⟨u1008.heap.size, 2, none⟩ = false := frozen_of_row _ _ 2 _ _ hzz
                have y3 : u93.frozen? ⟨u1008.heap.size, 3, none⟩ = false := frozen_of_row _ _ 3 _ _ hzz
                clear hzz
                go_simp
                go_wp2_with fail
                refine hK.out _ _ (by (try dsimp only); exact ⟨cell_of_row _ _ 0 _ _ _ (((fim_fillA HS0.out HB.out HZ.out (by omega) HO.out (by omega) (.int .i64 W) (.int .i64 H) (.int .i64 P) (.slice A93 fl.length c93))).2.2 ⟨u1.heap.size, 29, #[.int .i64 W, .int .i64 H, .int .i64 P, .slice A xs.length c]⟩ (by simp)), cell_of_row _ _ 1 _ _ _ (((fim_fillA HS0.out HB.out HZ.out (by omega) HO.out (by omega) (.int .i64 W) (.int .i64 H) (.int .i64 P) (.slice A93 fl.length c93))).2.2 ⟨u1.heap.size, 29, #[.int .i64 W, .int .i64 H, .int .i64 P, .slice A xs.length c]⟩ (by simp)), cell_of_row _ _ 2 _ _ _ (((fim_fillA HS0.out HB.out HZ.out (by omega) HO.out (by omega) (.int .i64 W) (.int .i64 H) (.int .i64 P) (.slice A93 fl.length c93))).2.2 ⟨u1.heap.size, 29, #[.int .i64 W, .int .i64 H, .int .i64 P, .slice A xs.length c]⟩ (by simp)), cell_of_row _ _ 3 _ _ _ (((fim_fillA HS0.out HB.out HZ.out (by omega) HO.out (by omega) (.int .i64 W) (.int .i64 H) (.int .i64 P) (.slice A93 fl.length c93))).2.2 ⟨u1.heap.size, 29, #[.int .i64 W, .int .i64 H, .int .i64 P, .slice A xs.length c]⟩ (by simp))⟩) (fun hHeld => ?_)
                clear hK K
                (try simp only [Act.put, List.setIfInBounds_toArray, List.set_cons_zero, List.set_cons_succ])
                refine wpAnyH_done (by kernel_rfl) ?_ _
                go_wp2_with fail
                go_meet
                exact ⟨_, A93, c93, rfl, hc93, Lib.hid (fim_fillA HS0.out HB.out HZ.out (by omega) HO.out (by omega) (.int .i64 W) (.int .i64 H) (.int .i64 P) (.slice A93 fl.length c93))⟩
      case rest =>
      obtain ⟨gb, A93, c93, rfl, hc93, HC9⟩ := hcut
      have S2000 := HC9.out
      clear HC9 HS0
      generalize wc = u2000 at *
      have Fbbx := S2000.2.2 ⟨gb, 29, #[.int .i64 W, .int .i64 H, .int .i64 P, .slice A93 fl.length c93]⟩ (by simp)
      have bbl : gb < u2000.heap.size := Fbbx.lt
      have bb0 : u2000.cell? ⟨gb, 0, none⟩ = some (.int .i64 W) := cell_of_row _ _ 0 _ _ _ Fbbx
      have bb1 : u2000.cell? ⟨gb, 1, none⟩ = some (.int .i64 H) := cell_of_row _ _ 1 _ _ _ Fbbx
      have bb2 : u2000.cell? ⟨gb, 2, none⟩ = some (.int .i64 P) := cell_of_row _ _ 2 _ _ _ Fbbx
      have bb3 : u2000.cell? ⟨gb, 3, none⟩ = some (.slice A93 fl.length c93) := cell_of_row _ _ 3 _ _ _ Fbbx
      clear Fbbx
      have Fkx := S2000.2.2 ⟨(u1.heap.size + 1), 32, #[.int .i64 R, .slice A2 ks.length c2, .int .i64 D]⟩ (by simp)
      have kl : (u1.heap.size + 1) < u2000.heap.size := Fkx.lt
      have k0 : u2000.cell? ⟨(u1.heap.size + 1), 0, none⟩ = some (.int .i64 R) := cell_of_row _ _ 0 _ _ _ Fkx
      have k1 : u2000.cell? ⟨(u1.heap.size + 1), 1, none⟩ = some (.slice A2 ks.length c2) := cell_of_row _ _ 1 _ _ _ Fkx
      have k2 : u2000.cell? ⟨(u1.heap.size + 1), 2, none⟩ = some (.int .i64 D) := cell_of_row _ _ 2 _ _ _ Fkx
      clear Fkx
      go_wp2_with fail
      refine (CvC.use HC A93 c93 A2 c2 _ ((S2000).rds (A := A93) (xs := fl) (by simp)) hc93 ((S2000).rds (A := A2) (xs := ks) (by simp))).mono ?_
      rintro e u1010 ⟨A1010, c1010, rfl, hc1010, hr1010, hB1010⟩
      have S1010 := (S2000.call hB1010).add hr1010
      clear bbl bb0 bb1 bb2 bb3
      clear kl k0 k1 k2
      clear hr1010 hB1010 S2000
      go_wp2_with fail
      refine (HPal.out A1010 c1010 _ ((S1010).rds (A := A1010) (xs := gl) (by simp)) hc1010).mono ?_
      rintro e u2100 ⟨A2100, c2100, rfl, hc2100, hB2100⟩
      have S2100 := S1010.call hB2100
      clear hB2100 S1010
      go_upto_region 9 with fail
      have HC := Lib.hid S2100.drew
      clear S2100
      refine wp_region_held_drew (S := (fun w' => w'.cell? ⟨u1.heap.size, 0, none⟩ = some (.int .i64 W) ∧ w'.cell? ⟨u1.heap.size, 1, none⟩ = some (.int .i64 H) ∧ w'.cell? ⟨u1.heap.size, 2, none⟩ = some (.int .i64 P) ∧ w'.cell? ⟨u1.heap.size, 3, none⟩ = some (.slice A xs.length c))) (by kernel_rfl) (by exact ⟨cell_of_row _ _ 0 _ _ _ ((HC.out).2.2 ⟨u1.heap.size, 29, #[.int .i64 W, .int .i64 H, .int .i64 P, .slice A xs.length c]⟩ (by simp)), cell_of_row _ _ 1 _ _ _ ((HC.out).2.2 ⟨u1.heap.size, 29, #[.int .i64 W, .int .i64 H, .int .i64 P, .slice A xs.length c]⟩ (by simp)), cell_of_row _ _ 2 _ _ _ ((HC.out).2.2 ⟨u1.heap.size, 29, #[.int .i64 W, .int .i64 H, .int .i64 P, .slice A xs.length c]⟩ (by simp)), cell_of_row _ _ 3 _ _ _ ((HC.out).2.2 ⟨u1.heap.size, 29, #[.int .i64 W, .int .i64 H, .int .i64 P, .slice A xs.length c]⟩ (by simp))⟩) (fun hHeld => ?_)
      refine' wpAnyH_take (i := 0) (oi := _) (v := _) ?hi34 (by kernel_rfl) (by kernel_rfl) (by kernel_rfl) ?hq34 (Or.inl ⟨?hw34, ?hy34⟩) (by assumption) ?rest34
      case hi34 => (simp only [List.getElem?_toArray, List.getElem?_cons_succ, List.getElem?_cons_zero]; rfl)
      case hq34 => exact fun _ _ _ h => h
      case hw34 => rfl
      case hy34 => (intro wq hSw; (try dsimp only at hSw); go_simp; (try with_reducible rfl))
      (try simp only [Act.put, List.setIfInBounds_toArray, List.set_cons_zero, List.set_cons_succ])
      refine' wpAnyH_take (i := 4) (oi := _) (v := _) ?hi35 (by kernel_rfl) (by kernel_rfl) (by kernel_rfl) ?hq35 (Or.inl ⟨?hw35, ?hy35⟩) (by assumption) ?rest35
      case hi35 => (simp only [List.getElem?_toArray, List.getElem?_cons_succ, List.getElem?_cons_zero]; rfl)
      case hq35 => exact fun _ _ _ h => h
      case hw35 => rfl
      case hy35 => (intro wq hSw; (try dsimp only at hSw); go_simp; (try with_reducible rfl))
      (try simp only [Act.put, List.setIfInBounds_toArray, List.set_cons_zero, List.set_cons_succ])
      refine wpAnyH_ready (rs := [1]) (by kernel_rfl) (by simp) ?_
      refine' AllReadyH.cons (o := _) ?hi36 (fun K hK => ?rest36) AllReadyH.nil
      case hi36 => (simp only [List.getElem?_toArray, List.getElem?_cons_succ, List.getElem?_cons_zero]; rfl)
      go_simp
      have HD : Hid (LSt w (u2100.drew.alloc (.cells #[.int .i64 1] 3)) [(A1010, gl), (A93, fl), (A1007, ys), (A1004, ys), (A2, ks), (A, xs)] [⟨u2100.drew.heap.size, 3, #[.int .i64 1]⟩, ⟨gb, 29, #[.int .i64 W, .int .i64 H, .int .i64 P, .slice A93 fl.length c93]⟩, ⟨u1004.heap.size, 29, #[.int .i64 X, .int .i64 Y, .int .i64 Z, .slice A1004 ys.length c1004]⟩, ⟨(u1.heap.size + 1), 32, #[.int .i64 R, .slice A2 ks.length c2, .int .i64 D]⟩, ⟨u1.heap.size, 29, #[.int .i64 W, .int .i64 H, .int .i64 P, .slice A xs.length c]⟩]) := Lib.hid (LSt.box2 HC.out 3 #[.int .i64 1] u2100.drew.heap.size rfl)
      clear HC
      have HC := HD
      clear HD
      refine hK.out _ _ (by (try dsimp only); exact ⟨cell_of_row _ _ 0 _ _ _ ((HC.out).2.2 ⟨u1.heap.size, 29, #[.int .i64 W, .int .i64 H, .int .i64 P, .slice A xs.length c]⟩ (by simp)), cell_of_row _ _ 1 _ _ _ ((HC.out).2.2 ⟨u1.heap.size, 29, #[.int .i64 W, .int .i64 H, .int .i64 P, .slice A xs.length c]⟩ (by simp)), cell_of_row _ _ 2 _ _ _ ((HC.out).2.2 ⟨u1.heap.size, 29, #[.int .i64 W, .int .i64 H, .int .i64 P, .slice A xs.length c]⟩ (by simp)), cell_of_row _ _ 3 _ _ _ ((HC.out).2.2 ⟨u1.heap.size, 29, #[.int .i64 W, .int .i64 H, .int .i64 P, .slice A xs.length c]⟩ (by simp))⟩) (fun hHeld => ?_)
      clear hK K
      (try simp only [Act.put, List.setIfInBounds_toArray, List.set_cons_zero, List.set_cons_succ])
      refine' wpAnyH_take (i := 2) (oi := _) (v := _) ?hi37 (by kernel_rfl) (by kernel_rfl) (by kernel_rfl) ?hq37 (Or.inl ⟨?hw37, ?hy37⟩) (by assumption) ?rest37
      case hi37 => (simp only [List.getElem?_toArray, List.getElem?_cons_succ, List.getElem?_cons_zero]; rfl)
      case hq37 => exact fun _ _ _ h => h
      case hw37 => rfl
      case hy37 => (intro wq hSw; (try dsimp only at hSw); go_simp; (try with_reducible rfl))
      (try simp only [Act.put, List.setIfInBounds_toArray, List.set_cons_zero, List.set_cons_succ])
      refine wpAnyH_ready (rs := [3]) (by kernel_rfl) (by simp) ?_
      refine' AllReadyH.cons (o := _) ?hi38 (fun K hK => ?rest38) AllReadyH.nil
      case hi38 => (simp only [List.getElem?_toArray, List.getElem?_cons_succ, List.getElem?_cons_zero]; rfl)
      go_simp
      go_at_call 11
      refine (CvC.use' HOne A c (some ⟨u2100.drew.heap.size, 0, none⟩) 1 1 _ rfl ((HC.out).rds (A := A) (xs := xs) (by simp)) hxc (rds_bx1 ((HC.out).2.2 ⟨u2100.drew.heap.size, 3, #[.int .i64 1]⟩ (by simp)))).mono ?_
      rintro e u1011 ⟨A1011, c1011, rfl, hc1011, hr1011, hB1011⟩
      have HD := Lib.hid ((HC.out.call hB1011).add hr1011)
      clear hr1011 hB1011 HC
      have HC := HD
      clear HD
      go_wp2_with fail
      refine hK.out _ _ (by (try dsimp only); exact ⟨cell_of_row _ _ 0 _ _ _ ((HC.out).2.2 ⟨u1.heap.size, 29, #[.int .i64 W, .int .i64 H, .int .i64 P, .slice A xs.length c]⟩ (by simp)), cell_of_row _ _ 1 _ _ _ ((HC.out).2.2 ⟨u1.heap.size, 29, #[.int .i64 W, .int .i64 H, .int .i64 P, .slice A xs.length c]⟩ (by simp)), cell_of_row _ _ 2 _ _ _ ((HC.out).2.2 ⟨u1.heap.size, 29, #[.int .i64 W, .int .i64 H, .int .i64 P, .slice A xs.length c]⟩ (by simp)), cell_of_row _ _ 3 _ _ _ ((HC.out).2.2 ⟨u1.heap.size, 29, #[.int .i64 W, .int .i64 H, .int .i64 P, .slice A xs.length c]⟩ (by simp))⟩) (fun hHeld => ?_)
      clear hK K
      (try simp only [Act.put, List.setIfInBounds_toArray, List.set_cons_zero, List.set_cons_succ])
      refine wpAnyH_ready (rs := [5]) (by kernel_rfl) (by simp) ?_
      refine' AllReadyH.cons (o := _) ?hi39 (fun K hK => ?rest39) AllReadyH.nil
      case hi39 => (simp only [List.getElem?_toArray, List.getElem?_cons_succ, List.getElem?_cons_zero]; rfl)
      go_simp
      go_at_call 18
      refine (lEqIm W H P xs A1011 A c1011 c _ ((HC.out).rds (A := A1011) (xs := xs) (by simp)) ((HC.out).rds (A := A) (xs := xs) (by simp)) (by omega)).mono ?_
      rintro e u1012 ⟨rfl, hB1012⟩
      have HD := Lib.hid (HC.out.call hB1012)
      clear hB1012 HC
      have HC := HD
      clear HD
      go_wp2_with fail
      refine hK.out _ _ (by (try dsimp only); exact ⟨cell_of_row _ _ 0 _ _ _ ((HC.out).2.2 ⟨u1.heap.size, 29, #[.int .i64 W, .int .i64 H, .int .i64 P, .slice A xs.length c]⟩ (by simp)), cell_of_row _ _ 1 _ _ _ ((HC.out).2.2 ⟨u1.heap.size, 29, #[.int .i64 W, .int .i64 H, .int .i64 P, .slice A xs.length c]⟩ (by simp)), cell_of_row _ _ 2 _ _ _ ((HC.out).2.2 ⟨u1.heap.size, 29, #[.int .i64 W, .int .i64 H, .int .i64 P, .slice A xs.length c]⟩ (by simp)), cell_of_row _ _ 3 _ _ _ ((HC.out).2.2 ⟨u1.heap.size, 29, #[.int .i64 W, .int .i64 H, .int .i64 P, .slice A xs.length c]⟩ (by simp))⟩) (fun hHeld => ?_)
      clear hK K
      (try simp only [Act.put, List.setIfInBounds_toArray, List.set_cons_zero, List.set_cons_succ])
      refine' wpAnyH_take (i := 6) (oi := _) (v := _) ?hi40 (by kernel_rfl) (by kernel_rfl) (by kernel_rfl) ?hq40 (Or.inl ⟨?hw40, ?hy40⟩) (by assumption) ?rest40
      case hi40 => (simp only [List.getElem?_toArray, List.getElem?_cons_succ, List.getElem?_cons_zero]; rfl)
      case hq40 => exact fun _ _ _ h => h
      case hw40 => rfl
      case hy40 => (intro wq hSw; (try dsimp only at hSw); go_simp; (try with_reducible rfl))
      (try simp only [Act.put, List.setIfInBounds_toArray, List.set_cons_zero, List.set_cons_succ])
      refine' wpAnyH_take (i := 7) (oi := _) (v := _) ?hi41 (by kernel_rfl) (by kernel_rfl) (by kernel_rfl) ?hq41 (Or.inl ⟨?hw41, ?hy41⟩) (by assumption) ?rest41
      case hi41 => (simp only [List.getElem?_toArray, List.getElem?_cons_succ, List.getElem?_cons_zero]; rfl)
      case hq41 => exact fun _ _ _ h => h
      case hw41 => rfl
      case hy41 => (intro wq hSw; (try dsimp only at hSw); go_simp; (try with_reducible rfl))
      (try simp only [Act.put, List.setIfInBounds_toArray, List.set_cons_zero, List.set_cons_succ])
      refine' wpAnyH_take (i := 8) (oi := _) (v := _) ?hi42 (by kernel_rfl) (by kernel_rfl) (by kernel_rfl) ?hq42 (Or.inl ⟨?hw42, ?hy42⟩) (by assumption) ?rest42
      case hi42 => (simp only [List.getElem?_toArray, List.getElem?_cons_succ, List.getElem?_cons_zero]; rfl)
      case hq42 => exact fun _ _ _ h => h
      case hw42 => rfl
      case hy42 => (intro wq hSw; (try dsimp only at hSw); go_simp; (try with_reducible rfl))
      (try simp only [Act.put, List.setIfInBounds_toArray, List.set_cons_zero, List.set_cons_succ])
      refine' wpAnyH_take (i := 9) (oi := _) (v := _) ?hi43 (by kernel_rfl) (by kernel_rfl) (by kernel_rfl) ?hq43 (Or.inl ⟨?hw43, ?hy43⟩) (by assumption) ?rest43
      case hi43 => (simp only [List.getElem?_toArray, List.getElem?_cons_succ, List.getElem?_cons_zero]; rfl)
      case hq43 => exact fun _ _ _ h => h
      case hw43 => rfl
      case hy43 => (intro wq hSw; (try dsimp only at hSw); go_simp; (try with_reducible rfl))
      (try simp only [Act.put, List.setIfInBounds_toArray, List.set_cons_zero, List.set_cons_succ])
      refine' wpAnyH_take (i := 10) (oi := _) (v := _) ?hi44 (by kernel_rfl) (by kernel_rfl) (by kernel_rfl) ?hq44 (Or.inl ⟨?hw44, ?hy44⟩) (by assumption) ?rest44
      case hi44 => (simp only [List.getElem?_toArray, List.getElem?_cons_succ, List.getElem?_cons_zero]; rfl)
      case hq44 => exact fun _ _ _ h => h
      case hw44 => rfl
      case hy44 => (intro wq hSw; (try dsimp only at hSw); go_simp; (try with_reducible rfl))
      (try simp only [Act.put, List.setIfInBounds_toArray, List.set_cons_zero, List.set_cons_succ])
      refine' wpAnyH_take (i := 11) (oi := _) (v := _) ?hi45 (by kernel_rfl) (by kernel_rfl) (by kernel_rfl) ?hq45 (Or.inl ⟨?hw45, ?hy45⟩) (by assumption) ?rest45
      case hi45 => (simp only [List.getElem?_toArray, List.getElem?_cons_succ, List.getElem?_cons_zero]; rfl)
      case hq45 => exact fun _ _ _ h => h
      case hw45 => rfl
      case hy45 => (intro wq hSw; (try dsimp only at hSw); go_simp; (try with_reducible rfl))
      (try simp only [Act.put, List.setIfInBounds_toArray, List.set_cons_zero, List.set_cons_succ])
      refine' wpAnyH_take (i := 12) (oi := _) (v := _) ?hi46 (by kernel_rfl) (by kernel_rfl) (by kernel_rfl) ?hq46 (Or.inl ⟨?hw46, ?hy46⟩) (by assumption) ?rest46
      case hi46 => (simp only [List.getElem?_toArray, List.getElem?_cons_succ, List.getElem?_cons_zero]; rfl)
      case hq46 => exact fun _ _ _ h => h
      case hw46 => rfl
      case hy46 => (intro wq hSw; (try dsimp only at hSw); go_simp; (try with_reducible rfl))
      (try simp only [Act.put, List.setIfInBounds_toArray, List.set_cons_zero, List.set_cons_succ])
      refine' wpAnyH_take (i := 13) (oi := _) (v := _) ?hi47 (by kernel_rfl) (by kernel_rfl) (by kernel_rfl) ?hq47 (Or.inl ⟨?hw47, ?hy47⟩) (by assumption) ?rest47
      case hi47 => (simp only [List.getElem?_toArray, List.getElem?_cons_succ, List.getElem?_cons_zero]; rfl)
      case hq47 => exact fun _ _ _ h => h
      case hw47 => rfl
      case hy47 => (intro wq hSw; (try dsimp only at hSw); go_simp; (try with_reducible rfl))
      (try simp only [Act.put, List.setIfInBounds_toArray, List.set_cons_zero, List.set_cons_succ])
      refine' wpAnyH_take (i := 14) (oi := _) (v := _) ?hi48 (by kernel_rfl) (by kernel_rfl) (by kernel_rfl) ?hq48 (Or.inl ⟨?hw48, ?hy48⟩) (by assumption) ?rest48
      case hi48 => (simp only [List.getElem?_toArray, List.getElem?_cons_succ, List.getElem?_cons_zero]; rfl)
      case hq48 => exact fun _ _ _ h => h
      case hw48 => rfl
      case hy48 => (intro wq hSw; (try dsimp only at hSw); go_simp; (try with_reducible rfl))
      (try simp only [Act.put, List.setIfInBounds_toArray, List.set_cons_zero, List.set_cons_succ])
      refine wpAnyH_done (by kernel_rfl) ?_ _
      have S1013 := HC.out
      clear HC
      go_wp2
      go_ret
      exact ⟨rfl, S1013.1⟩

/-! ### From the walk to the statement. -/
theorem own : ownKnob Try.prog.godebug = none := by kernel_rfl
theorem laidOut : laidOutB Try.prog = true := by kernel_rfl
set_option maxRecDepth 100000 in
theorem lifted (os : Os) (started : os.Started) (H : Type) (enc : TypeId × Value → H) :
    ReturnsInHanded {} Try.checked os 4 .any (Rows.fnConvolveImageSpec.pre6 enc Try.prog Try.f4 Rows.fnConvolveImageRow.domain false) (Rows.fnConvolveImageSpec.post enc Try.prog Try.f4 false true false false) := by
  refine returnsInHanded_of_change (C := Try.checked) own started (by kernel_rfl) Try.func4
    (ChangeSpec.witness6 (enc := enc) (C := Try.checked) false ⟨#[], #[.slice none 0 0], []⟩ 8 (by kernel_rfl) (by kernel_rfl) (by kernel_rfl) (by kernel_rfl)) ?_
  intro W base args ds gs before hval0 hW hcnd _
  have hval : ∀ (j : Nat) t v, Try.f4.params[j]? = some t → args[j]? = some v → Value.okWide Try.prog W .any base t v := hval0
  have hW' := hW
  obtain ⟨p, q, hA0, hV, rfl, hfz, hnd⟩ := hW
  have hA : DataW.TrodAll enc Try.prog W 0 (fun _ => true) true Try.f4.params.toList args.toList ds p := hA0
  rw [Try.params4] at hA hval
  obtain ⟨v0, vs0, d0, ds0, p0, q0, hargs, rfl, rfl, h0, r0⟩ := trodAll_cons hA
  obtain ⟨rfl, rfl, rfl⟩ := trodAll_nil r0
  obtain rfl : args = #[v0] := by cases args; simp_all
  obtain ⟨rfl, rfl⟩ := trodVars_none hV
  obtain ⟨a0, len0, cap0, rfl⟩ := okWide_slice Try.underlying39 (hval 0 39 v0 rfl rfl)
  have k0 := h0
  have lt0 : ∀ x ∈ p0, x.block < W.heap.size := by obtain ⟨m, hm⟩ := k0; exact DataW.trod_lt m _ _ _ hm
  obtain ⟨z0, hl0, hc0, w0⟩ : ∃ zs : List Int, len0 = zs.length ∧ zs.length ≤ cap0 ∧ Rdw .u8 W W.heap.size a0 zs := by
    obtain ⟨fuel, hf⟩ := h0
    rcases open_ints Try.underlying39 Try.underlying5 (by kernel_rfl) hf with ⟨hcs, _⟩ | ⟨x, l, c, zs, hcs, _, hl, hm, hz, _, hcell, hwz⟩
    · simp [Value.cells] at hcs
      obtain ⟨rfl, rfl, rfl⟩ := hcs
      exact ⟨[], rfl, Nat.le_refl _, Rdw.nil⟩
    · simp [Value.cells] at hcs
      obtain ⟨rfl, rfl, rfl⟩ := hcs
      exact ⟨zs.take len0, by simp at hz ⊢; omega, by simp at hz ⊢; omega, Rdw.of_row hl hm (by simpa using hz) hcell hwz⟩
  subst hl0
  clear hA0 hval0
  refine (walk W a0 cap0 z0 hc0 w0).mono fun e W' ⟨he, bel⟩ => ?_
  subst he
  exact ⟨_, rfl, _, _, _, [], _, [], hW', trodAll_mk1 (shut_bool Try.underlying4 _), (trodAll_cons_mk (Below.trod laidOut (by kernel_rfl) (of_decide_eq_true (by kernel_rfl)) k0 bel lt0) trodAll_mk0), rfl, bel.frame _, fun h => by cases h⟩

theorem over : Rows.fnConvolveImageRow.holds Try.pinned (OpenSpec.ofChange Rows.fnConvolveImageSpec) :=
  OpenClaim.holds_of_wide 4 Try.f4 rfl rfl rfl rfl rfl rfl rfl ⟨rfl, rfl, rfl, rfl, rfl⟩ rfl rfl rfl rfl rfl (by kernel_rfl) Try.func4 (by kernel_rfl)
    (of_decide_eq_true (by kernel_rfl)) (by unfold Func.isWrapper; first | (rw [if_pos (by decide +kernel)]; kernel_rfl) | (rw [if_neg (by decide +kernel)]; exact ⟨rfl, rfl⟩))
    (fun os started H enc _ => lifted os started H enc)

theorem proved : Rows.FnConvolveImageSaid := over
end Go.Proofs.Ytjgcondkoaegnaa.fnConvolveImage
