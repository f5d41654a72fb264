/- Whatever the code: ScaleArea of the drawn image answers what the model answers, its numbers lie between the least and the largest of their plane, and doubled images come back. -/
import Derived.Test.YtmkfgcmabmocfaaRows
import Derived.WalkKit
import Derived.ProofKit
import Derived.OpenShut
import Derived.ShutString
import Derived.ChangeOld
import Derived.Below
import Derived.Test.YtmkfgcmabmocfaaImgAr
import Derived.Test.YtmkfgcmabmocfaaDrawSca
import Derived.Deep.QuietTactic
import Derived.BigQuiet
namespace Go.Proofs.Ytmkfgcmabmocfaa.fnScaleArea
open Go.ChangeShapes Go.WideShapes Go.ChangeAt Go.RowKit
open Go.ChangeMaps (open_string shut_string)
set_option linter.unusedVariables false

set_option linter.unusedSimpArgs false
set_option maxRecDepth 20000
set_option maxHeartbeats 16000000 in
theorem walk (w : World) (a0 : Option Addr) (cap0 : Nat) (z0 : List Int) (hc0 : z0.length ≤ cap0) (w0 : Rdw .u8 w w.heap.size a0 z0) :
    Calls Try.prog 11 #[.slice a0 z0.length cap0] w fun e w' => e = .returned (.bool true) ∧ Below w.heap.size w w' := by
  have hm := w0.2.1
  unfold maxLen at hm
  by_cases hlen : 1048576 < z0.length
  · go_enter Try.func11, Try.ntmps11
    go_wp2
    go_ret
    exact ⟨rfl, Below.refl _ _⟩
  · go_enter Try.func11, Try.ntmps11
    go_wp2_with fail
    refine (dAre_any a0 cap0 z0 w hc0 w0).mono ?_
    rintro e u1 ⟨W, H, P, A, c, xs, a, b, rfl, hx, hxc, hr, hbel⟩
    have S1 : LSt w u1 [(A, xs)] [] := (LSt.start hbel).add hr
    obtain ⟨X, Y, Z, ys, hys, HI, HQ, hor⟩ := arl_law W H P a b xs hx
    clear w0 hr hbel hm
    have S1001 : LSt w (u1.alloc (.cells #[.int .i64 W, .int .i64 H, .int .i64 P, .slice A xs.length c] 35)) [(A, xs)] [⟨u1.heap.size, 35, #[.int .i64 W, .int .i64 H, .int .i64 P, .slice A xs.length c]⟩] := LSt.box2 S1 35 #[.int .i64 W, .int .i64 H, .int .i64 P, .slice A xs.length c] u1.heap.size (by simp)
    go_wp2_with fail
    clear S1
    generalize u1.alloc (.cells #[.int .i64 W, .int .i64 H, .int .i64 P, .slice A xs.length c] 35) = u1002 at *
    refine (ScC.use HI A c _ ((S1001).rds (A := A) (xs := xs) (by simp)) hxc).mono ?_
    rintro e u1003 ⟨A1003, c1003, rfl, hc1003, hr1003, hB1003⟩
    have S1003 := (S1001.call hB1003).add hr1003
    clear hr1003 hB1003 S1001
    rcases hor with rfl | ⟨hX0, wn, hn, pn, K, rfl, rfl, rfl, ⟨hw1, hw2⟩, ⟨hh1, hh2⟩, ⟨hp1, hp2⟩, hxl, hyl, hby, HBt, hor⟩
    · skip
      have Fmx := S1003.2.2 ⟨u1.heap.size, 35, #[.int .i64 W, .int .i64 H, .int .i64 P, .slice A xs.length c]⟩ (by simp)
      have ml : u1.heap.size < u1003.heap.size := Fmx.lt
      have m0 : u1003.cell? ⟨u1.heap.size, 0, none⟩ = some (.int .i64 W) := cell_of_row _ _ 0 _ _ _ Fmx
      have m1 : u1003.cell? ⟨u1.heap.size, 1, none⟩ = some (.int .i64 H) := cell_of_row _ _ 1 _ _ _ Fmx
      have m2 : u1003.cell? ⟨u1.heap.size, 2, none⟩ = some (.int .i64 P) := cell_of_row _ _ 2 _ _ _ Fmx
      have m3 : u1003.cell? ⟨u1.heap.size, 3, none⟩ = some (.slice A xs.length c) := cell_of_row _ _ 3 _ _ _ Fmx
      clear Fmx
      have S1004 : LSt w (u1003.alloc (.cells #[.int .i64 0, .int .i64 Y, .int .i64 Z, .slice A1003 ys.length c1003] 35)) [(A1003, ys), (A, xs)] [⟨u1003.heap.size, 35, #[.int .i64 0, .int .i64 Y, .int .i64 Z, .slice A1003 ys.length c1003]⟩, ⟨u1.heap.size, 35, #[.int .i64 W, .int .i64 H, .int .i64 P, .slice A xs.length c]⟩] := LSt.box2 S1003 35 #[.int .i64 0, .int .i64 Y, .int .i64 Z, .slice A1003 ys.length c1003] u1003.heap.size (by simp)
      go_upto_region 5 with fail
      clear ml m0 m1 m2 m3
      clear S1003
      generalize u1003.alloc (.cells #[.int .i64 0, .int .i64 Y, .int .i64 Z, .slice A1003 ys.length c1003] 35) = u1005 at *
      have HC := Lib.hid S1004.drew
      clear S1004
      refine wp_region_held_drew (S := (fun w' => w'.cell? ⟨u1003.heap.size, 0, none⟩ = some (.int .i64 0) ∧ w'.cell? ⟨u1003.heap.size, 1, none⟩ = some (.int .i64 Y) ∧ w'.cell? ⟨u1003.heap.size, 2, none⟩ = some (.int .i64 Z) ∧ w'.cell? ⟨u1003.heap.size, 3, none⟩ = some (.slice A1003 ys.length c1003) ∧ w'.cell? ⟨u1.heap.size, 0, none⟩ = some (.int .i64 W) ∧ w'.cell? ⟨u1.heap.size, 1, none⟩ = some (.int .i64 H) ∧ w'.cell? ⟨u1.heap.size, 2, none⟩ = some (.int .i64 P) ∧ w'.cell? ⟨u1.heap.size, 3, none⟩ = some (.slice A xs.length c))) (by kernel_rfl) (by exact ⟨cell_of_row _ _ 0 _ _ _ ((HC.out).2.2 ⟨u1003.heap.size, 35, #[.int .i64 0, .int .i64 Y, .int .i64 Z, .slice A1003 ys.length c1003]⟩ (by simp)), cell_of_row _ _ 1 _ _ _ ((HC.out).2.2 ⟨u1003.heap.size, 35, #[.int .i64 0, .int .i64 Y, .int .i64 Z, .slice A1003 ys.length c1003]⟩ (by simp)), cell_of_row _ _ 2 _ _ _ ((HC.out).2.2 ⟨u1003.heap.size, 35, #[.int .i64 0, .int .i64 Y, .int .i64 Z, .slice A1003 ys.length c1003]⟩ (by simp)), cell_of_row _ _ 3 _ _ _ ((HC.out).2.2 ⟨u1003.heap.size, 35, #[.int .i64 0, .int .i64 Y, .int .i64 Z, .slice A1003 ys.length c1003]⟩ (by simp)), cell_of_row _ _ 0 _ _ _ ((HC.out).2.2 ⟨u1.heap.size, 35, #[.int .i64 W, .int .i64 H, .int .i64 P, .slice A xs.length c]⟩ (by simp)), cell_of_row _ _ 1 _ _ _ ((HC.out).2.2 ⟨u1.heap.size, 35, #[.int .i64 W, .int .i64 H, .int .i64 P, .slice A xs.length c]⟩ (by simp)), cell_of_row _ _ 2 _ _ _ ((HC.out).2.2 ⟨u1.heap.size, 35, #[.int .i64 W, .int .i64 H, .int .i64 P, .slice A xs.length c]⟩ (by simp)), cell_of_row _ _ 3 _ _ _ ((HC.out).2.2 ⟨u1.heap.size, 35, #[.int .i64 W, .int .i64 H, .int .i64 P, .slice A xs.length c]⟩ (by simp))⟩) (fun hHeld => ?_)
      refine' wpAnyH_take (i := 0) (oi := _) (v := _) ?hi1 (by kernel_rfl) (by kernel_rfl) (by kernel_rfl) ?hq1 (Or.inl ⟨?hw1, ?hy1⟩) (by assumption) ?rest1
      case hi1 => (simp only [List.getElem?_toArray, List.getElem?_cons_succ, List.getElem?_cons_zero]; rfl)
      case hq1 => exact fun _ _ _ h => h
      case hw1 => rfl
      case hy1 => (intro wq hSw; (try dsimp only at hSw); go_simp; (try with_reducible rfl))
      (try simp only [Act.put, List.setIfInBounds_toArray, List.set_cons_zero, List.set_cons_succ])
      refine' wpAnyH_take (i := 1) (oi := _) (v := _) ?hi2 (by kernel_rfl) (by kernel_rfl) (by kernel_rfl) ?hq2 (Or.inl ⟨?hw2, ?hy2⟩) (by assumption) ?rest2
      case hi2 => (simp only [List.getElem?_toArray, List.getElem?_cons_succ, List.getElem?_cons_zero]; rfl)
      case hq2 => exact fun _ _ _ h => h
      case hw2 => rfl
      case hy2 => (intro wq hSw; (try dsimp only at hSw); go_simp; (try with_reducible rfl))
      (try simp only [Act.put, List.setIfInBounds_toArray, List.set_cons_zero, List.set_cons_succ])
      refine' wpAnyH_take (i := 2) (oi := _) (v := _) ?hi3 (by kernel_rfl) (by kernel_rfl) (by kernel_rfl) ?hq3 (Or.inl ⟨?hw3, ?hy3⟩) (by assumption) ?rest3
      case hi3 => (simp only [List.getElem?_toArray, List.getElem?_cons_succ, List.getElem?_cons_zero]; rfl)
      case hq3 => exact fun _ _ _ h => h
      case hw3 => rfl
      case hy3 => (intro wq hSw; (try dsimp only at hSw); go_simp; (try with_reducible rfl))
      (try simp only [Act.put, List.setIfInBounds_toArray, List.set_cons_zero, List.set_cons_succ])
      refine' wpAnyH_take (i := 3) (oi := _) (v := _) ?hi4 (by kernel_rfl) (by kernel_rfl) (by kernel_rfl) ?hq4 (Or.inl ⟨?hw4, ?hy4⟩) (by assumption) ?rest4
      case hi4 => (simp only [List.getElem?_toArray, List.getElem?_cons_succ, List.getElem?_cons_zero]; rfl)
      case hq4 => exact fun _ _ _ h => h
      case hw4 => rfl
      case hy4 => (intro wq hSw; (try dsimp only at hSw); go_simp; (try with_reducible rfl))
      (try simp only [Act.put, List.setIfInBounds_toArray, List.set_cons_zero, List.set_cons_succ])
      refine wpAnyH_ready (rs := [4]) (by kernel_rfl) (by simp) ?_
      refine' AllReadyH.cons (o := _) ?hi5 (fun K hK => ?rest5) AllReadyH.nil
      case hi5 => (simp only [List.getElem?_toArray, List.getElem?_cons_succ, List.getElem?_cons_zero]; rfl)
      go_simp
      go_at_call 38
      refine (ScC.use HQ A c _ ((HC.out).rds (A := A) (xs := xs) (by simp)) hxc).mono ?_
      rintro e u1006 ⟨A1006, c1006, rfl, hc1006, hr1006, hB1006⟩
      have HD := Lib.hid ((HC.out.call hB1006).add hr1006)
      clear hr1006 hB1006 HC
      have HC := HD
      clear HD
      go_wp2_with fail
      refine hK.out _ _ (by (try dsimp only); exact ⟨cell_of_row _ _ 0 _ _ _ ((HC.out).2.2 ⟨u1003.heap.size, 35, #[.int .i64 0, .int .i64 Y, .int .i64 Z, .slice A1003 ys.length c1003]⟩ (by simp)), cell_of_row _ _ 1 _ _ _ ((HC.out).2.2 ⟨u1003.heap.size, 35, #[.int .i64 0, .int .i64 Y, .int .i64 Z, .slice A1003 ys.length c1003]⟩ (by simp)), cell_of_row _ _ 2 _ _ _ ((HC.out).2.2 ⟨u1003.heap.size, 35, #[.int .i64 0, .int .i64 Y, .int .i64 Z, .slice A1003 ys.length c1003]⟩ (by simp)), cell_of_row _ _ 3 _ _ _ ((HC.out).2.2 ⟨u1003.heap.size, 35, #[.int .i64 0, .int .i64 Y, .int .i64 Z, .slice A1003 ys.length c1003]⟩ (by simp)), cell_of_row _ _ 0 _ _ _ ((HC.out).2.2 ⟨u1.heap.size, 35, #[.int .i64 W, .int .i64 H, .int .i64 P, .slice A xs.length c]⟩ (by simp)), cell_of_row _ _ 1 _ _ _ ((HC.out).2.2 ⟨u1.heap.size, 35, #[.int .i64 W, .int .i64 H, .int .i64 P, .slice A xs.length c]⟩ (by simp)), cell_of_row _ _ 2 _ _ _ ((HC.out).2.2 ⟨u1.heap.size, 35, #[.int .i64 W, .int .i64 H, .int .i64 P, .slice A xs.length c]⟩ (by simp)), cell_of_row _ _ 3 _ _ _ ((HC.out).2.2 ⟨u1.heap.size, 35, #[.int .i64 W, .int .i64 H, .int .i64 P, .slice A xs.length c]⟩ (by simp))⟩) (fun hHeld => ?_)
      clear hK K
      (try simp only [Act.put, List.setIfInBounds_toArray, List.set_cons_zero, List.set_cons_succ])
      refine wpAnyH_ready (rs := [5]) (by kernel_rfl) (by simp) ?_
      refine' AllReadyH.cons (o := _) ?hi6 (fun K hK => ?rest6) AllReadyH.nil
      case hi6 => (simp only [List.getElem?_toArray, List.getElem?_cons_succ, List.getElem?_cons_zero]; rfl)
      go_simp
      go_at_call 34
      refine (lEqIm 0 Y Z ys A1003 A1006 c1003 c1006 _ ((HC.out).rds (A := A1003) (xs := ys) (by simp)) ((HC.out).rds (A := A1006) (xs := ys) (by simp)) (by omega)).mono ?_
      rintro e u1007 ⟨rfl, hB1007⟩
      have HD := Lib.hid (HC.out.call hB1007)
      clear hB1007 HC
      have HC := HD
      clear HD
      go_wp2_with fail
      refine hK.out _ _ (by (try dsimp only); exact ⟨cell_of_row _ _ 0 _ _ _ ((HC.out).2.2 ⟨u1003.heap.size, 35, #[.int .i64 0, .int .i64 Y, .int .i64 Z, .slice A1003 ys.length c1003]⟩ (by simp)), cell_of_row _ _ 1 _ _ _ ((HC.out).2.2 ⟨u1003.heap.size, 35, #[.int .i64 0, .int .i64 Y, .int .i64 Z, .slice A1003 ys.length c1003]⟩ (by simp)), cell_of_row _ _ 2 _ _ _ ((HC.out).2.2 ⟨u1003.heap.size, 35, #[.int .i64 0, .int .i64 Y, .int .i64 Z, .slice A1003 ys.length c1003]⟩ (by simp)), cell_of_row _ _ 3 _ _ _ ((HC.out).2.2 ⟨u1003.heap.size, 35, #[.int .i64 0, .int .i64 Y, .int .i64 Z, .slice A1003 ys.length c1003]⟩ (by simp)), cell_of_row _ _ 0 _ _ _ ((HC.out).2.2 ⟨u1.heap.size, 35, #[.int .i64 W, .int .i64 H, .int .i64 P, .slice A xs.length c]⟩ (by simp)), cell_of_row _ _ 1 _ _ _ ((HC.out).2.2 ⟨u1.heap.size, 35, #[.int .i64 W, .int .i64 H, .int .i64 P, .slice A xs.length c]⟩ (by simp)), cell_of_row _ _ 2 _ _ _ ((HC.out).2.2 ⟨u1.heap.size, 35, #[.int .i64 W, .int .i64 H, .int .i64 P, .slice A xs.length c]⟩ (by simp)), cell_of_row _ _ 3 _ _ _ ((HC.out).2.2 ⟨u1.heap.size, 35, #[.int .i64 W, .int .i64 H, .int .i64 P, .slice A xs.length c]⟩ (by simp))⟩) (fun hHeld => ?_)
      clear hK K
      (try simp only [Act.put, List.setIfInBounds_toArray, List.set_cons_zero, List.set_cons_succ])
      refine' wpAnyH_take (i := 6) (oi := _) (v := _) ?hi7 (by kernel_rfl) (by kernel_rfl) (by kernel_rfl) ?hq7 (Or.inl ⟨?hw7, ?hy7⟩) (by assumption) ?rest7
      case hi7 => (simp only [List.getElem?_toArray, List.getElem?_cons_succ, List.getElem?_cons_zero]; rfl)
      case hq7 => exact fun _ _ _ h => h
      case hw7 => rfl
      case hy7 => (intro wq hSw; (try dsimp only at hSw); go_simp; (try with_reducible rfl))
      (try simp only [Act.put, List.setIfInBounds_toArray, List.set_cons_zero, List.set_cons_succ])
      refine' wpAnyH_take (i := 7) (oi := _) (v := _) ?hi8 (by kernel_rfl) (by kernel_rfl) (by kernel_rfl) ?hq8 (Or.inl ⟨?hw8, ?hy8⟩) (by assumption) ?rest8
      case hi8 => (simp only [List.getElem?_toArray, List.getElem?_cons_succ, List.getElem?_cons_zero]; rfl)
      case hq8 => exact fun _ _ _ h => h
      case hw8 => rfl
      case hy8 => (intro wq hSw; (try dsimp only at hSw); go_simp; (try with_reducible rfl))
      (try simp only [Act.put, List.setIfInBounds_toArray, List.set_cons_zero, List.set_cons_succ])
      refine' wpAnyH_take (i := 8) (oi := _) (v := _) ?hi9 (by kernel_rfl) (by kernel_rfl) (by kernel_rfl) ?hq9 (Or.inl ⟨?hw9, ?hy9⟩) (by assumption) ?rest9
      case hi9 => (simp only [List.getElem?_toArray, List.getElem?_cons_succ, List.getElem?_cons_zero]; rfl)
      case hq9 => exact fun _ _ _ h => h
      case hw9 => rfl
      case hy9 => (intro wq hSw; (try dsimp only at hSw); go_simp; (try with_reducible rfl))
      (try simp only [Act.put, List.setIfInBounds_toArray, List.set_cons_zero, List.set_cons_succ])
      refine' wpAnyH_take (i := 9) (oi := _) (v := _) ?hi10 (by kernel_rfl) (by kernel_rfl) (by kernel_rfl) ?hq10 (Or.inl ⟨?hw10, ?hy10⟩) (by assumption) ?rest10
      case hi10 => (simp only [List.getElem?_toArray, List.getElem?_cons_succ, List.getElem?_cons_zero]; rfl)
      case hq10 => exact fun _ _ _ h => h
      case hw10 => rfl
      case hy10 => (intro wq hSw; (try dsimp only at hSw); go_simp; (try with_reducible rfl))
      (try simp only [Act.put, List.setIfInBounds_toArray, List.set_cons_zero, List.set_cons_succ])
      refine' wpAnyH_take (i := 10) (oi := _) (v := _) ?hi11 (by kernel_rfl) (by kernel_rfl) (by kernel_rfl) ?hq11 (Or.inl ⟨?hw11, ?hy11⟩) (by assumption) ?rest11
      case hi11 => (simp only [List.getElem?_toArray, List.getElem?_cons_succ, List.getElem?_cons_zero]; rfl)
      case hq11 => exact fun _ _ _ h => h
      case hw11 => rfl
      case hy11 => (intro wq hSw; (try dsimp only at hSw); go_simp; (try with_reducible rfl))
      (try simp only [Act.put, List.setIfInBounds_toArray, List.set_cons_zero, List.set_cons_succ])
      refine' wpAnyH_take (i := 11) (oi := _) (v := _) ?hi12 (by kernel_rfl) (by kernel_rfl) (by kernel_rfl) ?hq12 (Or.inl ⟨?hw12, ?hy12⟩) (by assumption) ?rest12
      case hi12 => (simp only [List.getElem?_toArray, List.getElem?_cons_succ, List.getElem?_cons_zero]; rfl)
      case hq12 => exact fun _ _ _ h => h
      case hw12 => rfl
      case hy12 => (intro wq hSw; (try dsimp only at hSw); go_simp; (try with_reducible rfl))
      (try simp only [Act.put, List.setIfInBounds_toArray, List.set_cons_zero, List.set_cons_succ])
      refine wpAnyH_done (by kernel_rfl) ?_ _
      have S1008 := HC.out
      clear HC
      go_upto_region 6 with fail
      have HC := Lib.hid S1008.drew
      clear S1008
      refine wp_region_held_drew (S := (fun w' => w'.cell? ⟨u1003.heap.size, 0, none⟩ = some (.int .i64 0) ∧ w'.cell? ⟨u1003.heap.size, 1, none⟩ = some (.int .i64 Y) ∧ w'.cell? ⟨u1003.heap.size, 2, none⟩ = some (.int .i64 Z) ∧ w'.cell? ⟨u1003.heap.size, 3, none⟩ = some (.slice A1003 ys.length c1003) ∧ w'.cell? ⟨u1.heap.size, 0, none⟩ = some (.int .i64 W) ∧ w'.cell? ⟨u1.heap.size, 1, none⟩ = some (.int .i64 H) ∧ w'.cell? ⟨u1.heap.size, 2, none⟩ = some (.int .i64 P) ∧ w'.cell? ⟨u1.heap.size, 3, none⟩ = some (.slice A xs.length c))) (by kernel_rfl) (by exact ⟨cell_of_row _ _ 0 _ _ _ ((HC.out).2.2 ⟨u1003.heap.size, 35, #[.int .i64 0, .int .i64 Y, .int .i64 Z, .slice A1003 ys.length c1003]⟩ (by simp)), cell_of_row _ _ 1 _ _ _ ((HC.out).2.2 ⟨u1003.heap.size, 35, #[.int .i64 0, .int .i64 Y, .int .i64 Z, .slice A1003 ys.length c1003]⟩ (by simp)), cell_of_row _ _ 2 _ _ _ ((HC.out).2.2 ⟨u1003.heap.size, 35, #[.int .i64 0, .int .i64 Y, .int .i64 Z, .slice A1003 ys.length c1003]⟩ (by simp)), cell_of_row _ _ 3 _ _ _ ((HC.out).2.2 ⟨u1003.heap.size, 35, #[.int .i64 0, .int .i64 Y, .int .i64 Z, .slice A1003 ys.length c1003]⟩ (by simp)), cell_of_row _ _ 0 _ _ _ ((HC.out).2.2 ⟨u1.heap.size, 35, #[.int .i64 W, .int .i64 H, .int .i64 P, .slice A xs.length c]⟩ (by simp)), cell_of_row _ _ 1 _ _ _ ((HC.out).2.2 ⟨u1.heap.size, 35, #[.int .i64 W, .int .i64 H, .int .i64 P, .slice A xs.length c]⟩ (by simp)), cell_of_row _ _ 2 _ _ _ ((HC.out).2.2 ⟨u1.heap.size, 35, #[.int .i64 W, .int .i64 H, .int .i64 P, .slice A xs.length c]⟩ (by simp)), cell_of_row _ _ 3 _ _ _ ((HC.out).2.2 ⟨u1.heap.size, 35, #[.int .i64 W, .int .i64 H, .int .i64 P, .slice A xs.length c]⟩ (by simp))⟩) (fun hHeld => ?_)
      refine' wpAnyH_take (i := 0) (oi := _) (v := _) ?hi13 (by kernel_rfl) (by kernel_rfl) (by kernel_rfl) ?hq13 (Or.inl ⟨?hw13, ?hy13⟩) (by assumption) ?rest13
      case hi13 => (simp only [List.getElem?_toArray, List.getElem?_cons_succ, List.getElem?_cons_zero]; rfl)
      case hq13 => exact fun _ _ _ h => h
      case hw13 => rfl
      case hy13 => (intro wq hSw; (try dsimp only at hSw); go_simp; (try with_reducible rfl))
      (try simp only [Act.put, List.setIfInBounds_toArray, List.set_cons_zero, List.set_cons_succ])
      refine' wpAnyH_take (i := 1) (oi := _) (v := _) ?hi14 (by kernel_rfl) (by kernel_rfl) (by kernel_rfl) ?hq14 (Or.inl ⟨?hw14, ?hy14⟩) (by assumption) ?rest14
      case hi14 => (simp only [List.getElem?_toArray, List.getElem?_cons_succ, List.getElem?_cons_zero]; rfl)
      case hq14 => exact fun _ _ _ h => h
      case hw14 => rfl
      case hy14 => (intro wq hSw; (try dsimp only at hSw); go_simp; (try with_reducible rfl))
      (try simp only [Act.put, List.setIfInBounds_toArray, List.set_cons_zero, List.set_cons_succ])
      refine' wpAnyH_take (i := 2) (oi := _) (v := _) ?hi15 (by kernel_rfl) (by kernel_rfl) (by kernel_rfl) ?hq15 (Or.inl ⟨?hw15, ?hy15⟩) (by assumption) ?rest15
      case hi15 => (simp only [List.getElem?_toArray, List.getElem?_cons_succ, List.getElem?_cons_zero]; rfl)
      case hq15 => exact fun _ _ _ h => h
      case hw15 => rfl
      case hy15 => (intro wq hSw; (try dsimp only at hSw); go_simp; (try with_reducible rfl))
      (try simp only [Act.put, List.setIfInBounds_toArray, List.set_cons_zero, List.set_cons_succ])
      refine' wpAnyH_take (i := 3) (oi := _) (v := _) ?hi16 (by kernel_rfl) (by kernel_rfl) (by kernel_rfl) ?hq16 (Or.inl ⟨?hw16, ?hy16⟩) (by assumption) ?rest16
      case hi16 => (simp only [List.getElem?_toArray, List.getElem?_cons_succ, List.getElem?_cons_zero]; rfl)
      case hq16 => exact fun _ _ _ h => h
      case hw16 => rfl
      case hy16 => (intro wq hSw; (try dsimp only at hSw); go_simp; (try with_reducible rfl))
      (try simp only [Act.put, List.setIfInBounds_toArray, List.set_cons_zero, List.set_cons_succ])
      refine wpAnyH_ready (rs := [4]) (by kernel_rfl) (by simp) ?_
      refine' AllReadyH.cons (o := _) ?hi17 (fun K hK => ?rest17) AllReadyH.nil
      case hi17 => (simp only [List.getElem?_toArray, List.getElem?_cons_succ, List.getElem?_cons_zero]; rfl)
      go_simp
      go_at_call 38
      refine (ScC.use HQ A c _ ((HC.out).rds (A := A) (xs := xs) (by simp)) hxc).mono ?_
      rintro e u1009 ⟨A1009, c1009, rfl, hc1009, hr1009, hB1009⟩
      have HD := Lib.hid ((HC.out.call hB1009).add hr1009)
      clear hr1009 hB1009 HC
      have HC := HD
      clear HD
      go_wp2_with fail
      refine hK.out _ _ (by (try dsimp only); exact ⟨cell_of_row _ _ 0 _ _ _ ((HC.out).2.2 ⟨u1003.heap.size, 35, #[.int .i64 0, .int .i64 Y, .int .i64 Z, .slice A1003 ys.length c1003]⟩ (by simp)), cell_of_row _ _ 1 _ _ _ ((HC.out).2.2 ⟨u1003.heap.size, 35, #[.int .i64 0, .int .i64 Y, .int .i64 Z, .slice A1003 ys.length c1003]⟩ (by simp)), cell_of_row _ _ 2 _ _ _ ((HC.out).2.2 ⟨u1003.heap.size, 35, #[.int .i64 0, .int .i64 Y, .int .i64 Z, .slice A1003 ys.length c1003]⟩ (by simp)), cell_of_row _ _ 3 _ _ _ ((HC.out).2.2 ⟨u1003.heap.size, 35, #[.int .i64 0, .int .i64 Y, .int .i64 Z, .slice A1003 ys.length c1003]⟩ (by simp)), cell_of_row _ _ 0 _ _ _ ((HC.out).2.2 ⟨u1.heap.size, 35, #[.int .i64 W, .int .i64 H, .int .i64 P, .slice A xs.length c]⟩ (by simp)), cell_of_row _ _ 1 _ _ _ ((HC.out).2.2 ⟨u1.heap.size, 35, #[.int .i64 W, .int .i64 H, .int .i64 P, .slice A xs.length c]⟩ (by simp)), cell_of_row _ _ 2 _ _ _ ((HC.out).2.2 ⟨u1.heap.size, 35, #[.int .i64 W, .int .i64 H, .int .i64 P, .slice A xs.length c]⟩ (by simp)), cell_of_row _ _ 3 _ _ _ ((HC.out).2.2 ⟨u1.heap.size, 35, #[.int .i64 W, .int .i64 H, .int .i64 P, .slice A xs.length c]⟩ (by simp))⟩) (fun hHeld => ?_)
      clear hK K
      (try simp only [Act.put, List.setIfInBounds_toArray, List.set_cons_zero, List.set_cons_succ])
      refine wpAnyH_ready (rs := [5]) (by kernel_rfl) (by simp) ?_
      refine' AllReadyH.cons (o := _) ?hi18 (fun K hK => ?rest18) AllReadyH.nil
      case hi18 => (simp only [List.getElem?_toArray, List.getElem?_cons_succ, List.getElem?_cons_zero]; rfl)
      go_simp
      go_at_call 34
      refine (lEqIm 0 Y Z ys A1003 A1009 c1003 c1009 _ ((HC.out).rds (A := A1003) (xs := ys) (by simp)) ((HC.out).rds (A := A1009) (xs := ys) (by simp)) (by omega)).mono ?_
      rintro e u1010 ⟨rfl, hB1010⟩
      have HD := Lib.hid (HC.out.call hB1010)
      clear hB1010 HC
      have HC := HD
      clear HD
      go_wp2_with fail
      refine hK.out _ _ (by (try dsimp only); exact ⟨cell_of_row _ _ 0 _ _ _ ((HC.out).2.2 ⟨u1003.heap.size, 35, #[.int .i64 0, .int .i64 Y, .int .i64 Z, .slice A1003 ys.length c1003]⟩ (by simp)), cell_of_row _ _ 1 _ _ _ ((HC.out).2.2 ⟨u1003.heap.size, 35, #[.int .i64 0, .int .i64 Y, .int .i64 Z, .slice A1003 ys.length c1003]⟩ (by simp)), cell_of_row _ _ 2 _ _ _ ((HC.out).2.2 ⟨u1003.heap.size, 35, #[.int .i64 0, .int .i64 Y, .int .i64 Z, .slice A1003 ys.length c1003]⟩ (by simp)), cell_of_row _ _ 3 _ _ _ ((HC.out).2.2 ⟨u1003.heap.size, 35, #[.int .i64 0, .int .i64 Y, .int .i64 Z, .slice A1003 ys.length c1003]⟩ (by simp)), cell_of_row _ _ 0 _ _ _ ((HC.out).2.2 ⟨u1.heap.size, 35, #[.int .i64 W, .int .i64 H, .int .i64 P, .slice A xs.length c]⟩ (by simp)), cell_of_row _ _ 1 _ _ _ ((HC.out).2.2 ⟨u1.heap.size, 35, #[.int .i64 W, .int .i64 H, .int .i64 P, .slice A xs.length c]⟩ (by simp)), cell_of_row _ _ 2 _ _ _ ((HC.out).2.2 ⟨u1.heap.size, 35, #[.int .i64 W, .int .i64 H, .int .i64 P, .slice A xs.length c]⟩ (by simp)), cell_of_row _ _ 3 _ _ _ ((HC.out).2.2 ⟨u1.heap.size, 35, #[.int .i64 W, .int .i64 H, .int .i64 P, .slice A xs.length c]⟩ (by simp))⟩) (fun hHeld => ?_)
      clear hK K
      (try simp only [Act.put, List.setIfInBounds_toArray, List.set_cons_zero, List.set_cons_succ])
      refine' wpAnyH_take (i := 6) (oi := _) (v := _) ?hi19 (by kernel_rfl) (by kernel_rfl) (by kernel_rfl) ?hq19 (Or.inl ⟨?hw19, ?hy19⟩) (by assumption) ?rest19
      case hi19 => (simp only [List.getElem?_toArray, List.getElem?_cons_succ, List.getElem?_cons_zero]; rfl)
      case hq19 => exact fun _ _ _ h => h
      case hw19 => rfl
      case hy19 => (intro wq hSw; (try dsimp only at hSw); go_simp; (try with_reducible rfl))
      (try simp only [Act.put, List.setIfInBounds_toArray, List.set_cons_zero, List.set_cons_succ])
      refine wpAnyH_done (by kernel_rfl) ?_ _
      have S1011 := HC.out
      clear HC
      go_wp2
      go_ret
      exact ⟨rfl, S1011.1⟩
    · skip
      obtain ⟨N, hN⟩ : ∃ N, N = wn * hn := ⟨_, rfl⟩
      have hNb : N ≤ 256 := by rw [hN]; have := Nat.mul_le_mul hw2 hh2; omega
      rw [← hN] at hxl HBt
      have Hxl := Lib.hid hxl
      have Hyl := Lib.hid hyl
      have Hby := Lib.hid hby
      have HOr := Lib.hid hor
      clear hxl hyl hby hN hor
      have hx0 : (X == 0) = false := beq_eq_false_iff_ne.2 hX0
      have Fmx := S1003.2.2 ⟨u1.heap.size, 35, #[.int .i64 (wn : Int), .int .i64 (hn : Int), .int .i64 (pn : Int), .slice A xs.length c]⟩ (by simp)
      have ml : u1.heap.size < u1003.heap.size := Fmx.lt
      have m0 : u1003.cell? ⟨u1.heap.size, 0, none⟩ = some (.int .i64 (wn : Int)) := cell_of_row _ _ 0 _ _ _ Fmx
      have m1 : u1003.cell? ⟨u1.heap.size, 1, none⟩ = some (.int .i64 (hn : Int)) := cell_of_row _ _ 1 _ _ _ Fmx
      have m2 : u1003.cell? ⟨u1.heap.size, 2, none⟩ = some (.int .i64 (pn : Int)) := cell_of_row _ _ 2 _ _ _ Fmx
      have m3 : u1003.cell? ⟨u1.heap.size, 3, none⟩ = some (.slice A xs.length c) := cell_of_row _ _ 3 _ _ _ Fmx
      clear Fmx
      have S1004 : LSt w (u1003.alloc (.cells #[.int .i64 X, .int .i64 Y, .int .i64 Z, .slice A1003 ys.length c1003] 35)) [(A1003, ys), (A, xs)] [⟨u1003.heap.size, 35, #[.int .i64 X, .int .i64 Y, .int .i64 Z, .slice A1003 ys.length c1003]⟩, ⟨u1.heap.size, 35, #[.int .i64 (wn : Int), .int .i64 (hn : Int), .int .i64 (pn : Int), .slice A xs.length c]⟩] := LSt.box2 S1003 35 #[.int .i64 X, .int .i64 Y, .int .i64 Z, .slice A1003 ys.length c1003] u1003.heap.size (by simp)
      go_upto_region 5 with fail
      clear ml m0 m1 m2 m3
      clear S1003
      generalize u1003.alloc (.cells #[.int .i64 X, .int .i64 Y, .int .i64 Z, .slice A1003 ys.length c1003] 35) = u1005 at *
      have HC := Lib.hid S1004.drew
      clear S1004
      refine wp_region_held_drew (S := (fun w' => w'.cell? ⟨u1003.heap.size, 0, none⟩ = some (.int .i64 X) ∧ w'.cell? ⟨u1003.heap.size, 1, none⟩ = some (.int .i64 Y) ∧ w'.cell? ⟨u1003.heap.size, 2, none⟩ = some (.int .i64 Z) ∧ w'.cell? ⟨u1003.heap.size, 3, none⟩ = some (.slice A1003 ys.length c1003) ∧ w'.cell? ⟨u1.heap.size, 0, none⟩ = some (.int .i64 (wn : Int)) ∧ w'.cell? ⟨u1.heap.size, 1, none⟩ = some (.int .i64 (hn : Int)) ∧ w'.cell? ⟨u1.heap.size, 2, none⟩ = some (.int .i64 (pn : Int)) ∧ w'.cell? ⟨u1.heap.size, 3, none⟩ = some (.slice A xs.length c))) (by kernel_rfl) (by exact ⟨cell_of_row _ _ 0 _ _ _ ((HC.out).2.2 ⟨u1003.heap.size, 35, #[.int .i64 X, .int .i64 Y, .int .i64 Z, .slice A1003 ys.length c1003]⟩ (by simp)), cell_of_row _ _ 1 _ _ _ ((HC.out).2.2 ⟨u1003.heap.size, 35, #[.int .i64 X, .int .i64 Y, .int .i64 Z, .slice A1003 ys.length c1003]⟩ (by simp)), cell_of_row _ _ 2 _ _ _ ((HC.out).2.2 ⟨u1003.heap.size, 35, #[.int .i64 X, .int .i64 Y, .int .i64 Z, .slice A1003 ys.length c1003]⟩ (by simp)), cell_of_row _ _ 3 _ _ _ ((HC.out).2.2 ⟨u1003.heap.size, 35, #[.int .i64 X, .int .i64 Y, .int .i64 Z, .slice A1003 ys.length c1003]⟩ (by simp)), cell_of_row _ _ 0 _ _ _ ((HC.out).2.2 ⟨u1.heap.size, 35, #[.int .i64 (wn : Int), .int .i64 (hn : Int), .int .i64 (pn : Int), .slice A xs.length c]⟩ (by simp)), cell_of_row _ _ 1 _ _ _ ((HC.out).2.2 ⟨u1.heap.size, 35, #[.int .i64 (wn : Int), .int .i64 (hn : Int), .int .i64 (pn : Int), .slice A xs.length c]⟩ (by simp)), cell_of_row _ _ 2 _ _ _ ((HC.out).2.2 ⟨u1.heap.size, 35, #[.int .i64 (wn : Int), .int .i64 (hn : Int), .int .i64 (pn : Int), .slice A xs.length c]⟩ (by simp)), cell_of_row _ _ 3 _ _ _ ((HC.out).2.2 ⟨u1.heap.size, 35, #[.int .i64 (wn : Int), .int .i64 (hn : Int), .int .i64 (pn : Int), .slice A xs.length c]⟩ (by simp))⟩) (fun hHeld => ?_)
      refine' wpAnyH_take (i := 0) (oi := _) (v := _) ?hi20 (by kernel_rfl) (by kernel_rfl) (by kernel_rfl) ?hq20 (Or.inl ⟨?hw20, ?hy20⟩) (by assumption) ?rest20
      case hi20 => (simp only [List.getElem?_toArray, List.getElem?_cons_succ, List.getElem?_cons_zero]; rfl)
      case hq20 => exact fun _ _ _ h => h
      case hw20 => rfl
      case hy20 => (intro wq hSw; (try dsimp only at hSw); go_simp; (try with_reducible rfl))
      (try simp only [Act.put, List.setIfInBounds_toArray, List.set_cons_zero, List.set_cons_succ])
      refine' wpAnyH_take (i := 1) (oi := _) (v := _) ?hi21 (by kernel_rfl) (by kernel_rfl) (by kernel_rfl) ?hq21 (Or.inl ⟨?hw21, ?hy21⟩) (by assumption) ?rest21
      case hi21 => (simp only [List.getElem?_toArray, List.getElem?_cons_succ, List.getElem?_cons_zero]; rfl)
      case hq21 => exact fun _ _ _ h => h
      case hw21 => rfl
      case hy21 => (intro wq hSw; (try dsimp only at hSw); go_simp; (try with_reducible rfl))
      (try simp only [Act.put, List.setIfInBounds_toArray, List.set_cons_zero, List.set_cons_succ])
      refine' wpAnyH_take (i := 2) (oi := _) (v := _) ?hi22 (by kernel_rfl) (by kernel_rfl) (by kernel_rfl) ?hq22 (Or.inl ⟨?hw22, ?hy22⟩) (by assumption) ?rest22
      case hi22 => (simp only [List.getElem?_toArray, List.getElem?_cons_succ, List.getElem?_cons_zero]; rfl)
      case hq22 => exact fun _ _ _ h => h
      case hw22 => rfl
      case hy22 => (intro wq hSw; (try dsimp only at hSw); go_simp; (try with_reducible rfl))
      (try simp only [Act.put, List.setIfInBounds_toArray, List.set_cons_zero, List.set_cons_succ])
      refine' wpAnyH_take (i := 3) (oi := _) (v := _) ?hi23 (by kernel_rfl) (by kernel_rfl) (by kernel_rfl) ?hq23 (Or.inl ⟨?hw23, ?hy23⟩) (by assumption) ?rest23
      case hi23 => (simp only [List.getElem?_toArray, List.getElem?_cons_succ, List.getElem?_cons_zero]; rfl)
      case hq23 => exact fun _ _ _ h => h
      case hw23 => rfl
      case hy23 => (intro wq hSw; (try dsimp only at hSw); go_simp; (try with_reducible rfl))
      (try simp only [Act.put, List.setIfInBounds_toArray, List.set_cons_zero, List.set_cons_succ])
      refine wpAnyH_ready (rs := [4]) (by kernel_rfl) (by simp) ?_
      refine' AllReadyH.cons (o := _) ?hi24 (fun K hK => ?rest24) AllReadyH.nil
      case hi24 => (simp only [List.getElem?_toArray, List.getElem?_cons_succ, List.getElem?_cons_zero]; rfl)
      go_simp
      go_at_call 38
      refine (ScC.use HQ A c _ ((HC.out).rds (A := A) (xs := xs) (by simp)) hxc).mono ?_
      rintro e u1006 ⟨A1006, c1006, rfl, hc1006, hr1006, hB1006⟩
      have HD := Lib.hid ((HC.out.call hB1006).add hr1006)
      clear hr1006 hB1006 HC
      have HC := HD
      clear HD
      go_wp2_with fail
      refine hK.out _ _ (by (try dsimp only); exact ⟨cell_of_row _ _ 0 _ _ _ ((HC.out).2.2 ⟨u1003.heap.size, 35, #[.int .i64 X, .int .i64 Y, .int .i64 Z, .slice A1003 ys.length c1003]⟩ (by simp)), cell_of_row _ _ 1 _ _ _ ((HC.out).2.2 ⟨u1003.heap.size, 35, #[.int .i64 X, .int .i64 Y, .int .i64 Z, .slice A1003 ys.length c1003]⟩ (by simp)), cell_of_row _ _ 2 _ _ _ ((HC.out).2.2 ⟨u1003.heap.size, 35, #[.int .i64 X, .int .i64 Y, .int .i64 Z, .slice A1003 ys.length c1003]⟩ (by simp)), cell_of_row _ _ 3 _ _ _ ((HC.out).2.2 ⟨u1003.heap.size, 35, #[.int .i64 X, .int .i64 Y, .int .i64 Z, .slice A1003 ys.length c1003]⟩ (by simp)), cell_of_row _ _ 0 _ _ _ ((HC.out).2.2 ⟨u1.heap.size, 35, #[.int .i64 (wn : Int), .int .i64 (hn : Int), .int .i64 (pn : Int), .slice A xs.length c]⟩ (by simp)), cell_of_row _ _ 1 _ _ _ ((HC.out).2.2 ⟨u1.heap.size, 35, #[.int .i64 (wn : Int), .int .i64 (hn : Int), .int .i64 (pn : Int), .slice A xs.length c]⟩ (by simp)), cell_of_row _ _ 2 _ _ _ ((HC.out).2.2 ⟨u1.heap.size, 35, #[.int .i64 (wn : Int), .int .i64 (hn : Int), .int .i64 (pn : Int), .slice A xs.length c]⟩ (by simp)), cell_of_row _ _ 3 _ _ _ ((HC.out).2.2 ⟨u1.heap.size, 35, #[.int .i64 (wn : Int), .int .i64 (hn : Int), .int .i64 (pn : Int), .slice A xs.length c]⟩ (by simp))⟩) (fun hHeld => ?_)
      clear hK K
      (try simp only [Act.put, List.setIfInBounds_toArray, List.set_cons_zero, List.set_cons_succ])
      refine wpAnyH_ready (rs := [5]) (by kernel_rfl) (by simp) ?_
      refine' AllReadyH.cons (o := _) ?hi25 (fun K hK => ?rest25) AllReadyH.nil
      case hi25 => (simp only [List.getElem?_toArray, List.getElem?_cons_succ, List.getElem?_cons_zero]; rfl)
      go_simp
      go_at_call 34
      refine (lEqIm X Y Z ys A1003 A1006 c1003 c1006 _ ((HC.out).rds (A := A1003) (xs := ys) (by simp)) ((HC.out).rds (A := A1006) (xs := ys) (by simp)) (by omega)).mono ?_
      rintro e u1007 ⟨rfl, hB1007⟩
      have HD := Lib.hid (HC.out.call hB1007)
      clear hB1007 HC
      have HC := HD
      clear HD
      go_wp2_with fail
      refine hK.out _ _ (by (try dsimp only); exact ⟨cell_of_row _ _ 0 _ _ _ ((HC.out).2.2 ⟨u1003.heap.size, 35, #[.int .i64 X, .int .i64 Y, .int .i64 Z, .slice A1003 ys.length c1003]⟩ (by simp)), cell_of_row _ _ 1 _ _ _ ((HC.out).2.2 ⟨u1003.heap.size, 35, #[.int .i64 X, .int .i64 Y, .int .i64 Z, .slice A1003 ys.length c1003]⟩ (by simp)), cell_of_row _ _ 2 _ _ _ ((HC.out).2.2 ⟨u1003.heap.size, 35, #[.int .i64 X, .int .i64 Y, .int .i64 Z, .slice A1003 ys.length c1003]⟩ (by simp)), cell_of_row _ _ 3 _ _ _ ((HC.out).2.2 ⟨u1003.heap.size, 35, #[.int .i64 X, .int .i64 Y, .int .i64 Z, .slice A1003 ys.length c1003]⟩ (by simp)), cell_of_row _ _ 0 _ _ _ ((HC.out).2.2 ⟨u1.heap.size, 35, #[.int .i64 (wn : Int), .int .i64 (hn : Int), .int .i64 (pn : Int), .slice A xs.length c]⟩ (by simp)), cell_of_row _ _ 1 _ _ _ ((HC.out).2.2 ⟨u1.heap.size, 35, #[.int .i64 (wn : Int), .int .i64 (hn : Int), .int .i64 (pn : Int), .slice A xs.length c]⟩ (by simp)), cell_of_row _ _ 2 _ _ _ ((HC.out).2.2 ⟨u1.heap.size, 35, #[.int .i64 (wn : Int), .int .i64 (hn : Int), .int .i64 (pn : Int), .slice A xs.length c]⟩ (by simp)), cell_of_row _ _ 3 _ _ _ ((HC.out).2.2 ⟨u1.heap.size, 35, #[.int .i64 (wn : Int), .int .i64 (hn : Int), .int .i64 (pn : Int), .slice A xs.length c]⟩ (by simp))⟩) (fun hHeld => ?_)
      clear hK K
      (try simp only [Act.put, List.setIfInBounds_toArray, List.set_cons_zero, List.set_cons_succ])
      refine' wpAnyH_take (i := 6) (oi := _) (v := _) ?hi26 (by kernel_rfl) (by kernel_rfl) (by kernel_rfl) ?hq26 (Or.inl ⟨?hw26, ?hy26⟩) (by assumption) ?rest26
      case hi26 => (simp only [List.getElem?_toArray, List.getElem?_cons_succ, List.getElem?_cons_zero]; rfl)
      case hq26 => exact fun _ _ _ h => h
      case hw26 => rfl
      case hy26 => (intro wq hSw; (try dsimp only at hSw); go_simp; (try with_reducible rfl))
      (try simp only [Act.put, List.setIfInBounds_toArray, List.set_cons_zero, List.set_cons_succ])
      refine' wpAnyH_take (i := 7) (oi := _) (v := _) ?hi27 (by kernel_rfl) (by kernel_rfl) (by kernel_rfl) ?hq27 (Or.inl ⟨?hw27, ?hy27⟩) (by assumption) ?rest27
      case hi27 => (simp only [List.getElem?_toArray, List.getElem?_cons_succ, List.getElem?_cons_zero]; rfl)
      case hq27 => exact fun _ _ _ h => h
      case hw27 => rfl
      case hy27 => (intro wq hSw; (try dsimp only at hSw); go_simp; (try with_reducible rfl))
      (try simp only [Act.put, List.setIfInBounds_toArray, List.set_cons_zero, List.set_cons_succ])
      refine' wpAnyH_take (i := 8) (oi := _) (v := _) ?hi28 (by kernel_rfl) (by kernel_rfl) (by kernel_rfl) ?hq28 (Or.inl ⟨?hw28, ?hy28⟩) (by assumption) ?rest28
      case hi28 => (simp only [List.getElem?_toArray, List.getElem?_cons_succ, List.getElem?_cons_zero]; rfl)
      case hq28 => exact fun _ _ _ h => h
      case hw28 => rfl
      case hy28 => (intro wq hSw; (try dsimp only at hSw); go_simp; (try with_reducible rfl))
      (try simp only [Act.put, List.setIfInBounds_toArray, List.set_cons_zero, List.set_cons_succ])
      refine' wpAnyH_take (i := 9) (oi := _) (v := _) ?hi29 (by kernel_rfl) (by kernel_rfl) (by kernel_rfl) ?hq29 (Or.inl ⟨?hw29, ?hy29⟩) (by assumption) ?rest29
      case hi29 => (simp only [List.getElem?_toArray, List.getElem?_cons_succ, List.getElem?_cons_zero]; rfl)
      case hq29 => exact fun _ _ _ h => h
      case hw29 => rfl
      case hy29 => (intro wq hSw; (try dsimp only at hSw); go_simp; (try with_reducible rfl))
      (try simp only [Act.put, List.setIfInBounds_toArray, List.set_cons_zero, List.set_cons_succ])
      refine' wpAnyH_take (i := 10) (oi := _) (v := _) ?hi30 (by kernel_rfl) (by kernel_rfl) (by kernel_rfl) ?hq30 (Or.inl ⟨?hw30, ?hy30⟩) (by assumption) ?rest30
      case hi30 => (simp only [List.getElem?_toArray, List.getElem?_cons_succ, List.getElem?_cons_zero]; rfl)
      case hq30 => exact fun _ _ _ h => h
      case hw30 => rfl
      case hy30 => (intro wq hSw; (try dsimp only at hSw); go_simp; (try with_reducible rfl))
      (try simp only [Act.put, List.setIfInBounds_toArray, List.set_cons_zero, List.set_cons_succ])
      refine' wpAnyH_take (i := 11) (oi := _) (v := _) ?hi31 (by kernel_rfl) (by kernel_rfl) (by kernel_rfl) ?hq31 (Or.inl ⟨?hw31, ?hy31⟩) (by assumption) ?rest31
      case hi31 => (simp only [List.getElem?_toArray, List.getElem?_cons_succ, List.getElem?_cons_zero]; rfl)
      case hq31 => exact fun _ _ _ h => h
      case hw31 => rfl
      case hy31 => (intro wq hSw; (try dsimp only at hSw); go_simp; (try with_reducible rfl))
      (try simp only [Act.put, List.setIfInBounds_toArray, List.set_cons_zero, List.set_cons_succ])
      refine wpAnyH_done (by kernel_rfl) ?_ _
      have S1008 := HC.out
      clear HC
      have HS := Lib.hid S1008
      clear S1008
      go_wp2
      go_loopw [7] (fun ip wr => ∃ q : Nat, q ≤ pn ∧ ip = .int .i64 (q : Int) ∧ Hid (LSt w wr [(A1006, ys), (A1003, ys), (A, xs)] [⟨u1003.heap.size, 35, #[.int .i64 X, .int .i64 Y, .int .i64 Z, .slice A1003 ys.length c1003]⟩, ⟨u1.heap.size, 35, #[.int .i64 (wn : Int), .int .i64 (hn : Int), .int .i64 (pn : Int), .slice A xs.length c]⟩])) (fun ip _ => pn - (intOf ip).toNat)
      case atStart => exact ⟨0, Nat.zero_le _, rfl, HS⟩
      case round =>
        clear HS
        obtain ⟨q, hq, rfl, HS⟩ := hrel
        have Fmx := HS.out.2.2 ⟨u1.heap.size, 35, #[.int .i64 (wn : Int), .int .i64 (hn : Int), .int .i64 (pn : Int), .slice A xs.length c]⟩ (by simp)
        have ml : u1.heap.size < wr.heap.size := Fmx.lt
        have m0 : wr.cell? ⟨u1.heap.size, 0, none⟩ = some (.int .i64 (wn : Int)) := cell_of_row _ _ 0 _ _ _ Fmx
        have m1 : wr.cell? ⟨u1.heap.size, 1, none⟩ = some (.int .i64 (hn : Int)) := cell_of_row _ _ 1 _ _ _ Fmx
        have m2 : wr.cell? ⟨u1.heap.size, 2, none⟩ = some (.int .i64 (pn : Int)) := cell_of_row _ _ 2 _ _ _ Fmx
        have m3 : wr.cell? ⟨u1.heap.size, 3, none⟩ = some (.slice A xs.length c) := cell_of_row _ _ 3 _ _ _ Fmx
        clear Fmx
        have Fox := HS.out.2.2 ⟨u1003.heap.size, 35, #[.int .i64 X, .int .i64 Y, .int .i64 Z, .slice A1003 ys.length c1003]⟩ (by simp)
        have ol : u1003.heap.size < wr.heap.size := Fox.lt
        have o0 : wr.cell? ⟨u1003.heap.size, 0, none⟩ = some (.int .i64 X) := cell_of_row _ _ 0 _ _ _ Fox
        have o1 : wr.cell? ⟨u1003.heap.size, 1, none⟩ = some (.int .i64 Y) := cell_of_row _ _ 1 _ _ _ Fox
        have o2 : wr.cell? ⟨u1003.heap.size, 2, none⟩ = some (.int .i64 Z) := cell_of_row _ _ 2 _ _ _ Fox
        have o3 : wr.cell? ⟨u1003.heap.size, 3, none⟩ = some (.slice A1003 ys.length c1003) := cell_of_row _ _ 3 _ _ _ Fox
        clear Fox
        by_cases hlt : q < pn
        · go_wp2
          clear ml m0 m1 m2 m3
          clear ol o0 o1 o2 o3
          go_loopw [8, 9, 10] (fun lo hi i wr => ∃ (k j : Nat) (l u : Int), k ≤ N ∧ Hid (j = k * pn + q) ∧ i = .int .i64 (j : Int) ∧ lo = .int .i64 l ∧ hi = .int .i64 u ∧ Hid (∀ k', k' < k → l ≤ xs.getD (k' * pn + q) 0 ∧ xs.getD (k' * pn + q) 0 ≤ u) ∧ Hid (LSt w wr [(A1006, ys), (A1003, ys), (A, xs)] [⟨u1003.heap.size, 35, #[.int .i64 X, .int .i64 Y, .int .i64 Z, .slice A1003 ys.length c1003]⟩, ⟨u1.heap.size, 35, #[.int .i64 (wn : Int), .int .i64 (hn : Int), .int .i64 (pn : Int), .slice A xs.length c]⟩])) (fun _ _ i _ => xs.length - (intOf i).toNat)
          case atStart => exact ⟨0, q, 255, 0, Nat.zero_le _, Lib.hid (by simp), rfl, rfl, rfl, Lib.hid (fun k' h => by omega), HS⟩
          case round =>
            clear HS
            obtain ⟨k, j, l, u, hk, hj, rfl, rfl, rfl, hlu, HS⟩ := hrel
            have Fmx := HS.out.2.2 ⟨u1.heap.size, 35, #[.int .i64 (wn : Int), .int .i64 (hn : Int), .int .i64 (pn : Int), .slice A xs.length c]⟩ (by simp)
            have ml : u1.heap.size < wr.heap.size := Fmx.lt
            have m0 : wr.cell? ⟨u1.heap.size, 0, none⟩ = some (.int .i64 (wn : Int)) := cell_of_row _ _ 0 _ _ _ Fmx
            have m1 : wr.cell? ⟨u1.heap.size, 1, none⟩ = some (.int .i64 (hn : Int)) := cell_of_row _ _ 1 _ _ _ Fmx
            have m2 : wr.cell? ⟨u1.heap.size, 2, none⟩ = some (.int .i64 (pn : Int)) := cell_of_row _ _ 2 _ _ _ Fmx
            have m3 : wr.cell? ⟨u1.heap.size, 3, none⟩ = some (.slice A xs.length c) := cell_of_row _ _ 3 _ _ _ Fmx
            clear Fmx
            have hjb : j ≤ 2000 := by have h1 := hj.out; have := Nat.mul_le_mul hk hp2; have := Nat.mul_le_mul_right pn hk; omega
            by_cases hjl : j < xs.length
            · have hkN : k < N := by
                rcases Nat.lt_or_ge k N with h | h
                · exact h
                · have := Nat.mul_le_mul_right pn h; have := Hxl.out; have := hj.out; omega
              obtain ⟨bb, off, rfl, hbb, hcc⟩ := (HS.out.rds (A := A) (xs := xs) (by simp)).cells_ hjl
              have hcj := hcc j hjl
              obtain ⟨zb0, zb1⟩ := Hby.out j hjl
              have Hz : Hid (∀ z, z = xs.getD j 0 → ∀ l' u' : Int, l' ≤ l → l' ≤ z → u ≤ u' → z ≤ u' → ∀ k', k' < k + 1 → l' ≤ xs.getD (k' * pn + q) 0 ∧ xs.getD (k' * pn + q) 0 ≤ u') := Lib.hid (fun z hz l' u' h1 h2 h3 h4 k' hk' => by
                by_cases e : k' = k
                · rw [e, ← hj.out, ← hz]; exact ⟨h2, h4⟩
                · have := hlu.out k' (by omega); omega)
              obtain ⟨z, hz⟩ : ∃ z, z = xs.getD j 0 := ⟨_, rfl⟩
              have Hz2 := Lib.hid (Hz.out z hz)
              rw [← hz] at hcj zb0 zb1
              have hjI : (j : Int) < (xs.length : Int) := by omega
              have hw2' : IntKind.i64.wrap ((j : Int) + (pn : Int)) = (j : Int) + (pn : Int) := IntWalk.i64_in _ (by omega)
              have Hnx : Hid (j + pn = (k + 1) * pn + q) := Lib.hid (by rw [hj.out, Nat.add_mul, Nat.one_mul]; omega)
              clear hcc Hz hz hlu hj
              by_cases c1 : z < l <;> by_cases c2 : u < z
              all_goals
                have c1' : l ≤ z ∨ z < l := by omega
                have c2' : z ≤ u ∨ u < z := by omega
                clear c1' c2'
                go_wp2
                all_goals
                  go_roundw
                  case rel => exact ⟨k + 1, j + pn, _, _, by omega, Hnx, by go_num, rfl, rfl, Lib.hid (Hz2.out _ _ (by omega) (by omega) (by omega) (by omega)), HS⟩
                  case measure => simp [intOf]; omega
            · have hkN : k = N := by
                rcases Nat.lt_or_ge k N with h | h
                · have := Nat.mul_le_mul_right pn (show k + 1 ≤ N from h); rw [Nat.add_mul, Nat.one_mul] at this; have := Hxl.out; have := hj.out; omega
                · omega
              have HY := Lib.hid (HBt.out q l u hlt (by rw [← hkN]; exact hlu.out))
              clear hkN hlu
              have Fox := HS.out.2.2 ⟨u1003.heap.size, 35, #[.int .i64 X, .int .i64 Y, .int .i64 Z, .slice A1003 ys.length c1003]⟩ (by simp)
              have ol : u1003.heap.size < wr.heap.size := Fox.lt
              have o0 : wr.cell? ⟨u1003.heap.size, 0, none⟩ = some (.int .i64 X) := cell_of_row _ _ 0 _ _ _ Fox
              have o1 : wr.cell? ⟨u1003.heap.size, 1, none⟩ = some (.int .i64 Y) := cell_of_row _ _ 1 _ _ _ Fox
              have o2 : wr.cell? ⟨u1003.heap.size, 2, none⟩ = some (.int .i64 Z) := cell_of_row _ _ 2 _ _ _ Fox
              have o3 : wr.cell? ⟨u1003.heap.size, 3, none⟩ = some (.slice A1003 ys.length c1003) := cell_of_row _ _ 3 _ _ _ Fox
              clear Fox
              go_wp2
              clear ml m0 m1 m2 m3
              clear ol o0 o1 o2 o3
              go_loopw [11] (fun i wr => ∃ (k j : Nat), k ≤ K ∧ Hid (j = k * pn + q) ∧ i = .int .i64 (j : Int) ∧ Hid (LSt w wr [(A1006, ys), (A1003, ys), (A, xs)] [⟨u1003.heap.size, 35, #[.int .i64 X, .int .i64 Y, .int .i64 Z, .slice A1003 ys.length c1003]⟩, ⟨u1.heap.size, 35, #[.int .i64 (wn : Int), .int .i64 (hn : Int), .int .i64 (pn : Int), .slice A xs.length c]⟩])) (fun i _ => ys.length - (intOf i).toNat)
              case atStart => exact ⟨0, q, Nat.zero_le _, Lib.hid (by simp), rfl, HS⟩
              case round =>
                clear HS hj hjb hjl hk
                obtain ⟨k, j, hk, hj, rfl, HS⟩ := hrel
                have Fmx := HS.out.2.2 ⟨u1.heap.size, 35, #[.int .i64 (wn : Int), .int .i64 (hn : Int), .int .i64 (pn : Int), .slice A xs.length c]⟩ (by simp)
                have ml : u1.heap.size < wr.heap.size := Fmx.lt
                have m0 : wr.cell? ⟨u1.heap.size, 0, none⟩ = some (.int .i64 (wn : Int)) := cell_of_row _ _ 0 _ _ _ Fmx
                have m1 : wr.cell? ⟨u1.heap.size, 1, none⟩ = some (.int .i64 (hn : Int)) := cell_of_row _ _ 1 _ _ _ Fmx
                have m2 : wr.cell? ⟨u1.heap.size, 2, none⟩ = some (.int .i64 (pn : Int)) := cell_of_row _ _ 2 _ _ _ Fmx
                have m3 : wr.cell? ⟨u1.heap.size, 3, none⟩ = some (.slice A xs.length c) := cell_of_row _ _ 3 _ _ _ Fmx
                clear Fmx
                have Fox := HS.out.2.2 ⟨u1003.heap.size, 35, #[.int .i64 X, .int .i64 Y, .int .i64 Z, .slice A1003 ys.length c1003]⟩ (by simp)
                have ol : u1003.heap.size < wr.heap.size := Fox.lt
                have o0 : wr.cell? ⟨u1003.heap.size, 0, none⟩ = some (.int .i64 X) := cell_of_row _ _ 0 _ _ _ Fox
                have o1 : wr.cell? ⟨u1003.heap.size, 1, none⟩ = some (.int .i64 Y) := cell_of_row _ _ 1 _ _ _ Fox
                have o2 : wr.cell? ⟨u1003.heap.size, 2, none⟩ = some (.int .i64 Z) := cell_of_row _ _ 2 _ _ _ Fox
                have o3 : wr.cell? ⟨u1003.heap.size, 3, none⟩ = some (.slice A1003 ys.length c1003) := cell_of_row _ _ 3 _ _ _ Fox
                clear Fox
                by_cases hjl : j < ys.length
                · have hkK : k < K := by
                    rcases Nat.lt_or_ge k K with h | h
                    · exact h
                    · have := Nat.mul_le_mul_right pn h; have := Hyl.out; have := hj.out; omega
                  have hyb := HY.out k hkK
                  rw [← hj.out] at hyb
                  have hjb : j ≤ 2000 := by omega
                  obtain ⟨bb, off, hAA, hbb, hcc⟩ := (HS.out.rds (A := A1003) (xs := ys) (by simp)).cells_ hjl
                  have hcj := hcc j hjl
                  rw [hAA] at o3
                  generalize ys.getD j 0 = z at *
                  obtain ⟨yb0, yb1⟩ := hyb
                  have hjI : (j : Int) < (ys.length : Int) := by omega
                  have hz1 : ¬ z < l := by omega
                  have hz2 : ¬ u < z := by omega
                  have hz3 : decide (z < l) = false := decide_eq_false hz1
                  have hz4 : decide (u < z) = false := decide_eq_false hz2
                  have hw2' : IntKind.i64.wrap ((j : Int) + (pn : Int)) = (j : Int) + (pn : Int) := IntWalk.i64_in _ (by omega)
                  have Hnx : Hid (j + pn = (k + 1) * pn + q) := Lib.hid (by rw [hj.out, Nat.add_mul, Nat.one_mul]; omega)
                  clear hcc hj
                  go_wp2
                  go_roundw
                  case rel => exact ⟨k + 1, j + pn, by omega, Hnx, by go_num, HS⟩
                  case measure => simp [intOf]; omega
                · go_wp2
                  go_roundw
                  case rel => exact ⟨q + 1, by omega, by go_num, HS⟩
                  case measure => simp [intOf]; omega
        · have hqp : q = pn := by omega
          have hqI : ¬ ((q : Int) < (pn : Int)) := by omega
          clear hqp
          have hq1 : IntKind.i64.wrap (2 * (wn : Int)) = 2 * (wn : Int) := IntWalk.i64_in _ (by omega)
          have hq2 : IntKind.i64.wrap (2 * (hn : Int)) = 2 * (hn : Int) := IntWalk.i64_in _ (by omega)
          rcases HOr.out with hb | ⟨hb0, hb⟩ | ⟨hb1, hb2, zs, hzs, HB, HK2⟩
          · have hd1 : decide (16 < 2 * (wn : Int)) = true := decide_eq_true hb
            have HQB := Lib.hid HS.out.1
            clear HS
            go_wp2
            go_ret
            exact ⟨rfl, HQB.out⟩
          · have hb0' : ¬ 16 < 2 * (wn : Int) := by omega
            have hd1 : decide (16 < 2 * (wn : Int)) = false := decide_eq_false hb0'
            have hd2 : decide (16 < 2 * (hn : Int)) = true := decide_eq_true hb
            have HQB := Lib.hid HS.out.1
            clear HS
            go_wp2
            go_ret
            exact ⟨rfl, HQB.out⟩
          · have hb1' : ¬ 16 < 2 * (wn : Int) := by omega
            have hb2' : ¬ 16 < 2 * (hn : Int) := by omega
            have hd1 : decide (16 < 2 * (wn : Int)) = false := decide_eq_false hb1'
            have hd2 : decide (16 < 2 * (hn : Int)) = false := decide_eq_false hb2'
            have S9000 := HS.out
            clear HS
            have Fmx := S9000.2.2 ⟨u1.heap.size, 35, #[.int .i64 (wn : Int), .int .i64 (hn : Int), .int .i64 (pn : Int), .slice A xs.length c]⟩ (by simp)
            have ml : u1.heap.size < wr.heap.size := Fmx.lt
            have m0 : wr.cell? ⟨u1.heap.size, 0, none⟩ = some (.int .i64 (wn : Int)) := cell_of_row _ _ 0 _ _ _ Fmx
            have m1 : wr.cell? ⟨u1.heap.size, 1, none⟩ = some (.int .i64 (hn : Int)) := cell_of_row _ _ 1 _ _ _ Fmx
            have m2 : wr.cell? ⟨u1.heap.size, 2, none⟩ = some (.int .i64 (pn : Int)) := cell_of_row _ _ 2 _ _ _ Fmx
            have m3 : wr.cell? ⟨u1.heap.size, 3, none⟩ = some (.slice A xs.length c) := cell_of_row _ _ 3 _ _ _ Fmx
            clear Fmx
            go_upto_region 24 with fail
            clear ml m0 m1 m2 m3
            have HC := Lib.hid S9000.drew
            clear S9000
            refine wp_region_held_drew (S := (fun w' => w'.cell? ⟨u1.heap.size, 0, none⟩ = some (.int .i64 (wn : Int)) ∧ w'.cell? ⟨u1.heap.size, 1, none⟩ = some (.int .i64 (hn : Int)) ∧ w'.cell? ⟨u1.heap.size, 2, none⟩ = some (.int .i64 (pn : Int)) ∧ w'.cell? ⟨u1.heap.size, 3, none⟩ = some (.slice A xs.length c))) (by kernel_rfl) (by exact ⟨cell_of_row _ _ 0 _ _ _ ((HC.out).2.2 ⟨u1.heap.size, 35, #[.int .i64 (wn : Int), .int .i64 (hn : Int), .int .i64 (pn : Int), .slice A xs.length c]⟩ (by simp)), cell_of_row _ _ 1 _ _ _ ((HC.out).2.2 ⟨u1.heap.size, 35, #[.int .i64 (wn : Int), .int .i64 (hn : Int), .int .i64 (pn : Int), .slice A xs.length c]⟩ (by simp)), cell_of_row _ _ 2 _ _ _ ((HC.out).2.2 ⟨u1.heap.size, 35, #[.int .i64 (wn : Int), .int .i64 (hn : Int), .int .i64 (pn : Int), .slice A xs.length c]⟩ (by simp)), cell_of_row _ _ 3 _ _ _ ((HC.out).2.2 ⟨u1.heap.size, 35, #[.int .i64 (wn : Int), .int .i64 (hn : Int), .int .i64 (pn : Int), .slice A xs.length c]⟩ (by simp))⟩) (fun hHeld => ?_)
            refine' wpAnyH_take (i := 0) (oi := _) (v := _) ?hi32 (by kernel_rfl) (by kernel_rfl) (by kernel_rfl) ?hq32 (Or.inl ⟨?hw32, ?hy32⟩) (by assumption) ?rest32
            case hi32 => (simp only [List.getElem?_toArray, List.getElem?_cons_succ, List.getElem?_cons_zero]; rfl)
            case hq32 => exact fun _ _ _ h => h
            case hw32 => rfl
            case hy32 => (intro wq hSw; (try dsimp only at hSw); go_simp; (try with_reducible rfl))
            (try simp only [Act.put, List.setIfInBounds_toArray, List.set_cons_zero, List.set_cons_succ])
            refine' wpAnyH_take (i := 1) (oi := _) (v := _) ?hi33 (by kernel_rfl) (by kernel_rfl) (by kernel_rfl) ?hq33 (Or.inl ⟨?hw33, ?hy33⟩) (by assumption) ?rest33
            case hi33 => (simp only [List.getElem?_toArray, List.getElem?_cons_succ, List.getElem?_cons_zero]; rfl)
            case hq33 => exact fun _ _ _ h => h
            case hw33 => rfl
            case hy33 => (intro wq hSw; (try dsimp only at hSw); go_simp; (try with_reducible rfl))
            (try simp only [Act.put, List.setIfInBounds_toArray, List.set_cons_zero, List.set_cons_succ])
            refine' wpAnyH_take (i := 2) (oi := _) (v := _) ?hi34 (by kernel_rfl) (by kernel_rfl) (by kernel_rfl) ?hq34 (Or.inl ⟨?hw34, ?hy34⟩) (by assumption) ?rest34
            case hi34 => (simp only [List.getElem?_toArray, List.getElem?_cons_succ, List.getElem?_cons_zero]; rfl)
            case hq34 => exact fun _ _ _ h => h
            case hw34 => rfl
            case hy34 => (intro wq hSw; (try dsimp only at hSw); go_simp; (try with_reducible rfl))
            (try simp only [Act.put, List.setIfInBounds_toArray, List.set_cons_zero, List.set_cons_succ])
            refine' wpAnyH_take (i := 3) (oi := _) (v := _) ?hi35 (by kernel_rfl) (by kernel_rfl) (by kernel_rfl) ?hq35 (Or.inl ⟨?hw35, ?hy35⟩) (by assumption) ?rest35
            case hi35 => (simp only [List.getElem?_toArray, List.getElem?_cons_succ, List.getElem?_cons_zero]; rfl)
            case hq35 => exact fun _ _ _ h => h
            case hw35 => rfl
            case hy35 => (intro wq hSw; (try dsimp only at hSw); go_simp; (try with_reducible rfl))
            (try simp only [Act.put, List.setIfInBounds_toArray, List.set_cons_zero, List.set_cons_succ])
            refine' wpAnyH_take (i := 4) (oi := _) (v := _) ?hi36 (by kernel_rfl) (by kernel_rfl) (by kernel_rfl) ?hq36 (Or.inl ⟨?hw36, ?hy36⟩) (by assumption) ?rest36
            case hi36 => (simp only [List.getElem?_toArray, List.getElem?_cons_succ, List.getElem?_cons_zero]; rfl)
            case hq36 => exact fun _ _ _ h => h
            case hw36 => rfl
            case hy36 => (intro wq hSw; (try dsimp only at hSw); go_simp; (try with_reducible rfl))
            (try simp only [Act.put, List.setIfInBounds_toArray, List.set_cons_zero, List.set_cons_succ])
            refine' wpAnyH_take (i := 5) (oi := _) (v := _) ?hi37 (by kernel_rfl) (by kernel_rfl) (by kernel_rfl) ?hq37 (Or.inl ⟨?hw37, ?hy37⟩) (by assumption) ?rest37
            case hi37 => (simp only [List.getElem?_toArray, List.getElem?_cons_succ, List.getElem?_cons_zero]; rfl)
            case hq37 => exact fun _ _ _ h => h
            case hw37 => rfl
            case hy37 => (intro wq hSw; (try dsimp only at hSw); go_simp; (try with_reducible rfl))
            (try simp only [Act.put, List.setIfInBounds_toArray, List.set_cons_zero, List.set_cons_succ])
            refine' wpAnyH_take (i := 6) (oi := _) (v := _) ?hi38 (by kernel_rfl) (by kernel_rfl) (by kernel_rfl) ?hq38 (Or.inl ⟨?hw38, ?hy38⟩) (by assumption) ?rest38
            case hi38 => (simp only [List.getElem?_toArray, List.getElem?_cons_succ, List.getElem?_cons_zero]; rfl)
            case hq38 => exact fun _ _ _ h => h
            case hw38 => rfl
            case hy38 => (intro wq hSw; (try dsimp only at hSw); go_simp; (try with_reducible rfl))
            (try simp only [Act.put, List.setIfInBounds_toArray, List.set_cons_zero, List.set_cons_succ])
            refine' wpAnyH_take (i := 8) (oi := _) (v := _) ?hi39 (by kernel_rfl) (by kernel_rfl) (by kernel_rfl) ?hq39 (Or.inl ⟨?hw39, ?hy39⟩) (by assumption) ?rest39
            case hi39 => (simp only [List.getElem?_toArray, List.getElem?_cons_succ, List.getElem?_cons_zero]; rfl)
            case hq39 => exact fun _ _ _ h => h
            case hw39 => rfl
            case hy39 => (intro wq hSw; (try dsimp only at hSw); go_simp; (try with_reducible rfl))
            (try simp only [Act.put, List.setIfInBounds_toArray, List.set_cons_zero, List.set_cons_succ])
            refine' wpAnyH_take (i := 9) (oi := _) (v := _) ?hi40 (by kernel_rfl) (by kernel_rfl) (by kernel_rfl) ?hq40 (Or.inl ⟨?hw40, ?hy40⟩) (by assumption) ?rest40
            case hi40 => (simp only [List.getElem?_toArray, List.getElem?_cons_succ, List.getElem?_cons_zero]; rfl)
            case hq40 => exact fun _ _ _ h => h
            case hw40 => rfl
            case hy40 => (intro wq hSw; (try dsimp only at hSw); go_simp; (try with_reducible rfl))
            (try simp only [Act.put, List.setIfInBounds_toArray, List.set_cons_zero, List.set_cons_succ])
            refine' wpAnyH_take (i := 10) (oi := _) (v := _) ?hi41 (by kernel_rfl) (by kernel_rfl) (by kernel_rfl) ?hq41 (Or.inl ⟨?hw41, ?hy41⟩) (by assumption) ?rest41
            case hi41 => (simp only [List.getElem?_toArray, List.getElem?_cons_succ, List.getElem?_cons_zero]; rfl)
            case hq41 => exact fun _ _ _ h => h
            case hw41 => rfl
            case hy41 => (intro wq hSw; (try dsimp only at hSw); go_simp; (try with_reducible rfl))
            (try simp only [Act.put, List.setIfInBounds_toArray, List.set_cons_zero, List.set_cons_succ])
            refine' wpAnyH_take (i := 11) (oi := _) (v := _) ?hi42 (by kernel_rfl) (by kernel_rfl) (by kernel_rfl) ?hq42 (Or.inl ⟨?hw42, ?hy42⟩) (by assumption) ?rest42
            case hi42 => (simp only [List.getElem?_toArray, List.getElem?_cons_succ, List.getElem?_cons_zero]; rfl)
            case hq42 => exact fun _ _ _ h => h
            case hw42 => rfl
            case hy42 => (intro wq hSw; (try dsimp only at hSw); go_simp; (try with_reducible rfl))
            (try simp only [Act.put, List.setIfInBounds_toArray, List.set_cons_zero, List.set_cons_succ])
            refine' wpAnyH_take (i := 13) (oi := _) (v := _) ?hi43 (by kernel_rfl) (by kernel_rfl) (by kernel_rfl) ?hq43 (Or.inl ⟨?hw43, ?hy43⟩) (by assumption) ?rest43
            case hi43 => (simp only [List.getElem?_toArray, List.getElem?_cons_succ, List.getElem?_cons_zero]; rfl)
            case hq43 => exact fun _ _ _ h => h
            case hw43 => rfl
            case hy43 => (intro wq hSw; (try dsimp only at hSw); go_simp; (try with_reducible rfl))
            (try simp only [Act.put, List.setIfInBounds_toArray, List.set_cons_zero, List.set_cons_succ])
            refine wpAnyH_ready (rs := [7]) (by kernel_rfl) (by simp) ?_
            refine' AllReadyH.cons (o := _) ?hi44 (fun K hK => ?rest44) AllReadyH.nil
            case hi44 => (simp only [List.getElem?_toArray, List.getElem?_cons_succ, List.getElem?_cons_zero]; rfl)
            go_simp
            go_at_call 39
            refine (ScC.use HB A c _ ((HC.out).rds (A := A) (xs := xs) (by simp)) hxc).mono ?_
            rintro e u1009 ⟨A1009, c1009, rfl, hc1009, hr1009, hB1009⟩
            have HD := Lib.hid ((HC.out.call hB1009).add hr1009)
            clear hr1009 hB1009 HC
            have HC := HD
            clear HD
            go_wp2_with fail
            refine hK.out _ _ (by (try dsimp only); exact ⟨cell_of_row _ _ 0 _ _ _ ((HC.out).2.2 ⟨u1.heap.size, 35, #[.int .i64 (wn : Int), .int .i64 (hn : Int), .int .i64 (pn : Int), .slice A xs.length c]⟩ (by simp)), cell_of_row _ _ 1 _ _ _ ((HC.out).2.2 ⟨u1.heap.size, 35, #[.int .i64 (wn : Int), .int .i64 (hn : Int), .int .i64 (pn : Int), .slice A xs.length c]⟩ (by simp)), cell_of_row _ _ 2 _ _ _ ((HC.out).2.2 ⟨u1.heap.size, 35, #[.int .i64 (wn : Int), .int .i64 (hn : Int), .int .i64 (pn : Int), .slice A xs.length c]⟩ (by simp)), cell_of_row _ _ 3 _ _ _ ((HC.out).2.2 ⟨u1.heap.size, 35, #[.int .i64 (wn : Int), .int .i64 (hn : Int), .int .i64 (pn : Int), .slice A xs.length c]⟩ (by simp))⟩) (fun hHeld => ?_)
            clear hK K
            (try simp only [Act.put, List.setIfInBounds_toArray, List.set_cons_zero, List.set_cons_succ])
            refine wpAnyH_ready (rs := [12]) (by kernel_rfl) (by simp) ?_
            refine' AllReadyH.cons (o := _) ?hi45 (fun K hK => ?rest45) AllReadyH.nil
            case hi45 => (simp only [List.getElem?_toArray, List.getElem?_cons_succ, List.getElem?_cons_zero]; rfl)
            go_simp
            go_at_call 39
            refine (ScC.use HK2 A1009 c1009 _ ((HC.out).rds (A := A1009) (xs := zs) (by simp)) hc1009).mono ?_
            rintro e u1010 ⟨A1010, c1010, rfl, hc1010, hr1010, hB1010⟩
            have HD := Lib.hid ((HC.out.call hB1010).add hr1010)
            clear hr1010 hB1010 HC
            have HC := HD
            clear HD
            go_wp2_with fail
            refine hK.out _ _ (by (try dsimp only); exact ⟨cell_of_row _ _ 0 _ _ _ ((HC.out).2.2 ⟨u1.heap.size, 35, #[.int .i64 (wn : Int), .int .i64 (hn : Int), .int .i64 (pn : Int), .slice A xs.length c]⟩ (by simp)), cell_of_row _ _ 1 _ _ _ ((HC.out).2.2 ⟨u1.heap.size, 35, #[.int .i64 (wn : Int), .int .i64 (hn : Int), .int .i64 (pn : Int), .slice A xs.length c]⟩ (by simp)), cell_of_row _ _ 2 _ _ _ ((HC.out).2.2 ⟨u1.heap.size, 35, #[.int .i64 (wn : Int), .int .i64 (hn : Int), .int .i64 (pn : Int), .slice A xs.length c]⟩ (by simp)), cell_of_row _ _ 3 _ _ _ ((HC.out).2.2 ⟨u1.heap.size, 35, #[.int .i64 (wn : Int), .int .i64 (hn : Int), .int .i64 (pn : Int), .slice A xs.length c]⟩ (by simp))⟩) (fun hHeld => ?_)
            clear hK K
            (try simp only [Act.put, List.setIfInBounds_toArray, List.set_cons_zero, List.set_cons_succ])
            refine wpAnyH_ready (rs := [14]) (by kernel_rfl) (by simp) ?_
            refine' AllReadyH.cons (o := _) ?hi46 (fun K hK => ?rest46) AllReadyH.nil
            case hi46 => (simp only [List.getElem?_toArray, List.getElem?_cons_succ, List.getElem?_cons_zero]; rfl)
            go_simp
            go_at_call 34
            refine (lEqIm (wn : Int) (hn : Int) (pn : Int) xs A1010 A c1010 c _ ((HC.out).rds (A := A1010) (xs := xs) (by simp)) ((HC.out).rds (A := A) (xs := xs) (by simp)) (by omega)).mono ?_
            rintro e u1011 ⟨rfl, hB1011⟩
            have HD := Lib.hid (HC.out.call hB1011)
            clear hB1011 HC
            have HC := HD
            clear HD
            go_wp2_with fail
            refine hK.out _ _ (by (try dsimp only); exact ⟨cell_of_row _ _ 0 _ _ _ ((HC.out).2.2 ⟨u1.heap.size, 35, #[.int .i64 (wn : Int), .int .i64 (hn : Int), .int .i64 (pn : Int), .slice A xs.length c]⟩ (by simp)), cell_of_row _ _ 1 _ _ _ ((HC.out).2.2 ⟨u1.heap.size, 35, #[.int .i64 (wn : Int), .int .i64 (hn : Int), .int .i64 (pn : Int), .slice A xs.length c]⟩ (by simp)), cell_of_row _ _ 2 _ _ _ ((HC.out).2.2 ⟨u1.heap.size, 35, #[.int .i64 (wn : Int), .int .i64 (hn : Int), .int .i64 (pn : Int), .slice A xs.length c]⟩ (by simp)), cell_of_row _ _ 3 _ _ _ ((HC.out).2.2 ⟨u1.heap.size, 35, #[.int .i64 (wn : Int), .int .i64 (hn : Int), .int .i64 (pn : Int), .slice A xs.length c]⟩ (by simp))⟩) (fun hHeld => ?_)
            clear hK K
            (try simp only [Act.put, List.setIfInBounds_toArray, List.set_cons_zero, List.set_cons_succ])
            refine' wpAnyH_take (i := 15) (oi := _) (v := _) ?hi47 (by kernel_rfl) (by kernel_rfl) (by kernel_rfl) ?hq47 (Or.inl ⟨?hw47, ?hy47⟩) (by assumption) ?rest47
            case hi47 => (simp only [List.getElem?_toArray, List.getElem?_cons_succ, List.getElem?_cons_zero]; rfl)
            case hq47 => exact fun _ _ _ h => h
            case hw47 => rfl
            case hy47 => (intro wq hSw; (try dsimp only at hSw); go_simp; (try with_reducible rfl))
            (try simp only [Act.put, List.setIfInBounds_toArray, List.set_cons_zero, List.set_cons_succ])
            refine wpAnyH_done (by kernel_rfl) ?_ _
            have S1012 := HC.out
            clear HC
            go_wp2
            go_ret
            exact ⟨rfl, S1012.1⟩

/-! ### From the walk to the statement. -/
theorem own : ownKnob Try.prog.godebug = none := by kernel_rfl
theorem laidOut : laidOutB Try.prog = true := by kernel_rfl
set_option maxRecDepth 100000 in
theorem lifted (os : Os) (started : os.Started) (H : Type) (enc : TypeId × Value → H) :
    ReturnsInHanded {} Try.checked os 11 .any (Rows.fnScaleAreaSpec.pre6 enc Try.prog Try.f11 Rows.fnScaleAreaRow.domain false) (Rows.fnScaleAreaSpec.post enc Try.prog Try.f11 false true false false) := by
  refine returnsInHanded_of_change (C := Try.checked) own started (by kernel_rfl) Try.func11
    (ChangeSpec.witness6 (enc := enc) (C := Try.checked) false ⟨#[], #[.slice none 0 0], []⟩ 8 (by kernel_rfl) (by kernel_rfl) (by kernel_rfl) (by kernel_rfl)) ?_
  intro W base args ds gs before hval0 hW hcnd _
  have hval : ∀ (j : Nat) t v, Try.f11.params[j]? = some t → args[j]? = some v → Value.okWide Try.prog W .any base t v := hval0
  have hW' := hW
  obtain ⟨p, q, hA0, hV, rfl, hfz, hnd⟩ := hW
  have hA : DataW.TrodAll enc Try.prog W 0 (fun _ => true) true Try.f11.params.toList args.toList ds p := hA0
  rw [Try.params11] at hA hval
  obtain ⟨v0, vs0, d0, ds0, p0, q0, hargs, rfl, rfl, h0, r0⟩ := trodAll_cons hA
  obtain ⟨rfl, rfl, rfl⟩ := trodAll_nil r0
  obtain rfl : args = #[v0] := by cases args; simp_all
  obtain ⟨rfl, rfl⟩ := trodVars_none hV
  obtain ⟨a0, len0, cap0, rfl⟩ := okWide_slice Try.underlying22 (hval 0 22 v0 rfl rfl)
  have k0 := h0
  have lt0 : ∀ x ∈ p0, x.block < W.heap.size := by obtain ⟨m, hm⟩ := k0; exact DataW.trod_lt m _ _ _ hm
  obtain ⟨z0, hl0, hc0, w0⟩ : ∃ zs : List Int, len0 = zs.length ∧ zs.length ≤ cap0 ∧ Rdw .u8 W W.heap.size a0 zs := by
    obtain ⟨fuel, hf⟩ := h0
    rcases open_ints Try.underlying22 Try.underlying5 (by kernel_rfl) hf with ⟨hcs, _⟩ | ⟨x, l, c, zs, hcs, _, hl, hm, hz, _, hcell, hwz⟩
    · simp [Value.cells] at hcs
      obtain ⟨rfl, rfl, rfl⟩ := hcs
      exact ⟨[], rfl, Nat.le_refl _, Rdw.nil⟩
    · simp [Value.cells] at hcs
      obtain ⟨rfl, rfl, rfl⟩ := hcs
      exact ⟨zs.take len0, by simp at hz ⊢; omega, by simp at hz ⊢; omega, Rdw.of_row hl hm (by simpa using hz) hcell hwz⟩
  subst hl0
  clear hA0 hval0
  refine (walk W a0 cap0 z0 hc0 w0).mono fun e W' ⟨he, bel⟩ => ?_
  subst he
  exact ⟨_, rfl, _, _, _, [], _, [], hW', trodAll_mk1 (shut_bool Try.underlying4 _), (trodAll_cons_mk (Below.trod laidOut (by kernel_rfl) (of_decide_eq_true (by kernel_rfl)) k0 bel lt0) trodAll_mk0), rfl, bel.frame _, fun h => by cases h⟩

theorem over : Rows.fnScaleAreaRow.holds Try.pinned (OpenSpec.ofChange Rows.fnScaleAreaSpec) :=
  OpenClaim.holds_of_wide 11 Try.f11 rfl rfl rfl rfl rfl rfl rfl ⟨rfl, rfl, rfl, rfl, rfl⟩ rfl rfl rfl rfl rfl (by kernel_rfl) Try.func11 (by kernel_rfl)
    (of_decide_eq_true (by kernel_rfl)) (by unfold Func.isWrapper; first | (rw [if_pos (by decide +kernel)]; kernel_rfl) | (rw [if_neg (by decide +kernel)]; exact ⟨rfl, rfl⟩))
    (fun os started H enc _ => lifted os started H enc)

theorem proved : Rows.FnScaleAreaSaid := over
end Go.Proofs.Ytmkfgcmabmocfaa.fnScaleArea
