/- Whatever the code: HalveImage of the drawn image answers what the model answers, and an image that was doubled is halved again. -/
import Derived.Test.YtcmjlpmdmejmaaaRows
import Derived.WalkKit
import Derived.ProofKit
import Derived.OpenShut
import Derived.ShutString
import Derived.ChangeOld
import Derived.Below
import Derived.Test.YtcmjlpmdmejmaaaImgTu
import Derived.Test.YtcmjlpmdmejmaaaDrawSca
import Derived.Deep.QuietTactic
import Derived.BigQuiet
namespace Go.Proofs.Ytcmjlpmdmejmaaa.fnHalveImageDouble
open Go.ChangeShapes Go.WideShapes Go.ChangeAt Go.RowKit
open Go.ChangeMaps (open_string shut_string)
set_option linter.unusedVariables false

set_option linter.unusedSimpArgs false
set_option maxRecDepth 20000
set_option maxHeartbeats 16000000 in
theorem walk (w : World) (a0 : Option Addr) (cap0 : Nat) (z0 : List Int) (hc0 : z0.length ≤ cap0) (w0 : Rdw .u8 w w.heap.size a0 z0) :
    Calls Try.prog 3 #[.slice a0 z0.length cap0] w fun e w' => e = .returned (.bool true) ∧ Below w.heap.size w w' := by
  have hm := w0.2.1
  unfold maxLen at hm
  by_cases hlen : 1048576 < z0.length
  · go_enter Try.func3, Try.ntmps3
    go_wp2
    go_ret
    exact ⟨rfl, Below.refl _ _⟩
  · go_enter Try.func3, Try.ntmps3
    go_wp2_with fail
    refine (drawHlv_any a0 cap0 z0 w hc0 w0).mono ?_
    rintro e u1 ⟨W, H, P, A, c, xs, rfl, hx, hxc, hr, hbel⟩
    have S1 : LSt w u1 [(A, xs)] [] := (LSt.start hbel).add hr
    obtain ⟨X, Y, Z, ys, hys, HI, HQ, hor⟩ := hvd_law W H P xs hx
    clear w0 hr hbel hm
    have S1001 : LSt w (u1.alloc (.cells #[.int .i64 W, .int .i64 H, .int .i64 P, .slice A xs.length c] 25)) [(A, xs)] [⟨u1.heap.size, 25, #[.int .i64 W, .int .i64 H, .int .i64 P, .slice A xs.length c]⟩] := LSt.box2 S1 25 #[.int .i64 W, .int .i64 H, .int .i64 P, .slice A xs.length c] u1.heap.size (by simp)
    go_wp2_with fail
    clear S1
    generalize u1.alloc (.cells #[.int .i64 W, .int .i64 H, .int .i64 P, .slice A xs.length c] 25) = u1002 at *
    refine (ImC0.use HI A c _ ((S1001).rds (A := A) (xs := xs) (by simp)) hxc).mono ?_
    rintro e u1003 ⟨A1003, c1003, rfl, hc1003, hr1003, hB1003⟩
    have S1003 := (S1001.call hB1003).add hr1003
    clear hr1003 hB1003 S1001
    have Fmx := S1003.2.2 ⟨u1.heap.size, 25, #[.int .i64 W, .int .i64 H, .int .i64 P, .slice A xs.length c]⟩ (by simp)
    have ml : u1.heap.size < u1003.heap.size := Fmx.lt
    have m0 : u1003.cell? ⟨u1.heap.size, 0, none⟩ = some (.int .i64 W) := cell_of_row _ _ 0 _ _ _ Fmx
    have m1 : u1003.cell? ⟨u1.heap.size, 1, none⟩ = some (.int .i64 H) := cell_of_row _ _ 1 _ _ _ Fmx
    have m2 : u1003.cell? ⟨u1.heap.size, 2, none⟩ = some (.int .i64 P) := cell_of_row _ _ 2 _ _ _ Fmx
    have m3 : u1003.cell? ⟨u1.heap.size, 3, none⟩ = some (.slice A xs.length c) := cell_of_row _ _ 3 _ _ _ Fmx
    clear Fmx
    rcases hor with HV | ⟨HV, ⟨hW1, hW2⟩, ⟨hH1, hH2⟩, hor⟩
    · skip
      have S1004 : LSt w (u1003.alloc (.cells #[.int .i64 X, .int .i64 Y, .int .i64 Z, .slice A1003 ys.length c1003] 25)) [(A1003, ys), (A, xs)] [⟨u1003.heap.size, 25, #[.int .i64 X, .int .i64 Y, .int .i64 Z, .slice A1003 ys.length c1003]⟩, ⟨u1.heap.size, 25, #[.int .i64 W, .int .i64 H, .int .i64 P, .slice A xs.length c]⟩] := LSt.box2 S1003 25 #[.int .i64 X, .int .i64 Y, .int .i64 Z, .slice A1003 ys.length c1003] u1003.heap.size (by simp)
      go_upto_region 5 with fail
      clear ml m0 m1 m2 m3
      clear S1003
      generalize u1003.alloc (.cells #[.int .i64 X, .int .i64 Y, .int .i64 Z, .slice A1003 ys.length c1003] 25) = u1005 at *
      have HC := Lib.hid S1004.drew
      clear S1004
      refine wp_region_held_drew (S := (fun w' => w'.cell? ⟨u1003.heap.size, 0, none⟩ = some (.int .i64 X) ∧ w'.cell? ⟨u1003.heap.size, 1, none⟩ = some (.int .i64 Y) ∧ w'.cell? ⟨u1003.heap.size, 2, none⟩ = some (.int .i64 Z) ∧ w'.cell? ⟨u1003.heap.size, 3, none⟩ = some (.slice A1003 ys.length c1003) ∧ w'.cell? ⟨u1.heap.size, 0, none⟩ = some (.int .i64 W) ∧ w'.cell? ⟨u1.heap.size, 1, none⟩ = some (.int .i64 H) ∧ w'.cell? ⟨u1.heap.size, 2, none⟩ = some (.int .i64 P) ∧ w'.cell? ⟨u1.heap.size, 3, none⟩ = some (.slice A xs.length c))) (by kernel_rfl) (by exact ⟨cell_of_row _ _ 0 _ _ _ ((HC.out).2.2 ⟨u1003.heap.size, 25, #[.int .i64 X, .int .i64 Y, .int .i64 Z, .slice A1003 ys.length c1003]⟩ (by simp)), cell_of_row _ _ 1 _ _ _ ((HC.out).2.2 ⟨u1003.heap.size, 25, #[.int .i64 X, .int .i64 Y, .int .i64 Z, .slice A1003 ys.length c1003]⟩ (by simp)), cell_of_row _ _ 2 _ _ _ ((HC.out).2.2 ⟨u1003.heap.size, 25, #[.int .i64 X, .int .i64 Y, .int .i64 Z, .slice A1003 ys.length c1003]⟩ (by simp)), cell_of_row _ _ 3 _ _ _ ((HC.out).2.2 ⟨u1003.heap.size, 25, #[.int .i64 X, .int .i64 Y, .int .i64 Z, .slice A1003 ys.length c1003]⟩ (by simp)), cell_of_row _ _ 0 _ _ _ ((HC.out).2.2 ⟨u1.heap.size, 25, #[.int .i64 W, .int .i64 H, .int .i64 P, .slice A xs.length c]⟩ (by simp)), cell_of_row _ _ 1 _ _ _ ((HC.out).2.2 ⟨u1.heap.size, 25, #[.int .i64 W, .int .i64 H, .int .i64 P, .slice A xs.length c]⟩ (by simp)), cell_of_row _ _ 2 _ _ _ ((HC.out).2.2 ⟨u1.heap.size, 25, #[.int .i64 W, .int .i64 H, .int .i64 P, .slice A xs.length c]⟩ (by simp)), cell_of_row _ _ 3 _ _ _ ((HC.out).2.2 ⟨u1.heap.size, 25, #[.int .i64 W, .int .i64 H, .int .i64 P, .slice A xs.length c]⟩ (by simp))⟩) (fun hHeld => ?_)
      refine' wpAnyH_take (i := 0) (oi := _) (v := _) ?hi1 (by kernel_rfl) (by kernel_rfl) (by kernel_rfl) ?hq1 (Or.inl ⟨?hw1, ?hy1⟩) (by assumption) ?rest1
      case hi1 => (simp only [List.getElem?_toArray, List.getElem?_cons_succ, List.getElem?_cons_zero]; rfl)
      case hq1 => exact fun _ _ _ h => h
      case hw1 => rfl
      case hy1 => (intro wq hSw; (try dsimp only at hSw); go_simp; (try with_reducible rfl))
      (try simp only [Act.put, List.setIfInBounds_toArray, List.set_cons_zero, List.set_cons_succ])
      refine' wpAnyH_take (i := 1) (oi := _) (v := _) ?hi2 (by kernel_rfl) (by kernel_rfl) (by kernel_rfl) ?hq2 (Or.inl ⟨?hw2, ?hy2⟩) (by assumption) ?rest2
      case hi2 => (simp only [List.getElem?_toArray, List.getElem?_cons_succ, List.getElem?_cons_zero]; rfl)
      case hq2 => exact fun _ _ _ h => h
      case hw2 => rfl
      case hy2 => (intro wq hSw; (try dsimp only at hSw); go_simp; (try with_reducible rfl))
      (try simp only [Act.put, List.setIfInBounds_toArray, List.set_cons_zero, List.set_cons_succ])
      refine wpAnyH_ready (rs := [2]) (by kernel_rfl) (by simp) ?_
      refine' AllReadyH.cons (o := _) ?hi3 (fun K hK => ?rest3) AllReadyH.nil
      case hi3 => (simp only [List.getElem?_toArray, List.getElem?_cons_succ, List.getElem?_cons_zero]; rfl)
      go_simp
      go_at_call 8
      refine (ImC0.use HQ A c _ ((HC.out).rds (A := A) (xs := xs) (by simp)) hxc).mono ?_
      rintro e u1006 ⟨A1006, c1006, rfl, hc1006, hr1006, hB1006⟩
      have HD := Lib.hid ((HC.out.call hB1006).add hr1006)
      clear hr1006 hB1006 HC
      have HC := HD
      clear HD
      go_wp2_with fail
      refine hK.out _ _ (by (try dsimp only); exact ⟨cell_of_row _ _ 0 _ _ _ ((HC.out).2.2 ⟨u1003.heap.size, 25, #[.int .i64 X, .int .i64 Y, .int .i64 Z, .slice A1003 ys.length c1003]⟩ (by simp)), cell_of_row _ _ 1 _ _ _ ((HC.out).2.2 ⟨u1003.heap.size, 25, #[.int .i64 X, .int .i64 Y, .int .i64 Z, .slice A1003 ys.length c1003]⟩ (by simp)), cell_of_row _ _ 2 _ _ _ ((HC.out).2.2 ⟨u1003.heap.size, 25, #[.int .i64 X, .int .i64 Y, .int .i64 Z, .slice A1003 ys.length c1003]⟩ (by simp)), cell_of_row _ _ 3 _ _ _ ((HC.out).2.2 ⟨u1003.heap.size, 25, #[.int .i64 X, .int .i64 Y, .int .i64 Z, .slice A1003 ys.length c1003]⟩ (by simp)), cell_of_row _ _ 0 _ _ _ ((HC.out).2.2 ⟨u1.heap.size, 25, #[.int .i64 W, .int .i64 H, .int .i64 P, .slice A xs.length c]⟩ (by simp)), cell_of_row _ _ 1 _ _ _ ((HC.out).2.2 ⟨u1.heap.size, 25, #[.int .i64 W, .int .i64 H, .int .i64 P, .slice A xs.length c]⟩ (by simp)), cell_of_row _ _ 2 _ _ _ ((HC.out).2.2 ⟨u1.heap.size, 25, #[.int .i64 W, .int .i64 H, .int .i64 P, .slice A xs.length c]⟩ (by simp)), cell_of_row _ _ 3 _ _ _ ((HC.out).2.2 ⟨u1.heap.size, 25, #[.int .i64 W, .int .i64 H, .int .i64 P, .slice A xs.length c]⟩ (by simp))⟩) (fun hHeld => ?_)
      clear hK K
      (try simp only [Act.put, List.setIfInBounds_toArray, List.set_cons_zero, List.set_cons_succ])
      refine wpAnyH_ready (rs := [3]) (by kernel_rfl) (by simp) ?_
      refine' AllReadyH.cons (o := _) ?hi4 (fun K hK => ?rest4) AllReadyH.nil
      case hi4 => (simp only [List.getElem?_toArray, List.getElem?_cons_succ, List.getElem?_cons_zero]; rfl)
      go_simp
      go_at_call 7
      refine (lEqIm X Y Z ys A1003 A1006 c1003 c1006 _ ((HC.out).rds (A := A1003) (xs := ys) (by simp)) ((HC.out).rds (A := A1006) (xs := ys) (by simp)) (by omega)).mono ?_
      rintro e u1007 ⟨rfl, hB1007⟩
      have HD := Lib.hid (HC.out.call hB1007)
      clear hB1007 HC
      have HC := HD
      clear HD
      go_wp2_with fail
      refine hK.out _ _ (by (try dsimp only); exact ⟨cell_of_row _ _ 0 _ _ _ ((HC.out).2.2 ⟨u1003.heap.size, 25, #[.int .i64 X, .int .i64 Y, .int .i64 Z, .slice A1003 ys.length c1003]⟩ (by simp)), cell_of_row _ _ 1 _ _ _ ((HC.out).2.2 ⟨u1003.heap.size, 25, #[.int .i64 X, .int .i64 Y, .int .i64 Z, .slice A1003 ys.length c1003]⟩ (by simp)), cell_of_row _ _ 2 _ _ _ ((HC.out).2.2 ⟨u1003.heap.size, 25, #[.int .i64 X, .int .i64 Y, .int .i64 Z, .slice A1003 ys.length c1003]⟩ (by simp)), cell_of_row _ _ 3 _ _ _ ((HC.out).2.2 ⟨u1003.heap.size, 25, #[.int .i64 X, .int .i64 Y, .int .i64 Z, .slice A1003 ys.length c1003]⟩ (by simp)), cell_of_row _ _ 0 _ _ _ ((HC.out).2.2 ⟨u1.heap.size, 25, #[.int .i64 W, .int .i64 H, .int .i64 P, .slice A xs.length c]⟩ (by simp)), cell_of_row _ _ 1 _ _ _ ((HC.out).2.2 ⟨u1.heap.size, 25, #[.int .i64 W, .int .i64 H, .int .i64 P, .slice A xs.length c]⟩ (by simp)), cell_of_row _ _ 2 _ _ _ ((HC.out).2.2 ⟨u1.heap.size, 25, #[.int .i64 W, .int .i64 H, .int .i64 P, .slice A xs.length c]⟩ (by simp)), cell_of_row _ _ 3 _ _ _ ((HC.out).2.2 ⟨u1.heap.size, 25, #[.int .i64 W, .int .i64 H, .int .i64 P, .slice A xs.length c]⟩ (by simp))⟩) (fun hHeld => ?_)
      clear hK K
      (try simp only [Act.put, List.setIfInBounds_toArray, List.set_cons_zero, List.set_cons_succ])
      refine' wpAnyH_take (i := 4) (oi := _) (v := _) ?hi5 (by kernel_rfl) (by kernel_rfl) (by kernel_rfl) ?hq5 (Or.inl ⟨?hw5, ?hy5⟩) (by assumption) ?rest5
      case hi5 => (simp only [List.getElem?_toArray, List.getElem?_cons_succ, List.getElem?_cons_zero]; rfl)
      case hq5 => exact fun _ _ _ h => h
      case hw5 => rfl
      case hy5 => (intro wq hSw; (try dsimp only at hSw); go_simp; (try with_reducible rfl))
      (try simp only [Act.put, List.setIfInBounds_toArray, List.set_cons_zero, List.set_cons_succ])
      refine' wpAnyH_take (i := 5) (oi := _) (v := _) ?hi6 (by kernel_rfl) (by kernel_rfl) (by kernel_rfl) ?hq6 (Or.inl ⟨?hw6, ?hy6⟩) (by assumption) ?rest6
      case hi6 => (simp only [List.getElem?_toArray, List.getElem?_cons_succ, List.getElem?_cons_zero]; rfl)
      case hq6 => exact fun _ _ _ h => h
      case hw6 => rfl
      case hy6 => (intro wq hSw; (try dsimp only at hSw); go_simp; (try with_reducible rfl))
      (try simp only [Act.put, List.setIfInBounds_toArray, List.set_cons_zero, List.set_cons_succ])
      refine' wpAnyH_take (i := 6) (oi := _) (v := _) ?hi7 (by kernel_rfl) (by kernel_rfl) (by kernel_rfl) ?hq7 (Or.inl ⟨?hw7, ?hy7⟩) (by assumption) ?rest7
      case hi7 => (simp only [List.getElem?_toArray, List.getElem?_cons_succ, List.getElem?_cons_zero]; rfl)
      case hq7 => exact fun _ _ _ h => h
      case hw7 => rfl
      case hy7 => (intro wq hSw; (try dsimp only at hSw); go_simp; (try with_reducible rfl))
      (try simp only [Act.put, List.setIfInBounds_toArray, List.set_cons_zero, List.set_cons_succ])
      refine wpAnyH_ready (rs := [7]) (by kernel_rfl) (by simp) ?_
      refine' AllReadyH.cons (o := _) ?hi8 (fun K hK => ?rest8) AllReadyH.nil
      case hi8 => (simp only [List.getElem?_toArray, List.getElem?_cons_succ, List.getElem?_cons_zero]; rfl)
      go_simp
      go_at_call 9
      refine (VldC.use HV A c _ ((HC.out).rds (A := A) (xs := xs) (by simp))).mono ?_
      rintro e u1008 ⟨rfl, hB1008⟩
      have HD := Lib.hid (HC.out.call hB1008)
      clear hB1008 HC
      have HC := HD
      clear HD
      go_wp2_with fail
      refine hK.out _ _ (by (try dsimp only); exact ⟨cell_of_row _ _ 0 _ _ _ ((HC.out).2.2 ⟨u1003.heap.size, 25, #[.int .i64 X, .int .i64 Y, .int .i64 Z, .slice A1003 ys.length c1003]⟩ (by simp)), cell_of_row _ _ 1 _ _ _ ((HC.out).2.2 ⟨u1003.heap.size, 25, #[.int .i64 X, .int .i64 Y, .int .i64 Z, .slice A1003 ys.length c1003]⟩ (by simp)), cell_of_row _ _ 2 _ _ _ ((HC.out).2.2 ⟨u1003.heap.size, 25, #[.int .i64 X, .int .i64 Y, .int .i64 Z, .slice A1003 ys.length c1003]⟩ (by simp)), cell_of_row _ _ 3 _ _ _ ((HC.out).2.2 ⟨u1003.heap.size, 25, #[.int .i64 X, .int .i64 Y, .int .i64 Z, .slice A1003 ys.length c1003]⟩ (by simp)), cell_of_row _ _ 0 _ _ _ ((HC.out).2.2 ⟨u1.heap.size, 25, #[.int .i64 W, .int .i64 H, .int .i64 P, .slice A xs.length c]⟩ (by simp)), cell_of_row _ _ 1 _ _ _ ((HC.out).2.2 ⟨u1.heap.size, 25, #[.int .i64 W, .int .i64 H, .int .i64 P, .slice A xs.length c]⟩ (by simp)), cell_of_row _ _ 2 _ _ _ ((HC.out).2.2 ⟨u1.heap.size, 25, #[.int .i64 W, .int .i64 H, .int .i64 P, .slice A xs.length c]⟩ (by simp)), cell_of_row _ _ 3 _ _ _ ((HC.out).2.2 ⟨u1.heap.size, 25, #[.int .i64 W, .int .i64 H, .int .i64 P, .slice A xs.length c]⟩ (by simp))⟩) (fun hHeld => ?_)
      clear hK K
      (try simp only [Act.put, List.setIfInBounds_toArray, List.set_cons_zero, List.set_cons_succ])
      refine' wpAnyH_take (i := 8) (oi := _) (v := _) ?hi9 (by kernel_rfl) (by kernel_rfl) (by kernel_rfl) ?hq9 (Or.inl ⟨?hw9, ?hy9⟩) (by assumption) ?rest9
      case hi9 => (simp only [List.getElem?_toArray, List.getElem?_cons_succ, List.getElem?_cons_zero]; rfl)
      case hq9 => exact fun _ _ _ h => h
      case hw9 => rfl
      case hy9 => (intro wq hSw; (try dsimp only at hSw); go_simp; (try with_reducible rfl))
      (try simp only [Act.put, List.setIfInBounds_toArray, List.set_cons_zero, List.set_cons_succ])
      refine' wpAnyH_take (i := 9) (oi := _) (v := _) ?hi10 (by kernel_rfl) (by kernel_rfl) (by kernel_rfl) ?hq10 (Or.inl ⟨?hw10, ?hy10⟩) (by assumption) ?rest10
      case hi10 => (simp only [List.getElem?_toArray, List.getElem?_cons_succ, List.getElem?_cons_zero]; rfl)
      case hq10 => exact fun _ _ _ h => h
      case hw10 => rfl
      case hy10 => (intro wq hSw; (try dsimp only at hSw); go_simp; (try with_reducible rfl))
      (try simp only [Act.put, List.setIfInBounds_toArray, List.set_cons_zero, List.set_cons_succ])
      refine' wpAnyH_take (i := 10) (oi := _) (v := _) ?hi11 (by kernel_rfl) (by kernel_rfl) (by kernel_rfl) ?hq11 (Or.inl ⟨?hw11, ?hy11⟩) (by assumption) ?rest11
      case hi11 => (simp only [List.getElem?_toArray, List.getElem?_cons_succ, List.getElem?_cons_zero]; rfl)
      case hq11 => exact fun _ _ _ h => h
      case hw11 => rfl
      case hy11 => (intro wq hSw; (try dsimp only at hSw); go_simp; (try with_reducible rfl))
      (try simp only [Act.put, List.setIfInBounds_toArray, List.set_cons_zero, List.set_cons_succ])
      refine' wpAnyH_take (i := 11) (oi := _) (v := undef) ?hi12 (by kernel_rfl) (by kernel_rfl) (by kernel_rfl) ?hq12 (Or.inr ?hw12) (by assumption) ?rest12
      case hi12 => (simp only [List.getElem?_toArray, List.getElem?_cons_succ, List.getElem?_cons_zero]; rfl)
      case hq12 => exact fun _ _ _ h => h
      case hw12 => exact ⟨rfl, rfl⟩
      (try simp only [Act.put, List.setIfInBounds_toArray, List.set_cons_zero, List.set_cons_succ])
      refine' wpAnyH_take (i := 12) (oi := _) (v := undef) ?hi13 (by kernel_rfl) (by kernel_rfl) (by kernel_rfl) ?hq13 (Or.inr ?hw13) (by assumption) ?rest13
      case hi13 => (simp only [List.getElem?_toArray, List.getElem?_cons_succ, List.getElem?_cons_zero]; rfl)
      case hq13 => exact fun _ _ _ h => h
      case hw13 => exact ⟨rfl, rfl⟩
      (try simp only [Act.put, List.setIfInBounds_toArray, List.set_cons_zero, List.set_cons_succ])
      refine' wpAnyH_take (i := 13) (oi := _) (v := undef) ?hi14 (by kernel_rfl) (by kernel_rfl) (by kernel_rfl) ?hq14 (Or.inr ?hw14) (by assumption) ?rest14
      case hi14 => (simp only [List.getElem?_toArray, List.getElem?_cons_succ, List.getElem?_cons_zero]; rfl)
      case hq14 => exact fun _ _ _ h => h
      case hw14 => exact ⟨rfl, rfl⟩
      (try simp only [Act.put, List.setIfInBounds_toArray, List.set_cons_zero, List.set_cons_succ])
      refine' wpAnyH_take (i := 14) (oi := _) (v := undef) ?hi15 (by kernel_rfl) (by kernel_rfl) (by kernel_rfl) ?hq15 (Or.inr ?hw15) (by assumption) ?rest15
      case hi15 => (simp only [List.getElem?_toArray, List.getElem?_cons_succ, List.getElem?_cons_zero]; rfl)
      case hq15 => exact fun _ _ _ h => h
      case hw15 => exact ⟨rfl, rfl⟩
      (try simp only [Act.put, List.setIfInBounds_toArray, List.set_cons_zero, List.set_cons_succ])
      refine' wpAnyH_take (i := 15) (oi := _) (v := _) ?hi16 (by kernel_rfl) (by kernel_rfl) (by kernel_rfl) ?hq16 (Or.inl ⟨?hw16, ?hy16⟩) (by assumption) ?rest16
      case hi16 => (simp only [List.getElem?_toArray, List.getElem?_cons_succ, List.getElem?_cons_zero]; rfl)
      case hq16 => exact fun _ _ _ h => h
      case hw16 => rfl
      case hy16 => (intro wq hSw; (try dsimp only at hSw); go_simp; (try with_reducible rfl))
      (try simp only [Act.put, List.setIfInBounds_toArray, List.set_cons_zero, List.set_cons_succ])
      refine' wpAnyH_take (i := 16) (oi := _) (v := _) ?hi17 (by kernel_rfl) (by kernel_rfl) (by kernel_rfl) ?hq17 (Or.inl ⟨?hw17, ?hy17⟩) (by assumption) ?rest17
      case hi17 => (simp only [List.getElem?_toArray, List.getElem?_cons_succ, List.getElem?_cons_zero]; rfl)
      case hq17 => exact fun _ _ _ h => h
      case hw17 => rfl
      case hy17 => (intro wq hSw; (try dsimp only at hSw); go_simp; (try with_reducible rfl))
      (try simp only [Act.put, List.setIfInBounds_toArray, List.set_cons_zero, List.set_cons_succ])
      refine' wpAnyH_take (i := 17) (oi := _) (v := undef) ?hi18 (by kernel_rfl) (by kernel_rfl) (by kernel_rfl) ?hq18 (Or.inr ?hw18) (by assumption) ?rest18
      case hi18 => (simp only [List.getElem?_toArray, List.getElem?_cons_succ, List.getElem?_cons_zero]; rfl)
      case hq18 => exact fun _ _ _ h => h
      case hw18 => exact ⟨rfl, rfl⟩
      (try simp only [Act.put, List.setIfInBounds_toArray, List.set_cons_zero, List.set_cons_succ])
      refine' wpAnyH_take (i := 18) (oi := _) (v := undef) ?hi19 (by kernel_rfl) (by kernel_rfl) (by kernel_rfl) ?hq19 (Or.inr ?hw19) (by assumption) ?rest19
      case hi19 => (simp only [List.getElem?_toArray, List.getElem?_cons_succ, List.getElem?_cons_zero]; rfl)
      case hq19 => exact fun _ _ _ h => h
      case hw19 => exact ⟨rfl, rfl⟩
      (try simp only [Act.put, List.setIfInBounds_toArray, List.set_cons_zero, List.set_cons_succ])
      refine' wpAnyH_take (i := 19) (oi := _) (v := undef) ?hi20 (by kernel_rfl) (by kernel_rfl) (by kernel_rfl) ?hq20 (Or.inr ?hw20) (by assumption) ?rest20
      case hi20 => (simp only [List.getElem?_toArray, List.getElem?_cons_succ, List.getElem?_cons_zero]; rfl)
      case hq20 => exact fun _ _ _ h => h
      case hw20 => exact ⟨rfl, rfl⟩
      (try simp only [Act.put, List.setIfInBounds_toArray, List.set_cons_zero, List.set_cons_succ])
      refine' wpAnyH_take (i := 20) (oi := _) (v := undef) ?hi21 (by kernel_rfl) (by kernel_rfl) (by kernel_rfl) ?hq21 (Or.inr ?hw21) (by assumption) ?rest21
      case hi21 => (simp only [List.getElem?_toArray, List.getElem?_cons_succ, List.getElem?_cons_zero]; rfl)
      case hq21 => exact fun _ _ _ h => h
      case hw21 => exact ⟨rfl, rfl⟩
      (try simp only [Act.put, List.setIfInBounds_toArray, List.set_cons_zero, List.set_cons_succ])
      refine' wpAnyH_take (i := 21) (oi := _) (v := _) ?hi22 (by kernel_rfl) (by kernel_rfl) (by kernel_rfl) ?hq22 (Or.inl ⟨?hw22, ?hy22⟩) (by assumption) ?rest22
      case hi22 => (simp only [List.getElem?_toArray, List.getElem?_cons_succ, List.getElem?_cons_zero]; rfl)
      case hq22 => exact fun _ _ _ h => h
      case hw22 => rfl
      case hy22 => (intro wq hSw; (try dsimp only at hSw); go_simp; (try with_reducible rfl))
      (try simp only [Act.put, List.setIfInBounds_toArray, List.set_cons_zero, List.set_cons_succ])
      refine wpAnyH_done (by kernel_rfl) ?_ _
      have S1009 := HC.out
      clear HC
      go_upto_region 6 with fail
      have HC := Lib.hid S1009.drew
      clear S1009
      refine wp_region_held_drew (S := (fun w' => w'.cell? ⟨u1003.heap.size, 0, none⟩ = some (.int .i64 X) ∧ w'.cell? ⟨u1003.heap.size, 1, none⟩ = some (.int .i64 Y) ∧ w'.cell? ⟨u1003.heap.size, 2, none⟩ = some (.int .i64 Z) ∧ w'.cell? ⟨u1003.heap.size, 3, none⟩ = some (.slice A1003 ys.length c1003) ∧ w'.cell? ⟨u1.heap.size, 0, none⟩ = some (.int .i64 W) ∧ w'.cell? ⟨u1.heap.size, 1, none⟩ = some (.int .i64 H) ∧ w'.cell? ⟨u1.heap.size, 2, none⟩ = some (.int .i64 P) ∧ w'.cell? ⟨u1.heap.size, 3, none⟩ = some (.slice A xs.length c))) (by kernel_rfl) (by exact ⟨cell_of_row _ _ 0 _ _ _ ((HC.out).2.2 ⟨u1003.heap.size, 25, #[.int .i64 X, .int .i64 Y, .int .i64 Z, .slice A1003 ys.length c1003]⟩ (by simp)), cell_of_row _ _ 1 _ _ _ ((HC.out).2.2 ⟨u1003.heap.size, 25, #[.int .i64 X, .int .i64 Y, .int .i64 Z, .slice A1003 ys.length c1003]⟩ (by simp)), cell_of_row _ _ 2 _ _ _ ((HC.out).2.2 ⟨u1003.heap.size, 25, #[.int .i64 X, .int .i64 Y, .int .i64 Z, .slice A1003 ys.length c1003]⟩ (by simp)), cell_of_row _ _ 3 _ _ _ ((HC.out).2.2 ⟨u1003.heap.size, 25, #[.int .i64 X, .int .i64 Y, .int .i64 Z, .slice A1003 ys.length c1003]⟩ (by simp)), cell_of_row _ _ 0 _ _ _ ((HC.out).2.2 ⟨u1.heap.size, 25, #[.int .i64 W, .int .i64 H, .int .i64 P, .slice A xs.length c]⟩ (by simp)), cell_of_row _ _ 1 _ _ _ ((HC.out).2.2 ⟨u1.heap.size, 25, #[.int .i64 W, .int .i64 H, .int .i64 P, .slice A xs.length c]⟩ (by simp)), cell_of_row _ _ 2 _ _ _ ((HC.out).2.2 ⟨u1.heap.size, 25, #[.int .i64 W, .int .i64 H, .int .i64 P, .slice A xs.length c]⟩ (by simp)), cell_of_row _ _ 3 _ _ _ ((HC.out).2.2 ⟨u1.heap.size, 25, #[.int .i64 W, .int .i64 H, .int .i64 P, .slice A xs.length c]⟩ (by simp))⟩) (fun hHeld => ?_)
      refine' wpAnyH_take (i := 0) (oi := _) (v := _) ?hi23 (by kernel_rfl) (by kernel_rfl) (by kernel_rfl) ?hq23 (Or.inl ⟨?hw23, ?hy23⟩) (by assumption) ?rest23
      case hi23 => (simp only [List.getElem?_toArray, List.getElem?_cons_succ, List.getElem?_cons_zero]; rfl)
      case hq23 => exact fun _ _ _ h => h
      case hw23 => rfl
      case hy23 => (intro wq hSw; (try dsimp only at hSw); go_simp; (try with_reducible rfl))
      (try simp only [Act.put, List.setIfInBounds_toArray, List.set_cons_zero, List.set_cons_succ])
      refine' wpAnyH_take (i := 1) (oi := _) (v := _) ?hi24 (by kernel_rfl) (by kernel_rfl) (by kernel_rfl) ?hq24 (Or.inl ⟨?hw24, ?hy24⟩) (by assumption) ?rest24
      case hi24 => (simp only [List.getElem?_toArray, List.getElem?_cons_succ, List.getElem?_cons_zero]; rfl)
      case hq24 => exact fun _ _ _ h => h
      case hw24 => rfl
      case hy24 => (intro wq hSw; (try dsimp only at hSw); go_simp; (try with_reducible rfl))
      (try simp only [Act.put, List.setIfInBounds_toArray, List.set_cons_zero, List.set_cons_succ])
      refine wpAnyH_ready (rs := [2]) (by kernel_rfl) (by simp) ?_
      refine' AllReadyH.cons (o := _) ?hi25 (fun K hK => ?rest25) AllReadyH.nil
      case hi25 => (simp only [List.getElem?_toArray, List.getElem?_cons_succ, List.getElem?_cons_zero]; rfl)
      go_simp
      go_at_call 8
      refine (ImC0.use HQ A c _ ((HC.out).rds (A := A) (xs := xs) (by simp)) hxc).mono ?_
      rintro e u1010 ⟨A1010, c1010, rfl, hc1010, hr1010, hB1010⟩
      have HD := Lib.hid ((HC.out.call hB1010).add hr1010)
      clear hr1010 hB1010 HC
      have HC := HD
      clear HD
      go_wp2_with fail
      refine hK.out _ _ (by (try dsimp only); exact ⟨cell_of_row _ _ 0 _ _ _ ((HC.out).2.2 ⟨u1003.heap.size, 25, #[.int .i64 X, .int .i64 Y, .int .i64 Z, .slice A1003 ys.length c1003]⟩ (by simp)), cell_of_row _ _ 1 _ _ _ ((HC.out).2.2 ⟨u1003.heap.size, 25, #[.int .i64 X, .int .i64 Y, .int .i64 Z, .slice A1003 ys.length c1003]⟩ (by simp)), cell_of_row _ _ 2 _ _ _ ((HC.out).2.2 ⟨u1003.heap.size, 25, #[.int .i64 X, .int .i64 Y, .int .i64 Z, .slice A1003 ys.length c1003]⟩ (by simp)), cell_of_row _ _ 3 _ _ _ ((HC.out).2.2 ⟨u1003.heap.size, 25, #[.int .i64 X, .int .i64 Y, .int .i64 Z, .slice A1003 ys.length c1003]⟩ (by simp)), cell_of_row _ _ 0 _ _ _ ((HC.out).2.2 ⟨u1.heap.size, 25, #[.int .i64 W, .int .i64 H, .int .i64 P, .slice A xs.length c]⟩ (by simp)), cell_of_row _ _ 1 _ _ _ ((HC.out).2.2 ⟨u1.heap.size, 25, #[.int .i64 W, .int .i64 H, .int .i64 P, .slice A xs.length c]⟩ (by simp)), cell_of_row _ _ 2 _ _ _ ((HC.out).2.2 ⟨u1.heap.size, 25, #[.int .i64 W, .int .i64 H, .int .i64 P, .slice A xs.length c]⟩ (by simp)), cell_of_row _ _ 3 _ _ _ ((HC.out).2.2 ⟨u1.heap.size, 25, #[.int .i64 W, .int .i64 H, .int .i64 P, .slice A xs.length c]⟩ (by simp))⟩) (fun hHeld => ?_)
      clear hK K
      (try simp only [Act.put, List.setIfInBounds_toArray, List.set_cons_zero, List.set_cons_succ])
      refine wpAnyH_ready (rs := [3]) (by kernel_rfl) (by simp) ?_
      refine' AllReadyH.cons (o := _) ?hi26 (fun K hK => ?rest26) AllReadyH.nil
      case hi26 => (simp only [List.getElem?_toArray, List.getElem?_cons_succ, List.getElem?_cons_zero]; rfl)
      go_simp
      go_at_call 7
      refine (lEqIm X Y Z ys A1003 A1010 c1003 c1010 _ ((HC.out).rds (A := A1003) (xs := ys) (by simp)) ((HC.out).rds (A := A1010) (xs := ys) (by simp)) (by omega)).mono ?_
      rintro e u1011 ⟨rfl, hB1011⟩
      have HD := Lib.hid (HC.out.call hB1011)
      clear hB1011 HC
      have HC := HD
      clear HD
      go_wp2_with fail
      refine hK.out _ _ (by (try dsimp only); exact ⟨cell_of_row _ _ 0 _ _ _ ((HC.out).2.2 ⟨u1003.heap.size, 25, #[.int .i64 X, .int .i64 Y, .int .i64 Z, .slice A1003 ys.length c1003]⟩ (by simp)), cell_of_row _ _ 1 _ _ _ ((HC.out).2.2 ⟨u1003.heap.size, 25, #[.int .i64 X, .int .i64 Y, .int .i64 Z, .slice A1003 ys.length c1003]⟩ (by simp)), cell_of_row _ _ 2 _ _ _ ((HC.out).2.2 ⟨u1003.heap.size, 25, #[.int .i64 X, .int .i64 Y, .int .i64 Z, .slice A1003 ys.length c1003]⟩ (by simp)), cell_of_row _ _ 3 _ _ _ ((HC.out).2.2 ⟨u1003.heap.size, 25, #[.int .i64 X, .int .i64 Y, .int .i64 Z, .slice A1003 ys.length c1003]⟩ (by simp)), cell_of_row _ _ 0 _ _ _ ((HC.out).2.2 ⟨u1.heap.size, 25, #[.int .i64 W, .int .i64 H, .int .i64 P, .slice A xs.length c]⟩ (by simp)), cell_of_row _ _ 1 _ _ _ ((HC.out).2.2 ⟨u1.heap.size, 25, #[.int .i64 W, .int .i64 H, .int .i64 P, .slice A xs.length c]⟩ (by simp)), cell_of_row _ _ 2 _ _ _ ((HC.out).2.2 ⟨u1.heap.size, 25, #[.int .i64 W, .int .i64 H, .int .i64 P, .slice A xs.length c]⟩ (by simp)), cell_of_row _ _ 3 _ _ _ ((HC.out).2.2 ⟨u1.heap.size, 25, #[.int .i64 W, .int .i64 H, .int .i64 P, .slice A xs.length c]⟩ (by simp))⟩) (fun hHeld => ?_)
      clear hK K
      (try simp only [Act.put, List.setIfInBounds_toArray, List.set_cons_zero, List.set_cons_succ])
      refine' wpAnyH_take (i := 4) (oi := _) (v := _) ?hi27 (by kernel_rfl) (by kernel_rfl) (by kernel_rfl) ?hq27 (Or.inl ⟨?hw27, ?hy27⟩) (by assumption) ?rest27
      case hi27 => (simp only [List.getElem?_toArray, List.getElem?_cons_succ, List.getElem?_cons_zero]; rfl)
      case hq27 => exact fun _ _ _ h => h
      case hw27 => rfl
      case hy27 => (intro wq hSw; (try dsimp only at hSw); go_simp; (try with_reducible rfl))
      (try simp only [Act.put, List.setIfInBounds_toArray, List.set_cons_zero, List.set_cons_succ])
      refine wpAnyH_done (by kernel_rfl) ?_ _
      have S1012 := HC.out
      clear HC
      go_wp2
      go_ret
      exact ⟨rfl, S1012.1⟩
    · skip
      have hq1 : IntKind.i64.wrap (2 * W) = 2 * W := IntWalk.i64_in _ (by omega)
      have hq2 : IntKind.i64.wrap (2 * H) = 2 * H := IntWalk.i64_in _ (by omega)
      rcases hor with hb | ⟨hb0, hb⟩ | ⟨hb1, hb2, zs, hzs, HB, HK2⟩
      · skip
        have hd1 : decide (16 < 2 * W) = true := decide_eq_true hb
        have S1004 : LSt w (u1003.alloc (.cells #[.int .i64 X, .int .i64 Y, .int .i64 Z, .slice A1003 ys.length c1003] 25)) [(A1003, ys), (A, xs)] [⟨u1003.heap.size, 25, #[.int .i64 X, .int .i64 Y, .int .i64 Z, .slice A1003 ys.length c1003]⟩, ⟨u1.heap.size, 25, #[.int .i64 W, .int .i64 H, .int .i64 P, .slice A xs.length c]⟩] := LSt.box2 S1003 25 #[.int .i64 X, .int .i64 Y, .int .i64 Z, .slice A1003 ys.length c1003] u1003.heap.size (by simp)
        go_upto_region 5 with fail
        clear ml m0 m1 m2 m3
        clear S1003
        generalize u1003.alloc (.cells #[.int .i64 X, .int .i64 Y, .int .i64 Z, .slice A1003 ys.length c1003] 25) = u1005 at *
        have HC := Lib.hid S1004.drew
        clear S1004
        refine wp_region_held_drew (S := (fun w' => w'.cell? ⟨u1003.heap.size, 0, none⟩ = some (.int .i64 X) ∧ w'.cell? ⟨u1003.heap.size, 1, none⟩ = some (.int .i64 Y) ∧ w'.cell? ⟨u1003.heap.size, 2, none⟩ = some (.int .i64 Z) ∧ w'.cell? ⟨u1003.heap.size, 3, none⟩ = some (.slice A1003 ys.length c1003) ∧ w'.cell? ⟨u1.heap.size, 0, none⟩ = some (.int .i64 W) ∧ w'.cell? ⟨u1.heap.size, 1, none⟩ = some (.int .i64 H) ∧ w'.cell? ⟨u1.heap.size, 2, none⟩ = some (.int .i64 P) ∧ w'.cell? ⟨u1.heap.size, 3, none⟩ = some (.slice A xs.length c))) (by kernel_rfl) (by exact ⟨cell_of_row _ _ 0 _ _ _ ((HC.out).2.2 ⟨u1003.heap.size, 25, #[.int .i64 X, .int .i64 Y, .int .i64 Z, .slice A1003 ys.length c1003]⟩ (by simp)), cell_of_row _ _ 1 _ _ _ ((HC.out).2.2 ⟨u1003.heap.size, 25, #[.int .i64 X, .int .i64 Y, .int .i64 Z, .slice A1003 ys.length c1003]⟩ (by simp)), cell_of_row _ _ 2 _ _ _ ((HC.out).2.2 ⟨u1003.heap.size, 25, #[.int .i64 X, .int .i64 Y, .int .i64 Z, .slice A1003 ys.length c1003]⟩ (by simp)), cell_of_row _ _ 3 _ _ _ ((HC.out).2.2 ⟨u1003.heap.size, 25, #[.int .i64 X, .int .i64 Y, .int .i64 Z, .slice A1003 ys.length c1003]⟩ (by simp)), cell_of_row _ _ 0 _ _ _ ((HC.out).2.2 ⟨u1.heap.size, 25, #[.int .i64 W, .int .i64 H, .int .i64 P, .slice A xs.length c]⟩ (by simp)), cell_of_row _ _ 1 _ _ _ ((HC.out).2.2 ⟨u1.heap.size, 25, #[.int .i64 W, .int .i64 H, .int .i64 P, .slice A xs.length c]⟩ (by simp)), cell_of_row _ _ 2 _ _ _ ((HC.out).2.2 ⟨u1.heap.size, 25, #[.int .i64 W, .int .i64 H, .int .i64 P, .slice A xs.length c]⟩ (by simp)), cell_of_row _ _ 3 _ _ _ ((HC.out).2.2 ⟨u1.heap.size, 25, #[.int .i64 W, .int .i64 H, .int .i64 P, .slice A xs.length c]⟩ (by simp))⟩) (fun hHeld => ?_)
        refine' wpAnyH_take (i := 0) (oi := _) (v := _) ?hi28 (by kernel_rfl) (by kernel_rfl) (by kernel_rfl) ?hq28 (Or.inl ⟨?hw28, ?hy28⟩) (by assumption) ?rest28
        case hi28 => (simp only [List.getElem?_toArray, List.getElem?_cons_succ, List.getElem?_cons_zero]; rfl)
        case hq28 => exact fun _ _ _ h => h
        case hw28 => rfl
        case hy28 => (intro wq hSw; (try dsimp only at hSw); go_simp; (try with_reducible rfl))
        (try simp only [Act.put, List.setIfInBounds_toArray, List.set_cons_zero, List.set_cons_succ])
        refine' wpAnyH_take (i := 1) (oi := _) (v := _) ?hi29 (by kernel_rfl) (by kernel_rfl) (by kernel_rfl) ?hq29 (Or.inl ⟨?hw29, ?hy29⟩) (by assumption) ?rest29
        case hi29 => (simp only [List.getElem?_toArray, List.getElem?_cons_succ, List.getElem?_cons_zero]; rfl)
        case hq29 => exact fun _ _ _ h => h
        case hw29 => rfl
        case hy29 => (intro wq hSw; (try dsimp only at hSw); go_simp; (try with_reducible rfl))
        (try simp only [Act.put, List.setIfInBounds_toArray, List.set_cons_zero, List.set_cons_succ])
        refine wpAnyH_ready (rs := [2]) (by kernel_rfl) (by simp) ?_
        refine' AllReadyH.cons (o := _) ?hi30 (fun K hK => ?rest30) AllReadyH.nil
        case hi30 => (simp only [List.getElem?_toArray, List.getElem?_cons_succ, List.getElem?_cons_zero]; rfl)
        go_simp
        go_at_call 8
        refine (ImC0.use HQ A c _ ((HC.out).rds (A := A) (xs := xs) (by simp)) hxc).mono ?_
        rintro e u1006 ⟨A1006, c1006, rfl, hc1006, hr1006, hB1006⟩
        have HD := Lib.hid ((HC.out.call hB1006).add hr1006)
        clear hr1006 hB1006 HC
        have HC := HD
        clear HD
        go_wp2_with fail
        refine hK.out _ _ (by (try dsimp only); exact ⟨cell_of_row _ _ 0 _ _ _ ((HC.out).2.2 ⟨u1003.heap.size, 25, #[.int .i64 X, .int .i64 Y, .int .i64 Z, .slice A1003 ys.length c1003]⟩ (by simp)), cell_of_row _ _ 1 _ _ _ ((HC.out).2.2 ⟨u1003.heap.size, 25, #[.int .i64 X, .int .i64 Y, .int .i64 Z, .slice A1003 ys.length c1003]⟩ (by simp)), cell_of_row _ _ 2 _ _ _ ((HC.out).2.2 ⟨u1003.heap.size, 25, #[.int .i64 X, .int .i64 Y, .int .i64 Z, .slice A1003 ys.length c1003]⟩ (by simp)), cell_of_row _ _ 3 _ _ _ ((HC.out).2.2 ⟨u1003.heap.size, 25, #[.int .i64 X, .int .i64 Y, .int .i64 Z, .slice A1003 ys.length c1003]⟩ (by simp)), cell_of_row _ _ 0 _ _ _ ((HC.out).2.2 ⟨u1.heap.size, 25, #[.int .i64 W, .int .i64 H, .int .i64 P, .slice A xs.length c]⟩ (by simp)), cell_of_row _ _ 1 _ _ _ ((HC.out).2.2 ⟨u1.heap.size, 25, #[.int .i64 W, .int .i64 H, .int .i64 P, .slice A xs.length c]⟩ (by simp)), cell_of_row _ _ 2 _ _ _ ((HC.out).2.2 ⟨u1.heap.size, 25, #[.int .i64 W, .int .i64 H, .int .i64 P, .slice A xs.length c]⟩ (by simp)), cell_of_row _ _ 3 _ _ _ ((HC.out).2.2 ⟨u1.heap.size, 25, #[.int .i64 W, .int .i64 H, .int .i64 P, .slice A xs.length c]⟩ (by simp))⟩) (fun hHeld => ?_)
        clear hK K
        (try simp only [Act.put, List.setIfInBounds_toArray, List.set_cons_zero, List.set_cons_succ])
        refine wpAnyH_ready (rs := [3]) (by kernel_rfl) (by simp) ?_
        refine' AllReadyH.cons (o := _) ?hi31 (fun K hK => ?rest31) AllReadyH.nil
        case hi31 => (simp only [List.getElem?_toArray, List.getElem?_cons_succ, List.getElem?_cons_zero]; rfl)
        go_simp
        go_at_call 7
        refine (lEqIm X Y Z ys A1003 A1006 c1003 c1006 _ ((HC.out).rds (A := A1003) (xs := ys) (by simp)) ((HC.out).rds (A := A1006) (xs := ys) (by simp)) (by omega)).mono ?_
        rintro e u1007 ⟨rfl, hB1007⟩
        have HD := Lib.hid (HC.out.call hB1007)
        clear hB1007 HC
        have HC := HD
        clear HD
        go_wp2_with fail
        refine hK.out _ _ (by (try dsimp only); exact ⟨cell_of_row _ _ 0 _ _ _ ((HC.out).2.2 ⟨u1003.heap.size, 25, #[.int .i64 X, .int .i64 Y, .int .i64 Z, .slice A1003 ys.length c1003]⟩ (by simp)), cell_of_row _ _ 1 _ _ _ ((HC.out).2.2 ⟨u1003.heap.size, 25, #[.int .i64 X, .int .i64 Y, .int .i64 Z, .slice A1003 ys.length c1003]⟩ (by simp)), cell_of_row _ _ 2 _ _ _ ((HC.out).2.2 ⟨u1003.heap.size, 25, #[.int .i64 X, .int .i64 Y, .int .i64 Z, .slice A1003 ys.length c1003]⟩ (by simp)), cell_of_row _ _ 3 _ _ _ ((HC.out).2.2 ⟨u1003.heap.size, 25, #[.int .i64 X, .int .i64 Y, .int .i64 Z, .slice A1003 ys.length c1003]⟩ (by simp)), cell_of_row _ _ 0 _ _ _ ((HC.out).2.2 ⟨u1.heap.size, 25, #[.int .i64 W, .int .i64 H, .int .i64 P, .slice A xs.length c]⟩ (by simp)), cell_of_row _ _ 1 _ _ _ ((HC.out).2.2 ⟨u1.heap.size, 25, #[.int .i64 W, .int .i64 H, .int .i64 P, .slice A xs.length c]⟩ (by simp)), cell_of_row _ _ 2 _ _ _ ((HC.out).2.2 ⟨u1.heap.size, 25, #[.int .i64 W, .int .i64 H, .int .i64 P, .slice A xs.length c]⟩ (by simp)), cell_of_row _ _ 3 _ _ _ ((HC.out).2.2 ⟨u1.heap.size, 25, #[.int .i64 W, .int .i64 H, .int .i64 P, .slice A xs.length c]⟩ (by simp))⟩) (fun hHeld => ?_)
        clear hK K
        (try simp only [Act.put, List.setIfInBounds_toArray, List.set_cons_zero, List.set_cons_succ])
        refine' wpAnyH_take (i := 4) (oi := _) (v := _) ?hi32 (by kernel_rfl) (by kernel_rfl) (by kernel_rfl) ?hq32 (Or.inl ⟨?hw32, ?hy32⟩) (by assumption) ?rest32
        case hi32 => (simp only [List.getElem?_toArray, List.getElem?_cons_succ, List.getElem?_cons_zero]; rfl)
        case hq32 => exact fun _ _ _ h => h
        case hw32 => rfl
        case hy32 => (intro wq hSw; (try dsimp only at hSw); go_simp; (try with_reducible rfl))
        (try simp only [Act.put, List.setIfInBounds_toArray, List.set_cons_zero, List.set_cons_succ])
        refine' wpAnyH_take (i := 5) (oi := _) (v := _) ?hi33 (by kernel_rfl) (by kernel_rfl) (by kernel_rfl) ?hq33 (Or.inl ⟨?hw33, ?hy33⟩) (by assumption) ?rest33
        case hi33 => (simp only [List.getElem?_toArray, List.getElem?_cons_succ, List.getElem?_cons_zero]; rfl)
        case hq33 => exact fun _ _ _ h => h
        case hw33 => rfl
        case hy33 => (intro wq hSw; (try dsimp only at hSw); go_simp; (try with_reducible rfl))
        (try simp only [Act.put, List.setIfInBounds_toArray, List.set_cons_zero, List.set_cons_succ])
        refine' wpAnyH_take (i := 6) (oi := _) (v := _) ?hi34 (by kernel_rfl) (by kernel_rfl) (by kernel_rfl) ?hq34 (Or.inl ⟨?hw34, ?hy34⟩) (by assumption) ?rest34
        case hi34 => (simp only [List.getElem?_toArray, List.getElem?_cons_succ, List.getElem?_cons_zero]; rfl)
        case hq34 => exact fun _ _ _ h => h
        case hw34 => rfl
        case hy34 => (intro wq hSw; (try dsimp only at hSw); go_simp; (try with_reducible rfl))
        (try simp only [Act.put, List.setIfInBounds_toArray, List.set_cons_zero, List.set_cons_succ])
        refine wpAnyH_ready (rs := [7]) (by kernel_rfl) (by simp) ?_
        refine' AllReadyH.cons (o := _) ?hi35 (fun K hK => ?rest35) AllReadyH.nil
        case hi35 => (simp only [List.getElem?_toArray, List.getElem?_cons_succ, List.getElem?_cons_zero]; rfl)
        go_simp
        go_at_call 9
        refine (VldC.use HV A c _ ((HC.out).rds (A := A) (xs := xs) (by simp))).mono ?_
        rintro e u1008 ⟨rfl, hB1008⟩
        have HD := Lib.hid (HC.out.call hB1008)
        clear hB1008 HC
        have HC := HD
        clear HD
        go_wp2_with fail
        refine hK.out _ _ (by (try dsimp only); exact ⟨cell_of_row _ _ 0 _ _ _ ((HC.out).2.2 ⟨u1003.heap.size, 25, #[.int .i64 X, .int .i64 Y, .int .i64 Z, .slice A1003 ys.length c1003]⟩ (by simp)), cell_of_row _ _ 1 _ _ _ ((HC.out).2.2 ⟨u1003.heap.size, 25, #[.int .i64 X, .int .i64 Y, .int .i64 Z, .slice A1003 ys.length c1003]⟩ (by simp)), cell_of_row _ _ 2 _ _ _ ((HC.out).2.2 ⟨u1003.heap.size, 25, #[.int .i64 X, .int .i64 Y, .int .i64 Z, .slice A1003 ys.length c1003]⟩ (by simp)), cell_of_row _ _ 3 _ _ _ ((HC.out).2.2 ⟨u1003.heap.size, 25, #[.int .i64 X, .int .i64 Y, .int .i64 Z, .slice A1003 ys.length c1003]⟩ (by simp)), cell_of_row _ _ 0 _ _ _ ((HC.out).2.2 ⟨u1.heap.size, 25, #[.int .i64 W, .int .i64 H, .int .i64 P, .slice A xs.length c]⟩ (by simp)), cell_of_row _ _ 1 _ _ _ ((HC.out).2.2 ⟨u1.heap.size, 25, #[.int .i64 W, .int .i64 H, .int .i64 P, .slice A xs.length c]⟩ (by simp)), cell_of_row _ _ 2 _ _ _ ((HC.out).2.2 ⟨u1.heap.size, 25, #[.int .i64 W, .int .i64 H, .int .i64 P, .slice A xs.length c]⟩ (by simp)), cell_of_row _ _ 3 _ _ _ ((HC.out).2.2 ⟨u1.heap.size, 25, #[.int .i64 W, .int .i64 H, .int .i64 P, .slice A xs.length c]⟩ (by simp))⟩) (fun hHeld => ?_)
        clear hK K
        (try simp only [Act.put, List.setIfInBounds_toArray, List.set_cons_zero, List.set_cons_succ])
        refine' wpAnyH_take (i := 8) (oi := _) (v := _) ?hi36 (by kernel_rfl) (by kernel_rfl) (by kernel_rfl) ?hq36 (Or.inl ⟨?hw36, ?hy36⟩) (by assumption) ?rest36
        case hi36 => (simp only [List.getElem?_toArray, List.getElem?_cons_succ, List.getElem?_cons_zero]; rfl)
        case hq36 => exact fun _ _ _ h => h
        case hw36 => rfl
        case hy36 => (intro wq hSw; (try dsimp only at hSw); go_simp; (try with_reducible rfl))
        (try simp only [Act.put, List.setIfInBounds_toArray, List.set_cons_zero, List.set_cons_succ])
        refine' wpAnyH_take (i := 9) (oi := _) (v := _) ?hi37 (by kernel_rfl) (by kernel_rfl) (by kernel_rfl) ?hq37 (Or.inl ⟨?hw37, ?hy37⟩) (by assumption) ?rest37
        case hi37 => (simp only [List.getElem?_toArray, List.getElem?_cons_succ, List.getElem?_cons_zero]; rfl)
        case hq37 => exact fun _ _ _ h => h
        case hw37 => rfl
        case hy37 => (intro wq hSw; (try dsimp only at hSw); go_simp; (try with_reducible rfl))
        (try simp only [Act.put, List.setIfInBounds_toArray, List.set_cons_zero, List.set_cons_succ])
        refine' wpAnyH_take (i := 10) (oi := _) (v := _) ?hi38 (by kernel_rfl) (by kernel_rfl) (by kernel_rfl) ?hq38 (Or.inl ⟨?hw38, ?hy38⟩) (by assumption) ?rest38
        case hi38 => (simp only [List.getElem?_toArray, List.getElem?_cons_succ, List.getElem?_cons_zero]; rfl)
        case hq38 => exact fun _ _ _ h => h
        case hw38 => rfl
        case hy38 => (intro wq hSw; (try dsimp only at hSw); go_simp; (try with_reducible rfl))
        (try simp only [Act.put, List.setIfInBounds_toArray, List.set_cons_zero, List.set_cons_succ])
        refine' wpAnyH_take (i := 11) (oi := _) (v := _) ?hi39 (by kernel_rfl) (by kernel_rfl) (by kernel_rfl) ?hq39 (Or.inl ⟨?hw39, ?hy39⟩) (by assumption) ?rest39
        case hi39 => (simp only [List.getElem?_toArray, List.getElem?_cons_succ, List.getElem?_cons_zero]; rfl)
        case hq39 => exact fun _ _ _ h => h
        case hw39 => rfl
        case hy39 => (intro wq hSw; (try dsimp only at hSw); go_simp; (try with_reducible rfl))
        (try simp only [Act.put, List.setIfInBounds_toArray, List.set_cons_zero, List.set_cons_succ])
        refine' wpAnyH_take (i := 12) (oi := _) (v := _) ?hi40 (by kernel_rfl) (by kernel_rfl) (by kernel_rfl) ?hq40 (Or.inl ⟨?hw40, ?hy40⟩) (by assumption) ?rest40
        case hi40 => (simp only [List.getElem?_toArray, List.getElem?_cons_succ, List.getElem?_cons_zero]; rfl)
        case hq40 => exact fun _ _ _ h => h
        case hw40 => rfl
        case hy40 => (intro wq hSw; (try dsimp only at hSw); go_simp; (try with_reducible rfl))
        (try simp only [Act.put, List.setIfInBounds_toArray, List.set_cons_zero, List.set_cons_succ])
        refine' wpAnyH_take (i := 13) (oi := _) (v := _) ?hi41 (by kernel_rfl) (by kernel_rfl) (by kernel_rfl) ?hq41 (Or.inl ⟨?hw41, ?hy41⟩) (by assumption) ?rest41
        case hi41 => (simp only [List.getElem?_toArray, List.getElem?_cons_succ, List.getElem?_cons_zero]; rfl)
        case hq41 => exact fun _ _ _ h => h
        case hw41 => rfl
        case hy41 => (intro wq hSw; (try dsimp only at hSw); go_simp; (try with_reducible rfl))
        (try simp only [Act.put, List.setIfInBounds_toArray, List.set_cons_zero, List.set_cons_succ])
        refine' wpAnyH_take (i := 14) (oi := _) (v := _) ?hi42 (by kernel_rfl) (by kernel_rfl) (by kernel_rfl) ?hq42 (Or.inl ⟨?hw42, ?hy42⟩) (by assumption) ?rest42
        case hi42 => (simp only [List.getElem?_toArray, List.getElem?_cons_succ, List.getElem?_cons_zero]; rfl)
        case hq42 => exact fun _ _ _ h => h
        case hw42 => rfl
        case hy42 => (intro wq hSw; (try dsimp only at hSw); go_simp; (try with_reducible rfl))
        (try simp only [Act.put, List.setIfInBounds_toArray, List.set_cons_zero, List.set_cons_succ])
        refine' wpAnyH_take (i := 15) (oi := _) (v := _) ?hi43 (by kernel_rfl) (by kernel_rfl) (by kernel_rfl) ?hq43 (Or.inl ⟨?hw43, ?hy43⟩) (by assumption) ?rest43
        case hi43 => (simp only [List.getElem?_toArray, List.getElem?_cons_succ, List.getElem?_cons_zero]; rfl)
        case hq43 => exact fun _ _ _ h => h
        case hw43 => rfl
        case hy43 => (intro wq hSw; (try dsimp only at hSw); go_simp; (try with_reducible rfl))
        (try simp only [Act.put, List.setIfInBounds_toArray, List.set_cons_zero, List.set_cons_succ])
        refine' wpAnyH_take (i := 16) (oi := _) (v := _) ?hi44 (by kernel_rfl) (by kernel_rfl) (by kernel_rfl) ?hq44 (Or.inl ⟨?hw44, ?hy44⟩) (by assumption) ?rest44
        case hi44 => (simp only [List.getElem?_toArray, List.getElem?_cons_succ, List.getElem?_cons_zero]; rfl)
        case hq44 => exact fun _ _ _ h => h
        case hw44 => rfl
        case hy44 => (intro wq hSw; (try dsimp only at hSw); go_simp; (try with_reducible rfl))
        (try simp only [Act.put, List.setIfInBounds_toArray, List.set_cons_zero, List.set_cons_succ])
        refine' wpAnyH_take (i := 17) (oi := _) (v := undef) ?hi45 (by kernel_rfl) (by kernel_rfl) (by kernel_rfl) ?hq45 (Or.inr ?hw45) (by assumption) ?rest45
        case hi45 => (simp only [List.getElem?_toArray, List.getElem?_cons_succ, List.getElem?_cons_zero]; rfl)
        case hq45 => exact fun _ _ _ h => h
        case hw45 => exact ⟨rfl, rfl⟩
        (try simp only [Act.put, List.setIfInBounds_toArray, List.set_cons_zero, List.set_cons_succ])
        refine' wpAnyH_take (i := 18) (oi := _) (v := undef) ?hi46 (by kernel_rfl) (by kernel_rfl) (by kernel_rfl) ?hq46 (Or.inr ?hw46) (by assumption) ?rest46
        case hi46 => (simp only [List.getElem?_toArray, List.getElem?_cons_succ, List.getElem?_cons_zero]; rfl)
        case hq46 => exact fun _ _ _ h => h
        case hw46 => exact ⟨rfl, rfl⟩
        (try simp only [Act.put, List.setIfInBounds_toArray, List.set_cons_zero, List.set_cons_succ])
        refine' wpAnyH_take (i := 19) (oi := _) (v := undef) ?hi47 (by kernel_rfl) (by kernel_rfl) (by kernel_rfl) ?hq47 (Or.inr ?hw47) (by assumption) ?rest47
        case hi47 => (simp only [List.getElem?_toArray, List.getElem?_cons_succ, List.getElem?_cons_zero]; rfl)
        case hq47 => exact fun _ _ _ h => h
        case hw47 => exact ⟨rfl, rfl⟩
        (try simp only [Act.put, List.setIfInBounds_toArray, List.set_cons_zero, List.set_cons_succ])
        refine' wpAnyH_take (i := 20) (oi := _) (v := undef) ?hi48 (by kernel_rfl) (by kernel_rfl) (by kernel_rfl) ?hq48 (Or.inr ?hw48) (by assumption) ?rest48
        case hi48 => (simp only [List.getElem?_toArray, List.getElem?_cons_succ, List.getElem?_cons_zero]; rfl)
        case hq48 => exact fun _ _ _ h => h
        case hw48 => exact ⟨rfl, rfl⟩
        (try simp only [Act.put, List.setIfInBounds_toArray, List.set_cons_zero, List.set_cons_succ])
        refine' wpAnyH_take (i := 21) (oi := _) (v := _) ?hi49 (by kernel_rfl) (by kernel_rfl) (by kernel_rfl) ?hq49 (Or.inl ⟨?hw49, ?hy49⟩) (by assumption) ?rest49
        case hi49 => (simp only [List.getElem?_toArray, List.getElem?_cons_succ, List.getElem?_cons_zero]; rfl)
        case hq49 => exact fun _ _ _ h => h
        case hw49 => rfl
        case hy49 => (intro wq hSw; (try dsimp only at hSw); go_simp; (try with_reducible rfl))
        (try simp only [Act.put, List.setIfInBounds_toArray, List.set_cons_zero, List.set_cons_succ])
        refine wpAnyH_done (by kernel_rfl) ?_ _
        have S1009 := HC.out
        clear HC
        go_upto_region 6 with fail
        have HC := Lib.hid S1009.drew
        clear S1009
        refine wp_region_held_drew (S := (fun w' => w'.cell? ⟨u1003.heap.size, 0, none⟩ = some (.int .i64 X) ∧ w'.cell? ⟨u1003.heap.size, 1, none⟩ = some (.int .i64 Y) ∧ w'.cell? ⟨u1003.heap.size, 2, none⟩ = some (.int .i64 Z) ∧ w'.cell? ⟨u1003.heap.size, 3, none⟩ = some (.slice A1003 ys.length c1003) ∧ w'.cell? ⟨u1.heap.size, 0, none⟩ = some (.int .i64 W) ∧ w'.cell? ⟨u1.heap.size, 1, none⟩ = some (.int .i64 H) ∧ w'.cell? ⟨u1.heap.size, 2, none⟩ = some (.int .i64 P) ∧ w'.cell? ⟨u1.heap.size, 3, none⟩ = some (.slice A xs.length c))) (by kernel_rfl) (by exact ⟨cell_of_row _ _ 0 _ _ _ ((HC.out).2.2 ⟨u1003.heap.size, 25, #[.int .i64 X, .int .i64 Y, .int .i64 Z, .slice A1003 ys.length c1003]⟩ (by simp)), cell_of_row _ _ 1 _ _ _ ((HC.out).2.2 ⟨u1003.heap.size, 25, #[.int .i64 X, .int .i64 Y, .int .i64 Z, .slice A1003 ys.length c1003]⟩ (by simp)), cell_of_row _ _ 2 _ _ _ ((HC.out).2.2 ⟨u1003.heap.size, 25, #[.int .i64 X, .int .i64 Y, .int .i64 Z, .slice A1003 ys.length c1003]⟩ (by simp)), cell_of_row _ _ 3 _ _ _ ((HC.out).2.2 ⟨u1003.heap.size, 25, #[.int .i64 X, .int .i64 Y, .int .i64 Z, .slice A1003 ys.length c1003]⟩ (by simp)), cell_of_row _ _ 0 _ _ _ ((HC.out).2.2 ⟨u1.heap.size, 25, #[.int .i64 W, .int .i64 H, .int .i64 P, .slice A xs.length c]⟩ (by simp)), cell_of_row _ _ 1 _ _ _ ((HC.out).2.2 ⟨u1.heap.size, 25, #[.int .i64 W, .int .i64 H, .int .i64 P, .slice A xs.length c]⟩ (by simp)), cell_of_row _ _ 2 _ _ _ ((HC.out).2.2 ⟨u1.heap.size, 25, #[.int .i64 W, .int .i64 H, .int .i64 P, .slice A xs.length c]⟩ (by simp)), cell_of_row _ _ 3 _ _ _ ((HC.out).2.2 ⟨u1.heap.size, 25, #[.int .i64 W, .int .i64 H, .int .i64 P, .slice A xs.length c]⟩ (by simp))⟩) (fun hHeld => ?_)
        refine' wpAnyH_take (i := 0) (oi := _) (v := _) ?hi50 (by kernel_rfl) (by kernel_rfl) (by kernel_rfl) ?hq50 (Or.inl ⟨?hw50, ?hy50⟩) (by assumption) ?rest50
        case hi50 => (simp only [List.getElem?_toArray, List.getElem?_cons_succ, List.getElem?_cons_zero]; rfl)
        case hq50 => exact fun _ _ _ h => h
        case hw50 => rfl
        case hy50 => (intro wq hSw; (try dsimp only at hSw); go_simp; (try with_reducible rfl))
        (try simp only [Act.put, List.setIfInBounds_toArray, List.set_cons_zero, List.set_cons_succ])
        refine' wpAnyH_take (i := 1) (oi := _) (v := _) ?hi51 (by kernel_rfl) (by kernel_rfl) (by kernel_rfl) ?hq51 (Or.inl ⟨?hw51, ?hy51⟩) (by assumption) ?rest51
        case hi51 => (simp only [List.getElem?_toArray, List.getElem?_cons_succ, List.getElem?_cons_zero]; rfl)
        case hq51 => exact fun _ _ _ h => h
        case hw51 => rfl
        case hy51 => (intro wq hSw; (try dsimp only at hSw); go_simp; (try with_reducible rfl))
        (try simp only [Act.put, List.setIfInBounds_toArray, List.set_cons_zero, List.set_cons_succ])
        refine wpAnyH_ready (rs := [2]) (by kernel_rfl) (by simp) ?_
        refine' AllReadyH.cons (o := _) ?hi52 (fun K hK => ?rest52) AllReadyH.nil
        case hi52 => (simp only [List.getElem?_toArray, List.getElem?_cons_succ, List.getElem?_cons_zero]; rfl)
        go_simp
        go_at_call 8
        refine (ImC0.use HQ A c _ ((HC.out).rds (A := A) (xs := xs) (by simp)) hxc).mono ?_
        rintro e u1010 ⟨A1010, c1010, rfl, hc1010, hr1010, hB1010⟩
        have HD := Lib.hid ((HC.out.call hB1010).add hr1010)
        clear hr1010 hB1010 HC
        have HC := HD
        clear HD
        go_wp2_with fail
        refine hK.out _ _ (by (try dsimp only); exact ⟨cell_of_row _ _ 0 _ _ _ ((HC.out).2.2 ⟨u1003.heap.size, 25, #[.int .i64 X, .int .i64 Y, .int .i64 Z, .slice A1003 ys.length c1003]⟩ (by simp)), cell_of_row _ _ 1 _ _ _ ((HC.out).2.2 ⟨u1003.heap.size, 25, #[.int .i64 X, .int .i64 Y, .int .i64 Z, .slice A1003 ys.length c1003]⟩ (by simp)), cell_of_row _ _ 2 _ _ _ ((HC.out).2.2 ⟨u1003.heap.size, 25, #[.int .i64 X, .int .i64 Y, .int .i64 Z, .slice A1003 ys.length c1003]⟩ (by simp)), cell_of_row _ _ 3 _ _ _ ((HC.out).2.2 ⟨u1003.heap.size, 25, #[.int .i64 X, .int .i64 Y, .int .i64 Z, .slice A1003 ys.length c1003]⟩ (by simp)), cell_of_row _ _ 0 _ _ _ ((HC.out).2.2 ⟨u1.heap.size, 25, #[.int .i64 W, .int .i64 H, .int .i64 P, .slice A xs.length c]⟩ (by simp)), cell_of_row _ _ 1 _ _ _ ((HC.out).2.2 ⟨u1.heap.size, 25, #[.int .i64 W, .int .i64 H, .int .i64 P, .slice A xs.length c]⟩ (by simp)), cell_of_row _ _ 2 _ _ _ ((HC.out).2.2 ⟨u1.heap.size, 25, #[.int .i64 W, .int .i64 H, .int .i64 P, .slice A xs.length c]⟩ (by simp)), cell_of_row _ _ 3 _ _ _ ((HC.out).2.2 ⟨u1.heap.size, 25, #[.int .i64 W, .int .i64 H, .int .i64 P, .slice A xs.length c]⟩ (by simp))⟩) (fun hHeld => ?_)
        clear hK K
        (try simp only [Act.put, List.setIfInBounds_toArray, List.set_cons_zero, List.set_cons_succ])
        refine wpAnyH_ready (rs := [3]) (by kernel_rfl) (by simp) ?_
        refine' AllReadyH.cons (o := _) ?hi53 (fun K hK => ?rest53) AllReadyH.nil
        case hi53 => (simp only [List.getElem?_toArray, List.getElem?_cons_succ, List.getElem?_cons_zero]; rfl)
        go_simp
        go_at_call 7
        refine (lEqIm X Y Z ys A1003 A1010 c1003 c1010 _ ((HC.out).rds (A := A1003) (xs := ys) (by simp)) ((HC.out).rds (A := A1010) (xs := ys) (by simp)) (by omega)).mono ?_
        rintro e u1011 ⟨rfl, hB1011⟩
        have HD := Lib.hid (HC.out.call hB1011)
        clear hB1011 HC
        have HC := HD
        clear HD
        go_wp2_with fail
        refine hK.out _ _ (by (try dsimp only); exact ⟨cell_of_row _ _ 0 _ _ _ ((HC.out).2.2 ⟨u1003.heap.size, 25, #[.int .i64 X, .int .i64 Y, .int .i64 Z, .slice A1003 ys.length c1003]⟩ (by simp)), cell_of_row _ _ 1 _ _ _ ((HC.out).2.2 ⟨u1003.heap.size, 25, #[.int .i64 X, .int .i64 Y, .int .i64 Z, .slice A1003 ys.length c1003]⟩ (by simp)), cell_of_row _ _ 2 _ _ _ ((HC.out).2.2 ⟨u1003.heap.size, 25, #[.int .i64 X, .int .i64 Y, .int .i64 Z, .slice A1003 ys.length c1003]⟩ (by simp)), cell_of_row _ _ 3 _ _ _ ((HC.out).2.2 ⟨u1003.heap.size, 25, #[.int .i64 X, .int .i64 Y, .int .i64 Z, .slice A1003 ys.length c1003]⟩ (by simp)), cell_of_row _ _ 0 _ _ _ ((HC.out).2.2 ⟨u1.heap.size, 25, #[.int .i64 W, .int .i64 H, .int .i64 P, .slice A xs.length c]⟩ (by simp)), cell_of_row _ _ 1 _ _ _ ((HC.out).2.2 ⟨u1.heap.size, 25, #[.int .i64 W, .int .i64 H, .int .i64 P, .slice A xs.length c]⟩ (by simp)), cell_of_row _ _ 2 _ _ _ ((HC.out).2.2 ⟨u1.heap.size, 25, #[.int .i64 W, .int .i64 H, .int .i64 P, .slice A xs.length c]⟩ (by simp)), cell_of_row _ _ 3 _ _ _ ((HC.out).2.2 ⟨u1.heap.size, 25, #[.int .i64 W, .int .i64 H, .int .i64 P, .slice A xs.length c]⟩ (by simp))⟩) (fun hHeld => ?_)
        clear hK K
        (try simp only [Act.put, List.setIfInBounds_toArray, List.set_cons_zero, List.set_cons_succ])
        refine' wpAnyH_take (i := 4) (oi := _) (v := _) ?hi54 (by kernel_rfl) (by kernel_rfl) (by kernel_rfl) ?hq54 (Or.inl ⟨?hw54, ?hy54⟩) (by assumption) ?rest54
        case hi54 => (simp only [List.getElem?_toArray, List.getElem?_cons_succ, List.getElem?_cons_zero]; rfl)
        case hq54 => exact fun _ _ _ h => h
        case hw54 => rfl
        case hy54 => (intro wq hSw; (try dsimp only at hSw); go_simp; (try with_reducible rfl))
        (try simp only [Act.put, List.setIfInBounds_toArray, List.set_cons_zero, List.set_cons_succ])
        refine wpAnyH_done (by kernel_rfl) ?_ _
        have S1012 := HC.out
        clear HC
        go_wp2
        go_ret
        exact ⟨rfl, S1012.1⟩
      · skip
        have hb0' : ¬ 16 < 2 * W := by omega
        have hd1 : decide (16 < 2 * W) = false := decide_eq_false hb0'
        have hd2 : decide (16 < 2 * H) = true := decide_eq_true hb
        have S1004 : LSt w (u1003.alloc (.cells #[.int .i64 X, .int .i64 Y, .int .i64 Z, .slice A1003 ys.length c1003] 25)) [(A1003, ys), (A, xs)] [⟨u1003.heap.size, 25, #[.int .i64 X, .int .i64 Y, .int .i64 Z, .slice A1003 ys.length c1003]⟩, ⟨u1.heap.size, 25, #[.int .i64 W, .int .i64 H, .int .i64 P, .slice A xs.length c]⟩] := LSt.box2 S1003 25 #[.int .i64 X, .int .i64 Y, .int .i64 Z, .slice A1003 ys.length c1003] u1003.heap.size (by simp)
        go_upto_region 5 with fail
        clear ml m0 m1 m2 m3
        clear S1003
        generalize u1003.alloc (.cells #[.int .i64 X, .int .i64 Y, .int .i64 Z, .slice A1003 ys.length c1003] 25) = u1005 at *
        have HC := Lib.hid S1004.drew
        clear S1004
        refine wp_region_held_drew (S := (fun w' => w'.cell? ⟨u1003.heap.size, 0, none⟩ = some (.int .i64 X) ∧ w'.cell? ⟨u1003.heap.size, 1, none⟩ = some (.int .i64 Y) ∧ w'.cell? ⟨u1003.heap.size, 2, none⟩ = some (.int .i64 Z) ∧ w'.cell? ⟨u1003.heap.size, 3, none⟩ = some (.slice A1003 ys.length c1003) ∧ w'.cell? ⟨u1.heap.size, 0, none⟩ = some (.int .i64 W) ∧ w'.cell? ⟨u1.heap.size, 1, none⟩ = some (.int .i64 H) ∧ w'.cell? ⟨u1.heap.size, 2, none⟩ = some (.int .i64 P) ∧ w'.cell? ⟨u1.heap.size, 3, none⟩ = some (.slice A xs.length c))) (by kernel_rfl) (by exact ⟨cell_of_row _ _ 0 _ _ _ ((HC.out).2.2 ⟨u1003.heap.size, 25, #[.int .i64 X, .int .i64 Y, .int .i64 Z, .slice A1003 ys.length c1003]⟩ (by simp)), cell_of_row _ _ 1 _ _ _ ((HC.out).2.2 ⟨u1003.heap.size, 25, #[.int .i64 X, .int .i64 Y, .int .i64 Z, .slice A1003 ys.length c1003]⟩ (by simp)), cell_of_row _ _ 2 _ _ _ ((HC.out).2.2 ⟨u1003.heap.size, 25, #[.int .i64 X, .int .i64 Y, .int .i64 Z, .slice A1003 ys.length c1003]⟩ (by simp)), cell_of_row _ _ 3 _ _ _ ((HC.out).2.2 ⟨u1003.heap.size, 25, #[.int .i64 X, .int .i64 Y, .int .i64 Z, .slice A1003 ys.length c1003]⟩ (by simp)), cell_of_row _ _ 0 _ _ _ ((HC.out).2.2 ⟨u1.heap.size, 25, #[.int .i64 W, .int .i64 H, .int .i64 P, .slice A xs.length c]⟩ (by simp)), cell_of_row _ _ 1 _ _ _ ((HC.out).2.2 ⟨u1.heap.size, 25, #[.int .i64 W, .int .i64 H, .int .i64 P, .slice A xs.length c]⟩ (by simp)), cell_of_row _ _ 2 _ _ _ ((HC.out).2.2 ⟨u1.heap.size, 25, #[.int .i64 W, .int .i64 H, .int .i64 P, .slice A xs.length c]⟩ (by simp)), cell_of_row _ _ 3 _ _ _ ((HC.out).2.2 ⟨u1.heap.size, 25, #[.int .i64 W, .int .i64 H, .int .i64 P, .slice A xs.length c]⟩ (by simp))⟩) (fun hHeld => ?_)
        refine' wpAnyH_take (i := 0) (oi := _) (v := _) ?hi55 (by kernel_rfl) (by kernel_rfl) (by kernel_rfl) ?hq55 (Or.inl ⟨?hw55, ?hy55⟩) (by assumption) ?rest55
        case hi55 => (simp only [List.getElem?_toArray, List.getElem?_cons_succ, List.getElem?_cons_zero]; rfl)
        case hq55 => exact fun _ _ _ h => h
        case hw55 => rfl
        case hy55 => (intro wq hSw; (try dsimp only at hSw); go_simp; (try with_reducible rfl))
        (try simp only [Act.put, List.setIfInBounds_toArray, List.set_cons_zero, List.set_cons_succ])
        refine' wpAnyH_take (i := 1) (oi := _) (v := _) ?hi56 (by kernel_rfl) (by kernel_rfl) (by kernel_rfl) ?hq56 (Or.inl ⟨?hw56, ?hy56⟩) (by assumption) ?rest56
        case hi56 => (simp only [List.getElem?_toArray, List.getElem?_cons_succ, List.getElem?_cons_zero]; rfl)
        case hq56 => exact fun _ _ _ h => h
        case hw56 => rfl
        case hy56 => (intro wq hSw; (try dsimp only at hSw); go_simp; (try with_reducible rfl))
        (try simp only [Act.put, List.setIfInBounds_toArray, List.set_cons_zero, List.set_cons_succ])
        refine wpAnyH_ready (rs := [2]) (by kernel_rfl) (by simp) ?_
        refine' AllReadyH.cons (o := _) ?hi57 (fun K hK => ?rest57) AllReadyH.nil
        case hi57 => (simp only [List.getElem?_toArray, List.getElem?_cons_succ, List.getElem?_cons_zero]; rfl)
        go_simp
        go_at_call 8
        refine (ImC0.use HQ A c _ ((HC.out).rds (A := A) (xs := xs) (by simp)) hxc).mono ?_
        rintro e u1006 ⟨A1006, c1006, rfl, hc1006, hr1006, hB1006⟩
        have HD := Lib.hid ((HC.out.call hB1006).add hr1006)
        clear hr1006 hB1006 HC
        have HC := HD
        clear HD
        go_wp2_with fail
        refine hK.out _ _ (by (try dsimp only); exact ⟨cell_of_row _ _ 0 _ _ _ ((HC.out).2.2 ⟨u1003.heap.size, 25, #[.int .i64 X, .int .i64 Y, .int .i64 Z, .slice A1003 ys.length c1003]⟩ (by simp)), cell_of_row _ _ 1 _ _ _ ((HC.out).2.2 ⟨u1003.heap.size, 25, #[.int .i64 X, .int .i64 Y, .int .i64 Z, .slice A1003 ys.length c1003]⟩ (by simp)), cell_of_row _ _ 2 _ _ _ ((HC.out).2.2 ⟨u1003.heap.size, 25, #[.int .i64 X, .int .i64 Y, .int .i64 Z, .slice A1003 ys.length c1003]⟩ (by simp)), cell_of_row _ _ 3 _ _ _ ((HC.out).2.2 ⟨u1003.heap.size, 25, #[.int .i64 X, .int .i64 Y, .int .i64 Z, .slice A1003 ys.length c1003]⟩ (by simp)), cell_of_row _ _ 0 _ _ _ ((HC.out).2.2 ⟨u1.heap.size, 25, #[.int .i64 W, .int .i64 H, .int .i64 P, .slice A xs.length c]⟩ (by simp)), cell_of_row _ _ 1 _ _ _ ((HC.out).2.2 ⟨u1.heap.size, 25, #[.int .i64 W, .int .i64 H, .int .i64 P, .slice A xs.length c]⟩ (by simp)), cell_of_row _ _ 2 _ _ _ ((HC.out).2.2 ⟨u1.heap.size, 25, #[.int .i64 W, .int .i64 H, .int .i64 P, .slice A xs.length c]⟩ (by simp)), cell_of_row _ _ 3 _ _ _ ((HC.out).2.2 ⟨u1.heap.size, 25, #[.int .i64 W, .int .i64 H, .int .i64 P, .slice A xs.length c]⟩ (by simp))⟩) (fun hHeld => ?_)
        clear hK K
        (try simp only [Act.put, List.setIfInBounds_toArray, List.set_cons_zero, List.set_cons_succ])
        refine wpAnyH_ready (rs := [3]) (by kernel_rfl) (by simp) ?_
        refine' AllReadyH.cons (o := _) ?hi58 (fun K hK => ?rest58) AllReadyH.nil
        case hi58 => (simp only [List.getElem?_toArray, List.getElem?_cons_succ, List.getElem?_cons_zero]; rfl)
        go_simp
        go_at_call 7
        refine (lEqIm X Y Z ys A1003 A1006 c1003 c1006 _ ((HC.out).rds (A := A1003) (xs := ys) (by simp)) ((HC.out).rds (A := A1006) (xs := ys) (by simp)) (by omega)).mono ?_
        rintro e u1007 ⟨rfl, hB1007⟩
        have HD := Lib.hid (HC.out.call hB1007)
        clear hB1007 HC
        have HC := HD
        clear HD
        go_wp2_with fail
        refine hK.out _ _ (by (try dsimp only); exact ⟨cell_of_row _ _ 0 _ _ _ ((HC.out).2.2 ⟨u1003.heap.size, 25, #[.int .i64 X, .int .i64 Y, .int .i64 Z, .slice A1003 ys.length c1003]⟩ (by simp)), cell_of_row _ _ 1 _ _ _ ((HC.out).2.2 ⟨u1003.heap.size, 25, #[.int .i64 X, .int .i64 Y, .int .i64 Z, .slice A1003 ys.length c1003]⟩ (by simp)), cell_of_row _ _ 2 _ _ _ ((HC.out).2.2 ⟨u1003.heap.size, 25, #[.int .i64 X, .int .i64 Y, .int .i64 Z, .slice A1003 ys.length c1003]⟩ (by simp)), cell_of_row _ _ 3 _ _ _ ((HC.out).2.2 ⟨u1003.heap.size, 25, #[.int .i64 X, .int .i64 Y, .int .i64 Z, .slice A1003 ys.length c1003]⟩ (by simp)), cell_of_row _ _ 0 _ _ _ ((HC.out).2.2 ⟨u1.heap.size, 25, #[.int .i64 W, .int .i64 H, .int .i64 P, .slice A xs.length c]⟩ (by simp)), cell_of_row _ _ 1 _ _ _ ((HC.out).2.2 ⟨u1.heap.size, 25, #[.int .i64 W, .int .i64 H, .int .i64 P, .slice A xs.length c]⟩ (by simp)), cell_of_row _ _ 2 _ _ _ ((HC.out).2.2 ⟨u1.heap.size, 25, #[.int .i64 W, .int .i64 H, .int .i64 P, .slice A xs.length c]⟩ (by simp)), cell_of_row _ _ 3 _ _ _ ((HC.out).2.2 ⟨u1.heap.size, 25, #[.int .i64 W, .int .i64 H, .int .i64 P, .slice A xs.length c]⟩ (by simp))⟩) (fun hHeld => ?_)
        clear hK K
        (try simp only [Act.put, List.setIfInBounds_toArray, List.set_cons_zero, List.set_cons_succ])
        refine' wpAnyH_take (i := 4) (oi := _) (v := _) ?hi59 (by kernel_rfl) (by kernel_rfl) (by kernel_rfl) ?hq59 (Or.inl ⟨?hw59, ?hy59⟩) (by assumption) ?rest59
        case hi59 => (simp only [List.getElem?_toArray, List.getElem?_cons_succ, List.getElem?_cons_zero]; rfl)
        case hq59 => exact fun _ _ _ h => h
        case hw59 => rfl
        case hy59 => (intro wq hSw; (try dsimp only at hSw); go_simp; (try with_reducible rfl))
        (try simp only [Act.put, List.setIfInBounds_toArray, List.set_cons_zero, List.set_cons_succ])
        refine' wpAnyH_take (i := 5) (oi := _) (v := _) ?hi60 (by kernel_rfl) (by kernel_rfl) (by kernel_rfl) ?hq60 (Or.inl ⟨?hw60, ?hy60⟩) (by assumption) ?rest60
        case hi60 => (simp only [List.getElem?_toArray, List.getElem?_cons_succ, List.getElem?_cons_zero]; rfl)
        case hq60 => exact fun _ _ _ h => h
        case hw60 => rfl
        case hy60 => (intro wq hSw; (try dsimp only at hSw); go_simp; (try with_reducible rfl))
        (try simp only [Act.put, List.setIfInBounds_toArray, List.set_cons_zero, List.set_cons_succ])
        refine' wpAnyH_take (i := 6) (oi := _) (v := _) ?hi61 (by kernel_rfl) (by kernel_rfl) (by kernel_rfl) ?hq61 (Or.inl ⟨?hw61, ?hy61⟩) (by assumption) ?rest61
        case hi61 => (simp only [List.getElem?_toArray, List.getElem?_cons_succ, List.getElem?_cons_zero]; rfl)
        case hq61 => exact fun _ _ _ h => h
        case hw61 => rfl
        case hy61 => (intro wq hSw; (try dsimp only at hSw); go_simp; (try with_reducible rfl))
        (try simp only [Act.put, List.setIfInBounds_toArray, List.set_cons_zero, List.set_cons_succ])
        refine wpAnyH_ready (rs := [7]) (by kernel_rfl) (by simp) ?_
        refine' AllReadyH.cons (o := _) ?hi62 (fun K hK => ?rest62) AllReadyH.nil
        case hi62 => (simp only [List.getElem?_toArray, List.getElem?_cons_succ, List.getElem?_cons_zero]; rfl)
        go_simp
        go_at_call 9
        refine (VldC.use HV A c _ ((HC.out).rds (A := A) (xs := xs) (by simp))).mono ?_
        rintro e u1008 ⟨rfl, hB1008⟩
        have HD := Lib.hid (HC.out.call hB1008)
        clear hB1008 HC
        have HC := HD
        clear HD
        go_wp2_with fail
        refine hK.out _ _ (by (try dsimp only); exact ⟨cell_of_row _ _ 0 _ _ _ ((HC.out).2.2 ⟨u1003.heap.size, 25, #[.int .i64 X, .int .i64 Y, .int .i64 Z, .slice A1003 ys.length c1003]⟩ (by simp)), cell_of_row _ _ 1 _ _ _ ((HC.out).2.2 ⟨u1003.heap.size, 25, #[.int .i64 X, .int .i64 Y, .int .i64 Z, .slice A1003 ys.length c1003]⟩ (by simp)), cell_of_row _ _ 2 _ _ _ ((HC.out).2.2 ⟨u1003.heap.size, 25, #[.int .i64 X, .int .i64 Y, .int .i64 Z, .slice A1003 ys.length c1003]⟩ (by simp)), cell_of_row _ _ 3 _ _ _ ((HC.out).2.2 ⟨u1003.heap.size, 25, #[.int .i64 X, .int .i64 Y, .int .i64 Z, .slice A1003 ys.length c1003]⟩ (by simp)), cell_of_row _ _ 0 _ _ _ ((HC.out).2.2 ⟨u1.heap.size, 25, #[.int .i64 W, .int .i64 H, .int .i64 P, .slice A xs.length c]⟩ (by simp)), cell_of_row _ _ 1 _ _ _ ((HC.out).2.2 ⟨u1.heap.size, 25, #[.int .i64 W, .int .i64 H, .int .i64 P, .slice A xs.length c]⟩ (by simp)), cell_of_row _ _ 2 _ _ _ ((HC.out).2.2 ⟨u1.heap.size, 25, #[.int .i64 W, .int .i64 H, .int .i64 P, .slice A xs.length c]⟩ (by simp)), cell_of_row _ _ 3 _ _ _ ((HC.out).2.2 ⟨u1.heap.size, 25, #[.int .i64 W, .int .i64 H, .int .i64 P, .slice A xs.length c]⟩ (by simp))⟩) (fun hHeld => ?_)
        clear hK K
        (try simp only [Act.put, List.setIfInBounds_toArray, List.set_cons_zero, List.set_cons_succ])
        refine' wpAnyH_take (i := 8) (oi := _) (v := _) ?hi63 (by kernel_rfl) (by kernel_rfl) (by kernel_rfl) ?hq63 (Or.inl ⟨?hw63, ?hy63⟩) (by assumption) ?rest63
        case hi63 => (simp only [List.getElem?_toArray, List.getElem?_cons_succ, List.getElem?_cons_zero]; rfl)
        case hq63 => exact fun _ _ _ h => h
        case hw63 => rfl
        case hy63 => (intro wq hSw; (try dsimp only at hSw); go_simp; (try with_reducible rfl))
        (try simp only [Act.put, List.setIfInBounds_toArray, List.set_cons_zero, List.set_cons_succ])
        refine' wpAnyH_take (i := 9) (oi := _) (v := _) ?hi64 (by kernel_rfl) (by kernel_rfl) (by kernel_rfl) ?hq64 (Or.inl ⟨?hw64, ?hy64⟩) (by assumption) ?rest64
        case hi64 => (simp only [List.getElem?_toArray, List.getElem?_cons_succ, List.getElem?_cons_zero]; rfl)
        case hq64 => exact fun _ _ _ h => h
        case hw64 => rfl
        case hy64 => (intro wq hSw; (try dsimp only at hSw); go_simp; (try with_reducible rfl))
        (try simp only [Act.put, List.setIfInBounds_toArray, List.set_cons_zero, List.set_cons_succ])
        refine' wpAnyH_take (i := 10) (oi := _) (v := _) ?hi65 (by kernel_rfl) (by kernel_rfl) (by kernel_rfl) ?hq65 (Or.inl ⟨?hw65, ?hy65⟩) (by assumption) ?rest65
        case hi65 => (simp only [List.getElem?_toArray, List.getElem?_cons_succ, List.getElem?_cons_zero]; rfl)
        case hq65 => exact fun _ _ _ h => h
        case hw65 => rfl
        case hy65 => (intro wq hSw; (try dsimp only at hSw); go_simp; (try with_reducible rfl))
        (try simp only [Act.put, List.setIfInBounds_toArray, List.set_cons_zero, List.set_cons_succ])
        refine' wpAnyH_take (i := 11) (oi := _) (v := _) ?hi66 (by kernel_rfl) (by kernel_rfl) (by kernel_rfl) ?hq66 (Or.inl ⟨?hw66, ?hy66⟩) (by assumption) ?rest66
        case hi66 => (simp only [List.getElem?_toArray, List.getElem?_cons_succ, List.getElem?_cons_zero]; rfl)
        case hq66 => exact fun _ _ _ h => h
        case hw66 => rfl
        case hy66 => (intro wq hSw; (try dsimp only at hSw); go_simp; (try with_reducible rfl))
        (try simp only [Act.put, List.setIfInBounds_toArray, List.set_cons_zero, List.set_cons_succ])
        refine' wpAnyH_take (i := 12) (oi := _) (v := _) ?hi67 (by kernel_rfl) (by kernel_rfl) (by kernel_rfl) ?hq67 (Or.inl ⟨?hw67, ?hy67⟩) (by assumption) ?rest67
        case hi67 => (simp only [List.getElem?_toArray, List.getElem?_cons_succ, List.getElem?_cons_zero]; rfl)
        case hq67 => exact fun _ _ _ h => h
        case hw67 => rfl
        case hy67 => (intro wq hSw; (try dsimp only at hSw); go_simp; (try with_reducible rfl))
        (try simp only [Act.put, List.setIfInBounds_toArray, List.set_cons_zero, List.set_cons_succ])
        refine' wpAnyH_take (i := 13) (oi := _) (v := _) ?hi68 (by kernel_rfl) (by kernel_rfl) (by kernel_rfl) ?hq68 (Or.inl ⟨?hw68, ?hy68⟩) (by assumption) ?rest68
        case hi68 => (simp only [List.getElem?_toArray, List.getElem?_cons_succ, List.getElem?_cons_zero]; rfl)
        case hq68 => exact fun _ _ _ h => h
        case hw68 => rfl
        case hy68 => (intro wq hSw; (try dsimp only at hSw); go_simp; (try with_reducible rfl))
        (try simp only [Act.put, List.setIfInBounds_toArray, List.set_cons_zero, List.set_cons_succ])
        refine' wpAnyH_take (i := 14) (oi := _) (v := _) ?hi69 (by kernel_rfl) (by kernel_rfl) (by kernel_rfl) ?hq69 (Or.inl ⟨?hw69, ?hy69⟩) (by assumption) ?rest69
        case hi69 => (simp only [List.getElem?_toArray, List.getElem?_cons_succ, List.getElem?_cons_zero]; rfl)
        case hq69 => exact fun _ _ _ h => h
        case hw69 => rfl
        case hy69 => (intro wq hSw; (try dsimp only at hSw); go_simp; (try with_reducible rfl))
        (try simp only [Act.put, List.setIfInBounds_toArray, List.set_cons_zero, List.set_cons_succ])
        refine' wpAnyH_take (i := 15) (oi := _) (v := _) ?hi70 (by kernel_rfl) (by kernel_rfl) (by kernel_rfl) ?hq70 (Or.inl ⟨?hw70, ?hy70⟩) (by assumption) ?rest70
        case hi70 => (simp only [List.getElem?_toArray, List.getElem?_cons_succ, List.getElem?_cons_zero]; rfl)
        case hq70 => exact fun _ _ _ h => h
        case hw70 => rfl
        case hy70 => (intro wq hSw; (try dsimp only at hSw); go_simp; (try with_reducible rfl))
        (try simp only [Act.put, List.setIfInBounds_toArray, List.set_cons_zero, List.set_cons_succ])
        refine' wpAnyH_take (i := 16) (oi := _) (v := _) ?hi71 (by kernel_rfl) (by kernel_rfl) (by kernel_rfl) ?hq71 (Or.inl ⟨?hw71, ?hy71⟩) (by assumption) ?rest71
        case hi71 => (simp only [List.getElem?_toArray, List.getElem?_cons_succ, List.getElem?_cons_zero]; rfl)
        case hq71 => exact fun _ _ _ h => h
        case hw71 => rfl
        case hy71 => (intro wq hSw; (try dsimp only at hSw); go_simp; (try with_reducible rfl))
        (try simp only [Act.put, List.setIfInBounds_toArray, List.set_cons_zero, List.set_cons_succ])
        refine' wpAnyH_take (i := 17) (oi := _) (v := _) ?hi72 (by kernel_rfl) (by kernel_rfl) (by kernel_rfl) ?hq72 (Or.inl ⟨?hw72, ?hy72⟩) (by assumption) ?rest72
        case hi72 => (simp only [List.getElem?_toArray, List.getElem?_cons_succ, List.getElem?_cons_zero]; rfl)
        case hq72 => exact fun _ _ _ h => h
        case hw72 => rfl
        case hy72 => (intro wq hSw; (try dsimp only at hSw); go_simp; (try with_reducible rfl))
        (try simp only [Act.put, List.setIfInBounds_toArray, List.set_cons_zero, List.set_cons_succ])
        refine' wpAnyH_take (i := 18) (oi := _) (v := _) ?hi73 (by kernel_rfl) (by kernel_rfl) (by kernel_rfl) ?hq73 (Or.inl ⟨?hw73, ?hy73⟩) (by assumption) ?rest73
        case hi73 => (simp only [List.getElem?_toArray, List.getElem?_cons_succ, List.getElem?_cons_zero]; rfl)
        case hq73 => exact fun _ _ _ h => h
        case hw73 => rfl
        case hy73 => (intro wq hSw; (try dsimp only at hSw); go_simp; (try with_reducible rfl))
        (try simp only [Act.put, List.setIfInBounds_toArray, List.set_cons_zero, List.set_cons_succ])
        refine' wpAnyH_take (i := 19) (oi := _) (v := _) ?hi74 (by kernel_rfl) (by kernel_rfl) (by kernel_rfl) ?hq74 (Or.inl ⟨?hw74, ?hy74⟩) (by assumption) ?rest74
        case hi74 => (simp only [List.getElem?_toArray, List.getElem?_cons_succ, List.getElem?_cons_zero]; rfl)
        case hq74 => exact fun _ _ _ h => h
        case hw74 => rfl
        case hy74 => (intro wq hSw; (try dsimp only at hSw); go_simp; (try with_reducible rfl))
        (try simp only [Act.put, List.setIfInBounds_toArray, List.set_cons_zero, List.set_cons_succ])
        refine' wpAnyH_take (i := 20) (oi := _) (v := _) ?hi75 (by kernel_rfl) (by kernel_rfl) (by kernel_rfl) ?hq75 (Or.inl ⟨?hw75, ?hy75⟩) (by assumption) ?rest75
        case hi75 => (simp only [List.getElem?_toArray, List.getElem?_cons_succ, List.getElem?_cons_zero]; rfl)
        case hq75 => exact fun _ _ _ h => h
        case hw75 => rfl
        case hy75 => (intro wq hSw; (try dsimp only at hSw); go_simp; (try with_reducible rfl))
        (try simp only [Act.put, List.setIfInBounds_toArray, List.set_cons_zero, List.set_cons_succ])
        refine' wpAnyH_take (i := 21) (oi := _) (v := _) ?hi76 (by kernel_rfl) (by kernel_rfl) (by kernel_rfl) ?hq76 (Or.inl ⟨?hw76, ?hy76⟩) (by assumption) ?rest76
        case hi76 => (simp only [List.getElem?_toArray, List.getElem?_cons_succ, List.getElem?_cons_zero]; rfl)
        case hq76 => exact fun _ _ _ h => h
        case hw76 => rfl
        case hy76 => (intro wq hSw; (try dsimp only at hSw); go_simp; (try with_reducible rfl))
        (try simp only [Act.put, List.setIfInBounds_toArray, List.set_cons_zero, List.set_cons_succ])
        refine wpAnyH_done (by kernel_rfl) ?_ _
        have S1009 := HC.out
        clear HC
        go_upto_region 6 with fail
        have HC := Lib.hid S1009.drew
        clear S1009
        refine wp_region_held_drew (S := (fun w' => w'.cell? ⟨u1003.heap.size, 0, none⟩ = some (.int .i64 X) ∧ w'.cell? ⟨u1003.heap.size, 1, none⟩ = some (.int .i64 Y) ∧ w'.cell? ⟨u1003.heap.size, 2, none⟩ = some (.int .i64 Z) ∧ w'.cell? ⟨u1003.heap.size, 3, none⟩ = some (.slice A1003 ys.length c1003) ∧ w'.cell? ⟨u1.heap.size, 0, none⟩ = some (.int .i64 W) ∧ w'.cell? ⟨u1.heap.size, 1, none⟩ = some (.int .i64 H) ∧ w'.cell? ⟨u1.heap.size, 2, none⟩ = some (.int .i64 P) ∧ w'.cell? ⟨u1.heap.size, 3, none⟩ = some (.slice A xs.length c))) (by kernel_rfl) (by exact ⟨cell_of_row _ _ 0 _ _ _ ((HC.out).2.2 ⟨u1003.heap.size, 25, #[.int .i64 X, .int .i64 Y, .int .i64 Z, .slice A1003 ys.length c1003]⟩ (by simp)), cell_of_row _ _ 1 _ _ _ ((HC.out).2.2 ⟨u1003.heap.size, 25, #[.int .i64 X, .int .i64 Y, .int .i64 Z, .slice A1003 ys.length c1003]⟩ (by simp)), cell_of_row _ _ 2 _ _ _ ((HC.out).2.2 ⟨u1003.heap.size, 25, #[.int .i64 X, .int .i64 Y, .int .i64 Z, .slice A1003 ys.length c1003]⟩ (by simp)), cell_of_row _ _ 3 _ _ _ ((HC.out).2.2 ⟨u1003.heap.size, 25, #[.int .i64 X, .int .i64 Y, .int .i64 Z, .slice A1003 ys.length c1003]⟩ (by simp)), cell_of_row _ _ 0 _ _ _ ((HC.out).2.2 ⟨u1.heap.size, 25, #[.int .i64 W, .int .i64 H, .int .i64 P, .slice A xs.length c]⟩ (by simp)), cell_of_row _ _ 1 _ _ _ ((HC.out).2.2 ⟨u1.heap.size, 25, #[.int .i64 W, .int .i64 H, .int .i64 P, .slice A xs.length c]⟩ (by simp)), cell_of_row _ _ 2 _ _ _ ((HC.out).2.2 ⟨u1.heap.size, 25, #[.int .i64 W, .int .i64 H, .int .i64 P, .slice A xs.length c]⟩ (by simp)), cell_of_row _ _ 3 _ _ _ ((HC.out).2.2 ⟨u1.heap.size, 25, #[.int .i64 W, .int .i64 H, .int .i64 P, .slice A xs.length c]⟩ (by simp))⟩) (fun hHeld => ?_)
        refine' wpAnyH_take (i := 0) (oi := _) (v := _) ?hi77 (by kernel_rfl) (by kernel_rfl) (by kernel_rfl) ?hq77 (Or.inl ⟨?hw77, ?hy77⟩) (by assumption) ?rest77
        case hi77 => (simp only [List.getElem?_toArray, List.getElem?_cons_succ, List.getElem?_cons_zero]; rfl)
        case hq77 => exact fun _ _ _ h => h
        case hw77 => rfl
        case hy77 => (intro wq hSw; (try dsimp only at hSw); go_simp; (try with_reducible rfl))
        (try simp only [Act.put, List.setIfInBounds_toArray, List.set_cons_zero, List.set_cons_succ])
        refine' wpAnyH_take (i := 1) (oi := _) (v := _) ?hi78 (by kernel_rfl) (by kernel_rfl) (by kernel_rfl) ?hq78 (Or.inl ⟨?hw78, ?hy78⟩) (by assumption) ?rest78
        case hi78 => (simp only [List.getElem?_toArray, List.getElem?_cons_succ, List.getElem?_cons_zero]; rfl)
        case hq78 => exact fun _ _ _ h => h
        case hw78 => rfl
        case hy78 => (intro wq hSw; (try dsimp only at hSw); go_simp; (try with_reducible rfl))
        (try simp only [Act.put, List.setIfInBounds_toArray, List.set_cons_zero, List.set_cons_succ])
        refine wpAnyH_ready (rs := [2]) (by kernel_rfl) (by simp) ?_
        refine' AllReadyH.cons (o := _) ?hi79 (fun K hK => ?rest79) AllReadyH.nil
        case hi79 => (simp only [List.getElem?_toArray, List.getElem?_cons_succ, List.getElem?_cons_zero]; rfl)
        go_simp
        go_at_call 8
        refine (ImC0.use HQ A c _ ((HC.out).rds (A := A) (xs := xs) (by simp)) hxc).mono ?_
        rintro e u1010 ⟨A1010, c1010, rfl, hc1010, hr1010, hB1010⟩
        have HD := Lib.hid ((HC.out.call hB1010).add hr1010)
        clear hr1010 hB1010 HC
        have HC := HD
        clear HD
        go_wp2_with fail
        refine hK.out _ _ (by (try dsimp only); exact ⟨cell_of_row _ _ 0 _ _ _ ((HC.out).2.2 ⟨u1003.heap.size, 25, #[.int .i64 X, .int .i64 Y, .int .i64 Z, .slice A1003 ys.length c1003]⟩ (by simp)), cell_of_row _ _ 1 _ _ _ ((HC.out).2.2 ⟨u1003.heap.size, 25, #[.int .i64 X, .int .i64 Y, .int .i64 Z, .slice A1003 ys.length c1003]⟩ (by simp)), cell_of_row _ _ 2 _ _ _ ((HC.out).2.2 ⟨u1003.heap.size, 25, #[.int .i64 X, .int .i64 Y, .int .i64 Z, .slice A1003 ys.length c1003]⟩ (by simp)), cell_of_row _ _ 3 _ _ _ ((HC.out).2.2 ⟨u1003.heap.size, 25, #[.int .i64 X, .int .i64 Y, .int .i64 Z, .slice A1003 ys.length c1003]⟩ (by simp)), cell_of_row _ _ 0 _ _ _ ((HC.out).2.2 ⟨u1.heap.size, 25, #[.int .i64 W, .int .i64 H, .int .i64 P, .slice A xs.length c]⟩ (by simp)), cell_of_row _ _ 1 _ _ _ ((HC.out).2.2 ⟨u1.heap.size, 25, #[.int .i64 W, .int .i64 H, .int .i64 P, .slice A xs.length c]⟩ (by simp)), cell_of_row _ _ 2 _ _ _ ((HC.out).2.2 ⟨u1.heap.size, 25, #[.int .i64 W, .int .i64 H, .int .i64 P, .slice A xs.length c]⟩ (by simp)), cell_of_row _ _ 3 _ _ _ ((HC.out).2.2 ⟨u1.heap.size, 25, #[.int .i64 W, .int .i64 H, .int .i64 P, .slice A xs.length c]⟩ (by simp))⟩) (fun hHeld => ?_)
        clear hK K
        (try simp only [Act.put, List.setIfInBounds_toArray, List.set_cons_zero, List.set_cons_succ])
        refine wpAnyH_ready (rs := [3]) (by kernel_rfl) (by simp) ?_
        refine' AllReadyH.cons (o := _) ?hi80 (fun K hK => ?rest80) AllReadyH.nil
        case hi80 => (simp only [List.getElem?_toArray, List.getElem?_cons_succ, List.getElem?_cons_zero]; rfl)
        go_simp
        go_at_call 7
        refine (lEqIm X Y Z ys A1003 A1010 c1003 c1010 _ ((HC.out).rds (A := A1003) (xs := ys) (by simp)) ((HC.out).rds (A := A1010) (xs := ys) (by simp)) (by omega)).mono ?_
        rintro e u1011 ⟨rfl, hB1011⟩
        have HD := Lib.hid (HC.out.call hB1011)
        clear hB1011 HC
        have HC := HD
        clear HD
        go_wp2_with fail
        refine hK.out _ _ (by (try dsimp only); exact ⟨cell_of_row _ _ 0 _ _ _ ((HC.out).2.2 ⟨u1003.heap.size, 25, #[.int .i64 X, .int .i64 Y, .int .i64 Z, .slice A1003 ys.length c1003]⟩ (by simp)), cell_of_row _ _ 1 _ _ _ ((HC.out).2.2 ⟨u1003.heap.size, 25, #[.int .i64 X, .int .i64 Y, .int .i64 Z, .slice A1003 ys.length c1003]⟩ (by simp)), cell_of_row _ _ 2 _ _ _ ((HC.out).2.2 ⟨u1003.heap.size, 25, #[.int .i64 X, .int .i64 Y, .int .i64 Z, .slice A1003 ys.length c1003]⟩ (by simp)), cell_of_row _ _ 3 _ _ _ ((HC.out).2.2 ⟨u1003.heap.size, 25, #[.int .i64 X, .int .i64 Y, .int .i64 Z, .slice A1003 ys.length c1003]⟩ (by simp)), cell_of_row _ _ 0 _ _ _ ((HC.out).2.2 ⟨u1.heap.size, 25, #[.int .i64 W, .int .i64 H, .int .i64 P, .slice A xs.length c]⟩ (by simp)), cell_of_row _ _ 1 _ _ _ ((HC.out).2.2 ⟨u1.heap.size, 25, #[.int .i64 W, .int .i64 H, .int .i64 P, .slice A xs.length c]⟩ (by simp)), cell_of_row _ _ 2 _ _ _ ((HC.out).2.2 ⟨u1.heap.size, 25, #[.int .i64 W, .int .i64 H, .int .i64 P, .slice A xs.length c]⟩ (by simp)), cell_of_row _ _ 3 _ _ _ ((HC.out).2.2 ⟨u1.heap.size, 25, #[.int .i64 W, .int .i64 H, .int .i64 P, .slice A xs.length c]⟩ (by simp))⟩) (fun hHeld => ?_)
        clear hK K
        (try simp only [Act.put, List.setIfInBounds_toArray, List.set_cons_zero, List.set_cons_succ])
        refine' wpAnyH_take (i := 4) (oi := _) (v := _) ?hi81 (by kernel_rfl) (by kernel_rfl) (by kernel_rfl) ?hq81 (Or.inl ⟨?hw81, ?hy81⟩) (by assumption) ?rest81
        case hi81 => (simp only [List.getElem?_toArray, List.getElem?_cons_succ, List.getElem?_cons_zero]; rfl)
        case hq81 => exact fun _ _ _ h => h
        case hw81 => rfl
        case hy81 => (intro wq hSw; (try dsimp only at hSw); go_simp; (try with_reducible rfl))
        (try simp only [Act.put, List.setIfInBounds_toArray, List.set_cons_zero, List.set_cons_succ])
        refine wpAnyH_done (by kernel_rfl) ?_ _
        have S1012 := HC.out
        clear HC
        go_wp2
        go_ret
        exact ⟨rfl, S1012.1⟩
      · skip
        have hb1' : ¬ 16 < 2 * W := by omega
        have hb2' : ¬ 16 < 2 * H := by omega
        have hd1 : decide (16 < 2 * W) = false := decide_eq_false hb1'
        have hd2 : decide (16 < 2 * H) = false := decide_eq_false hb2'
        have S1004 : LSt w (u1003.alloc (.cells #[.int .i64 X, .int .i64 Y, .int .i64 Z, .slice A1003 ys.length c1003] 25)) [(A1003, ys), (A, xs)] [⟨u1003.heap.size, 25, #[.int .i64 X, .int .i64 Y, .int .i64 Z, .slice A1003 ys.length c1003]⟩, ⟨u1.heap.size, 25, #[.int .i64 W, .int .i64 H, .int .i64 P, .slice A xs.length c]⟩] := LSt.box2 S1003 25 #[.int .i64 X, .int .i64 Y, .int .i64 Z, .slice A1003 ys.length c1003] u1003.heap.size (by simp)
        go_upto_region 5 with fail
        clear ml m0 m1 m2 m3
        clear S1003
        generalize u1003.alloc (.cells #[.int .i64 X, .int .i64 Y, .int .i64 Z, .slice A1003 ys.length c1003] 25) = u1005 at *
        have HC := Lib.hid S1004.drew
        clear S1004
        refine wp_region_held_drew (S := (fun w' => w'.cell? ⟨u1003.heap.size, 0, none⟩ = some (.int .i64 X) ∧ w'.cell? ⟨u1003.heap.size, 1, none⟩ = some (.int .i64 Y) ∧ w'.cell? ⟨u1003.heap.size, 2, none⟩ = some (.int .i64 Z) ∧ w'.cell? ⟨u1003.heap.size, 3, none⟩ = some (.slice A1003 ys.length c1003) ∧ w'.cell? ⟨u1.heap.size, 0, none⟩ = some (.int .i64 W) ∧ w'.cell? ⟨u1.heap.size, 1, none⟩ = some (.int .i64 H) ∧ w'.cell? ⟨u1.heap.size, 2, none⟩ = some (.int .i64 P) ∧ w'.cell? ⟨u1.heap.size, 3, none⟩ = some (.slice A xs.length c))) (by kernel_rfl) (by exact ⟨cell_of_row _ _ 0 _ _ _ ((HC.out).2.2 ⟨u1003.heap.size, 25, #[.int .i64 X, .int .i64 Y, .int .i64 Z, .slice A1003 ys.length c1003]⟩ (by simp)), cell_of_row _ _ 1 _ _ _ ((HC.out).2.2 ⟨u1003.heap.size, 25, #[.int .i64 X, .int .i64 Y, .int .i64 Z, .slice A1003 ys.length c1003]⟩ (by simp)), cell_of_row _ _ 2 _ _ _ ((HC.out).2.2 ⟨u1003.heap.size, 25, #[.int .i64 X, .int .i64 Y, .int .i64 Z, .slice A1003 ys.length c1003]⟩ (by simp)), cell_of_row _ _ 3 _ _ _ ((HC.out).2.2 ⟨u1003.heap.size, 25, #[.int .i64 X, .int .i64 Y, .int .i64 Z, .slice A1003 ys.length c1003]⟩ (by simp)), cell_of_row _ _ 0 _ _ _ ((HC.out).2.2 ⟨u1.heap.size, 25, #[.int .i64 W, .int .i64 H, .int .i64 P, .slice A xs.length c]⟩ (by simp)), cell_of_row _ _ 1 _ _ _ ((HC.out).2.2 ⟨u1.heap.size, 25, #[.int .i64 W, .int .i64 H, .int .i64 P, .slice A xs.length c]⟩ (by simp)), cell_of_row _ _ 2 _ _ _ ((HC.out).2.2 ⟨u1.heap.size, 25, #[.int .i64 W, .int .i64 H, .int .i64 P, .slice A xs.length c]⟩ (by simp)), cell_of_row _ _ 3 _ _ _ ((HC.out).2.2 ⟨u1.heap.size, 25, #[.int .i64 W, .int .i64 H, .int .i64 P, .slice A xs.length c]⟩ (by simp))⟩) (fun hHeld => ?_)
        refine' wpAnyH_take (i := 0) (oi := _) (v := _) ?hi82 (by kernel_rfl) (by kernel_rfl) (by kernel_rfl) ?hq82 (Or.inl ⟨?hw82, ?hy82⟩) (by assumption) ?rest82
        case hi82 => (simp only [List.getElem?_toArray, List.getElem?_cons_succ, List.getElem?_cons_zero]; rfl)
        case hq82 => exact fun _ _ _ h => h
        case hw82 => rfl
        case hy82 => (intro wq hSw; (try dsimp only at hSw); go_simp; (try with_reducible rfl))
        (try simp only [Act.put, List.setIfInBounds_toArray, List.set_cons_zero, List.set_cons_succ])
        refine' wpAnyH_take (i := 1) (oi := _) (v := _) ?hi83 (by kernel_rfl) (by kernel_rfl) (by kernel_rfl) ?hq83 (Or.inl ⟨?hw83, ?hy83⟩) (by assumption) ?rest83
        case hi83 => (simp only [List.getElem?_toArray, List.getElem?_cons_succ, List.getElem?_cons_zero]; rfl)
        case hq83 => exact fun _ _ _ h => h
        case hw83 => rfl
        case hy83 => (intro wq hSw; (try dsimp only at hSw); go_simp; (try with_reducible rfl))
        (try simp only [Act.put, List.setIfInBounds_toArray, List.set_cons_zero, List.set_cons_succ])
        refine wpAnyH_ready (rs := [2]) (by kernel_rfl) (by simp) ?_
        refine' AllReadyH.cons (o := _) ?hi84 (fun K hK => ?rest84) AllReadyH.nil
        case hi84 => (simp only [List.getElem?_toArray, List.getElem?_cons_succ, List.getElem?_cons_zero]; rfl)
        go_simp
        go_at_call 8
        refine (ImC0.use HQ A c _ ((HC.out).rds (A := A) (xs := xs) (by simp)) hxc).mono ?_
        rintro e u1006 ⟨A1006, c1006, rfl, hc1006, hr1006, hB1006⟩
        have HD := Lib.hid ((HC.out.call hB1006).add hr1006)
        clear hr1006 hB1006 HC
        have HC := HD
        clear HD
        go_wp2_with fail
        refine hK.out _ _ (by (try dsimp only); exact ⟨cell_of_row _ _ 0 _ _ _ ((HC.out).2.2 ⟨u1003.heap.size, 25, #[.int .i64 X, .int .i64 Y, .int .i64 Z, .slice A1003 ys.length c1003]⟩ (by simp)), cell_of_row _ _ 1 _ _ _ ((HC.out).2.2 ⟨u1003.heap.size, 25, #[.int .i64 X, .int .i64 Y, .int .i64 Z, .slice A1003 ys.length c1003]⟩ (by simp)), cell_of_row _ _ 2 _ _ _ ((HC.out).2.2 ⟨u1003.heap.size, 25, #[.int .i64 X, .int .i64 Y, .int .i64 Z, .slice A1003 ys.length c1003]⟩ (by simp)), cell_of_row _ _ 3 _ _ _ ((HC.out).2.2 ⟨u1003.heap.size, 25, #[.int .i64 X, .int .i64 Y, .int .i64 Z, .slice A1003 ys.length c1003]⟩ (by simp)), cell_of_row _ _ 0 _ _ _ ((HC.out).2.2 ⟨u1.heap.size, 25, #[.int .i64 W, .int .i64 H, .int .i64 P, .slice A xs.length c]⟩ (by simp)), cell_of_row _ _ 1 _ _ _ ((HC.out).2.2 ⟨u1.heap.size, 25, #[.int .i64 W, .int .i64 H, .int .i64 P, .slice A xs.length c]⟩ (by simp)), cell_of_row _ _ 2 _ _ _ ((HC.out).2.2 ⟨u1.heap.size, 25, #[.int .i64 W, .int .i64 H, .int .i64 P, .slice A xs.length c]⟩ (by simp)), cell_of_row _ _ 3 _ _ _ ((HC.out).2.2 ⟨u1.heap.size, 25, #[.int .i64 W, .int .i64 H, .int .i64 P, .slice A xs.length c]⟩ (by simp))⟩) (fun hHeld => ?_)
        clear hK K
        (try simp only [Act.put, List.setIfInBounds_toArray, List.set_cons_zero, List.set_cons_succ])
        refine wpAnyH_ready (rs := [3]) (by kernel_rfl) (by simp) ?_
        refine' AllReadyH.cons (o := _) ?hi85 (fun K hK => ?rest85) AllReadyH.nil
        case hi85 => (simp only [List.getElem?_toArray, List.getElem?_cons_succ, List.getElem?_cons_zero]; rfl)
        go_simp
        go_at_call 7
        refine (lEqIm X Y Z ys A1003 A1006 c1003 c1006 _ ((HC.out).rds (A := A1003) (xs := ys) (by simp)) ((HC.out).rds (A := A1006) (xs := ys) (by simp)) (by omega)).mono ?_
        rintro e u1007 ⟨rfl, hB1007⟩
        have HD := Lib.hid (HC.out.call hB1007)
        clear hB1007 HC
        have HC := HD
        clear HD
        go_wp2_with fail
        refine hK.out _ _ (by (try dsimp only); exact ⟨cell_of_row _ _ 0 _ _ _ ((HC.out).2.2 ⟨u1003.heap.size, 25, #[.int .i64 X, .int .i64 Y, .int .i64 Z, .slice A1003 ys.length c1003]⟩ (by simp)), cell_of_row _ _ 1 _ _ _ ((HC.out).2.2 ⟨u1003.heap.size, 25, #[.int .i64 X, .int .i64 Y, .int .i64 Z, .slice A1003 ys.length c1003]⟩ (by simp)), cell_of_row _ _ 2 _ _ _ ((HC.out).2.2 ⟨u1003.heap.size, 25, #[.int .i64 X, .int .i64 Y, .int .i64 Z, .slice A1003 ys.length c1003]⟩ (by simp)), cell_of_row _ _ 3 _ _ _ ((HC.out).2.2 ⟨u1003.heap.size, 25, #[.int .i64 X, .int .i64 Y, .int .i64 Z, .slice A1003 ys.length c1003]⟩ (by simp)), cell_of_row _ _ 0 _ _ _ ((HC.out).2.2 ⟨u1.heap.size, 25, #[.int .i64 W, .int .i64 H, .int .i64 P, .slice A xs.length c]⟩ (by simp)), cell_of_row _ _ 1 _ _ _ ((HC.out).2.2 ⟨u1.heap.size, 25, #[.int .i64 W, .int .i64 H, .int .i64 P, .slice A xs.length c]⟩ (by simp)), cell_of_row _ _ 2 _ _ _ ((HC.out).2.2 ⟨u1.heap.size, 25, #[.int .i64 W, .int .i64 H, .int .i64 P, .slice A xs.length c]⟩ (by simp)), cell_of_row _ _ 3 _ _ _ ((HC.out).2.2 ⟨u1.heap.size, 25, #[.int .i64 W, .int .i64 H, .int .i64 P, .slice A xs.length c]⟩ (by simp))⟩) (fun hHeld => ?_)
        clear hK K
        (try simp only [Act.put, List.setIfInBounds_toArray, List.set_cons_zero, List.set_cons_succ])
        refine' wpAnyH_take (i := 4) (oi := _) (v := _) ?hi86 (by kernel_rfl) (by kernel_rfl) (by kernel_rfl) ?hq86 (Or.inl ⟨?hw86, ?hy86⟩) (by assumption) ?rest86
        case hi86 => (simp only [List.getElem?_toArray, List.getElem?_cons_succ, List.getElem?_cons_zero]; rfl)
        case hq86 => exact fun _ _ _ h => h
        case hw86 => rfl
        case hy86 => (intro wq hSw; (try dsimp only at hSw); go_simp; (try with_reducible rfl))
        (try simp only [Act.put, List.setIfInBounds_toArray, List.set_cons_zero, List.set_cons_succ])
        refine' wpAnyH_take (i := 5) (oi := _) (v := _) ?hi87 (by kernel_rfl) (by kernel_rfl) (by kernel_rfl) ?hq87 (Or.inl ⟨?hw87, ?hy87⟩) (by assumption) ?rest87
        case hi87 => (simp only [List.getElem?_toArray, List.getElem?_cons_succ, List.getElem?_cons_zero]; rfl)
        case hq87 => exact fun _ _ _ h => h
        case hw87 => rfl
        case hy87 => (intro wq hSw; (try dsimp only at hSw); go_simp; (try with_reducible rfl))
        (try simp only [Act.put, List.setIfInBounds_toArray, List.set_cons_zero, List.set_cons_succ])
        refine' wpAnyH_take (i := 6) (oi := _) (v := _) ?hi88 (by kernel_rfl) (by kernel_rfl) (by kernel_rfl) ?hq88 (Or.inl ⟨?hw88, ?hy88⟩) (by assumption) ?rest88
        case hi88 => (simp only [List.getElem?_toArray, List.getElem?_cons_succ, List.getElem?_cons_zero]; rfl)
        case hq88 => exact fun _ _ _ h => h
        case hw88 => rfl
        case hy88 => (intro wq hSw; (try dsimp only at hSw); go_simp; (try with_reducible rfl))
        (try simp only [Act.put, List.setIfInBounds_toArray, List.set_cons_zero, List.set_cons_succ])
        refine wpAnyH_ready (rs := [7]) (by kernel_rfl) (by simp) ?_
        refine' AllReadyH.cons (o := _) ?hi89 (fun K hK => ?rest89) AllReadyH.nil
        case hi89 => (simp only [List.getElem?_toArray, List.getElem?_cons_succ, List.getElem?_cons_zero]; rfl)
        go_simp
        go_at_call 9
        refine (VldC.use HV A c _ ((HC.out).rds (A := A) (xs := xs) (by simp))).mono ?_
        rintro e u1008 ⟨rfl, hB1008⟩
        have HD := Lib.hid (HC.out.call hB1008)
        clear hB1008 HC
        have HC := HD
        clear HD
        go_wp2_with fail
        refine hK.out _ _ (by (try dsimp only); exact ⟨cell_of_row _ _ 0 _ _ _ ((HC.out).2.2 ⟨u1003.heap.size, 25, #[.int .i64 X, .int .i64 Y, .int .i64 Z, .slice A1003 ys.length c1003]⟩ (by simp)), cell_of_row _ _ 1 _ _ _ ((HC.out).2.2 ⟨u1003.heap.size, 25, #[.int .i64 X, .int .i64 Y, .int .i64 Z, .slice A1003 ys.length c1003]⟩ (by simp)), cell_of_row _ _ 2 _ _ _ ((HC.out).2.2 ⟨u1003.heap.size, 25, #[.int .i64 X, .int .i64 Y, .int .i64 Z, .slice A1003 ys.length c1003]⟩ (by simp)), cell_of_row _ _ 3 _ _ _ ((HC.out).2.2 ⟨u1003.heap.size, 25, #[.int .i64 X, .int .i64 Y, .int .i64 Z, .slice A1003 ys.length c1003]⟩ (by simp)), cell_of_row _ _ 0 _ _ _ ((HC.out).2.2 ⟨u1.heap.size, 25, #[.int .i64 W, .int .i64 H, .int .i64 P, .slice A xs.length c]⟩ (by simp)), cell_of_row _ _ 1 _ _ _ ((HC.out).2.2 ⟨u1.heap.size, 25, #[.int .i64 W, .int .i64 H, .int .i64 P, .slice A xs.length c]⟩ (by simp)), cell_of_row _ _ 2 _ _ _ ((HC.out).2.2 ⟨u1.heap.size, 25, #[.int .i64 W, .int .i64 H, .int .i64 P, .slice A xs.length c]⟩ (by simp)), cell_of_row _ _ 3 _ _ _ ((HC.out).2.2 ⟨u1.heap.size, 25, #[.int .i64 W, .int .i64 H, .int .i64 P, .slice A xs.length c]⟩ (by simp))⟩) (fun hHeld => ?_)
        clear hK K
        (try simp only [Act.put, List.setIfInBounds_toArray, List.set_cons_zero, List.set_cons_succ])
        refine' wpAnyH_take (i := 8) (oi := _) (v := _) ?hi90 (by kernel_rfl) (by kernel_rfl) (by kernel_rfl) ?hq90 (Or.inl ⟨?hw90, ?hy90⟩) (by assumption) ?rest90
        case hi90 => (simp only [List.getElem?_toArray, List.getElem?_cons_succ, List.getElem?_cons_zero]; rfl)
        case hq90 => exact fun _ _ _ h => h
        case hw90 => rfl
        case hy90 => (intro wq hSw; (try dsimp only at hSw); go_simp; (try with_reducible rfl))
        (try simp only [Act.put, List.setIfInBounds_toArray, List.set_cons_zero, List.set_cons_succ])
        refine' wpAnyH_take (i := 9) (oi := _) (v := _) ?hi91 (by kernel_rfl) (by kernel_rfl) (by kernel_rfl) ?hq91 (Or.inl ⟨?hw91, ?hy91⟩) (by assumption) ?rest91
        case hi91 => (simp only [List.getElem?_toArray, List.getElem?_cons_succ, List.getElem?_cons_zero]; rfl)
        case hq91 => exact fun _ _ _ h => h
        case hw91 => rfl
        case hy91 => (intro wq hSw; (try dsimp only at hSw); go_simp; (try with_reducible rfl))
        (try simp only [Act.put, List.setIfInBounds_toArray, List.set_cons_zero, List.set_cons_succ])
        refine' wpAnyH_take (i := 10) (oi := _) (v := _) ?hi92 (by kernel_rfl) (by kernel_rfl) (by kernel_rfl) ?hq92 (Or.inl ⟨?hw92, ?hy92⟩) (by assumption) ?rest92
        case hi92 => (simp only [List.getElem?_toArray, List.getElem?_cons_succ, List.getElem?_cons_zero]; rfl)
        case hq92 => exact fun _ _ _ h => h
        case hw92 => rfl
        case hy92 => (intro wq hSw; (try dsimp only at hSw); go_simp; (try with_reducible rfl))
        (try simp only [Act.put, List.setIfInBounds_toArray, List.set_cons_zero, List.set_cons_succ])
        refine' wpAnyH_take (i := 11) (oi := _) (v := _) ?hi93 (by kernel_rfl) (by kernel_rfl) (by kernel_rfl) ?hq93 (Or.inl ⟨?hw93, ?hy93⟩) (by assumption) ?rest93
        case hi93 => (simp only [List.getElem?_toArray, List.getElem?_cons_succ, List.getElem?_cons_zero]; rfl)
        case hq93 => exact fun _ _ _ h => h
        case hw93 => rfl
        case hy93 => (intro wq hSw; (try dsimp only at hSw); go_simp; (try with_reducible rfl))
        (try simp only [Act.put, List.setIfInBounds_toArray, List.set_cons_zero, List.set_cons_succ])
        refine' wpAnyH_take (i := 12) (oi := _) (v := _) ?hi94 (by kernel_rfl) (by kernel_rfl) (by kernel_rfl) ?hq94 (Or.inl ⟨?hw94, ?hy94⟩) (by assumption) ?rest94
        case hi94 => (simp only [List.getElem?_toArray, List.getElem?_cons_succ, List.getElem?_cons_zero]; rfl)
        case hq94 => exact fun _ _ _ h => h
        case hw94 => rfl
        case hy94 => (intro wq hSw; (try dsimp only at hSw); go_simp; (try with_reducible rfl))
        (try simp only [Act.put, List.setIfInBounds_toArray, List.set_cons_zero, List.set_cons_succ])
        refine' wpAnyH_take (i := 13) (oi := _) (v := _) ?hi95 (by kernel_rfl) (by kernel_rfl) (by kernel_rfl) ?hq95 (Or.inl ⟨?hw95, ?hy95⟩) (by assumption) ?rest95
        case hi95 => (simp only [List.getElem?_toArray, List.getElem?_cons_succ, List.getElem?_cons_zero]; rfl)
        case hq95 => exact fun _ _ _ h => h
        case hw95 => rfl
        case hy95 => (intro wq hSw; (try dsimp only at hSw); go_simp; (try with_reducible rfl))
        (try simp only [Act.put, List.setIfInBounds_toArray, List.set_cons_zero, List.set_cons_succ])
        refine' wpAnyH_take (i := 14) (oi := _) (v := _) ?hi96 (by kernel_rfl) (by kernel_rfl) (by kernel_rfl) ?hq96 (Or.inl ⟨?hw96, ?hy96⟩) (by assumption) ?rest96
        case hi96 => (simp only [List.getElem?_toArray, List.getElem?_cons_succ, List.getElem?_cons_zero]; rfl)
        case hq96 => exact fun _ _ _ h => h
        case hw96 => rfl
        case hy96 => (intro wq hSw; (try dsimp only at hSw); go_simp; (try with_reducible rfl))
        (try simp only [Act.put, List.setIfInBounds_toArray, List.set_cons_zero, List.set_cons_succ])
        refine' wpAnyH_take (i := 15) (oi := _) (v := _) ?hi97 (by kernel_rfl) (by kernel_rfl) (by kernel_rfl) ?hq97 (Or.inl ⟨?hw97, ?hy97⟩) (by assumption) ?rest97
        case hi97 => (simp only [List.getElem?_toArray, List.getElem?_cons_succ, List.getElem?_cons_zero]; rfl)
        case hq97 => exact fun _ _ _ h => h
        case hw97 => rfl
        case hy97 => (intro wq hSw; (try dsimp only at hSw); go_simp; (try with_reducible rfl))
        (try simp only [Act.put, List.setIfInBounds_toArray, List.set_cons_zero, List.set_cons_succ])
        refine' wpAnyH_take (i := 16) (oi := _) (v := _) ?hi98 (by kernel_rfl) (by kernel_rfl) (by kernel_rfl) ?hq98 (Or.inl ⟨?hw98, ?hy98⟩) (by assumption) ?rest98
        case hi98 => (simp only [List.getElem?_toArray, List.getElem?_cons_succ, List.getElem?_cons_zero]; rfl)
        case hq98 => exact fun _ _ _ h => h
        case hw98 => rfl
        case hy98 => (intro wq hSw; (try dsimp only at hSw); go_simp; (try with_reducible rfl))
        (try simp only [Act.put, List.setIfInBounds_toArray, List.set_cons_zero, List.set_cons_succ])
        refine' wpAnyH_take (i := 17) (oi := _) (v := _) ?hi99 (by kernel_rfl) (by kernel_rfl) (by kernel_rfl) ?hq99 (Or.inl ⟨?hw99, ?hy99⟩) (by assumption) ?rest99
        case hi99 => (simp only [List.getElem?_toArray, List.getElem?_cons_succ, List.getElem?_cons_zero]; rfl)
        case hq99 => exact fun _ _ _ h => h
        case hw99 => rfl
        case hy99 => (intro wq hSw; (try dsimp only at hSw); go_simp; (try with_reducible rfl))
        (try simp only [Act.put, List.setIfInBounds_toArray, List.set_cons_zero, List.set_cons_succ])
        refine' wpAnyH_take (i := 18) (oi := _) (v := _) ?hi100 (by kernel_rfl) (by kernel_rfl) (by kernel_rfl) ?hq100 (Or.inl ⟨?hw100, ?hy100⟩) (by assumption) ?rest100
        case hi100 => (simp only [List.getElem?_toArray, List.getElem?_cons_succ, List.getElem?_cons_zero]; rfl)
        case hq100 => exact fun _ _ _ h => h
        case hw100 => rfl
        case hy100 => (intro wq hSw; (try dsimp only at hSw); go_simp; (try with_reducible rfl))
        (try simp only [Act.put, List.setIfInBounds_toArray, List.set_cons_zero, List.set_cons_succ])
        refine' wpAnyH_take (i := 19) (oi := _) (v := _) ?hi101 (by kernel_rfl) (by kernel_rfl) (by kernel_rfl) ?hq101 (Or.inl ⟨?hw101, ?hy101⟩) (by assumption) ?rest101
        case hi101 => (simp only [List.getElem?_toArray, List.getElem?_cons_succ, List.getElem?_cons_zero]; rfl)
        case hq101 => exact fun _ _ _ h => h
        case hw101 => rfl
        case hy101 => (intro wq hSw; (try dsimp only at hSw); go_simp; (try with_reducible rfl))
        (try simp only [Act.put, List.setIfInBounds_toArray, List.set_cons_zero, List.set_cons_succ])
        refine' wpAnyH_take (i := 20) (oi := _) (v := _) ?hi102 (by kernel_rfl) (by kernel_rfl) (by kernel_rfl) ?hq102 (Or.inl ⟨?hw102, ?hy102⟩) (by assumption) ?rest102
        case hi102 => (simp only [List.getElem?_toArray, List.getElem?_cons_succ, List.getElem?_cons_zero]; rfl)
        case hq102 => exact fun _ _ _ h => h
        case hw102 => rfl
        case hy102 => (intro wq hSw; (try dsimp only at hSw); go_simp; (try with_reducible rfl))
        (try simp only [Act.put, List.setIfInBounds_toArray, List.set_cons_zero, List.set_cons_succ])
        refine' wpAnyH_take (i := 21) (oi := _) (v := _) ?hi103 (by kernel_rfl) (by kernel_rfl) (by kernel_rfl) ?hq103 (Or.inl ⟨?hw103, ?hy103⟩) (by assumption) ?rest103
        case hi103 => (simp only [List.getElem?_toArray, List.getElem?_cons_succ, List.getElem?_cons_zero]; rfl)
        case hq103 => exact fun _ _ _ h => h
        case hw103 => rfl
        case hy103 => (intro wq hSw; (try dsimp only at hSw); go_simp; (try with_reducible rfl))
        (try simp only [Act.put, List.setIfInBounds_toArray, List.set_cons_zero, List.set_cons_succ])
        refine wpAnyH_done (by kernel_rfl) ?_ _
        have S1009 := HC.out
        clear HC
        go_upto_region 7 with fail
        have HC := Lib.hid S1009.drew
        clear S1009
        refine wp_region_held_drew (S := (fun w' => w'.cell? ⟨u1.heap.size, 0, none⟩ = some (.int .i64 W) ∧ w'.cell? ⟨u1.heap.size, 1, none⟩ = some (.int .i64 H) ∧ w'.cell? ⟨u1.heap.size, 2, none⟩ = some (.int .i64 P) ∧ w'.cell? ⟨u1.heap.size, 3, none⟩ = some (.slice A xs.length c))) (by kernel_rfl) (by exact ⟨cell_of_row _ _ 0 _ _ _ ((HC.out).2.2 ⟨u1.heap.size, 25, #[.int .i64 W, .int .i64 H, .int .i64 P, .slice A xs.length c]⟩ (by simp)), cell_of_row _ _ 1 _ _ _ ((HC.out).2.2 ⟨u1.heap.size, 25, #[.int .i64 W, .int .i64 H, .int .i64 P, .slice A xs.length c]⟩ (by simp)), cell_of_row _ _ 2 _ _ _ ((HC.out).2.2 ⟨u1.heap.size, 25, #[.int .i64 W, .int .i64 H, .int .i64 P, .slice A xs.length c]⟩ (by simp)), cell_of_row _ _ 3 _ _ _ ((HC.out).2.2 ⟨u1.heap.size, 25, #[.int .i64 W, .int .i64 H, .int .i64 P, .slice A xs.length c]⟩ (by simp))⟩) (fun hHeld => ?_)
        refine' wpAnyH_take (i := 0) (oi := _) (v := _) ?hi104 (by kernel_rfl) (by kernel_rfl) (by kernel_rfl) ?hq104 (Or.inl ⟨?hw104, ?hy104⟩) (by assumption) ?rest104
        case hi104 => (simp only [List.getElem?_toArray, List.getElem?_cons_succ, List.getElem?_cons_zero]; rfl)
        case hq104 => exact fun _ _ _ h => h
        case hw104 => rfl
        case hy104 => (intro wq hSw; (try dsimp only at hSw); go_simp; (try with_reducible rfl))
        (try simp only [Act.put, List.setIfInBounds_toArray, List.set_cons_zero, List.set_cons_succ])
        refine' wpAnyH_take (i := 1) (oi := _) (v := _) ?hi105 (by kernel_rfl) (by kernel_rfl) (by kernel_rfl) ?hq105 (Or.inl ⟨?hw105, ?hy105⟩) (by assumption) ?rest105
        case hi105 => (simp only [List.getElem?_toArray, List.getElem?_cons_succ, List.getElem?_cons_zero]; rfl)
        case hq105 => exact fun _ _ _ h => h
        case hw105 => rfl
        case hy105 => (intro wq hSw; (try dsimp only at hSw); go_simp; (try with_reducible rfl))
        (try simp only [Act.put, List.setIfInBounds_toArray, List.set_cons_zero, List.set_cons_succ])
        refine' wpAnyH_take (i := 2) (oi := _) (v := _) ?hi106 (by kernel_rfl) (by kernel_rfl) (by kernel_rfl) ?hq106 (Or.inl ⟨?hw106, ?hy106⟩) (by assumption) ?rest106
        case hi106 => (simp only [List.getElem?_toArray, List.getElem?_cons_succ, List.getElem?_cons_zero]; rfl)
        case hq106 => exact fun _ _ _ h => h
        case hw106 => rfl
        case hy106 => (intro wq hSw; (try dsimp only at hSw); go_simp; (try with_reducible rfl))
        (try simp only [Act.put, List.setIfInBounds_toArray, List.set_cons_zero, List.set_cons_succ])
        refine' wpAnyH_take (i := 3) (oi := _) (v := _) ?hi107 (by kernel_rfl) (by kernel_rfl) (by kernel_rfl) ?hq107 (Or.inl ⟨?hw107, ?hy107⟩) (by assumption) ?rest107
        case hi107 => (simp only [List.getElem?_toArray, List.getElem?_cons_succ, List.getElem?_cons_zero]; rfl)
        case hq107 => exact fun _ _ _ h => h
        case hw107 => rfl
        case hy107 => (intro wq hSw; (try dsimp only at hSw); go_simp; (try with_reducible rfl))
        (try simp only [Act.put, List.setIfInBounds_toArray, List.set_cons_zero, List.set_cons_succ])
        refine' wpAnyH_take (i := 4) (oi := _) (v := _) ?hi108 (by kernel_rfl) (by kernel_rfl) (by kernel_rfl) ?hq108 (Or.inl ⟨?hw108, ?hy108⟩) (by assumption) ?rest108
        case hi108 => (simp only [List.getElem?_toArray, List.getElem?_cons_succ, List.getElem?_cons_zero]; rfl)
        case hq108 => exact fun _ _ _ h => h
        case hw108 => rfl
        case hy108 => (intro wq hSw; (try dsimp only at hSw); go_simp; (try with_reducible rfl))
        (try simp only [Act.put, List.setIfInBounds_toArray, List.set_cons_zero, List.set_cons_succ])
        refine' wpAnyH_take (i := 5) (oi := _) (v := _) ?hi109 (by kernel_rfl) (by kernel_rfl) (by kernel_rfl) ?hq109 (Or.inl ⟨?hw109, ?hy109⟩) (by assumption) ?rest109
        case hi109 => (simp only [List.getElem?_toArray, List.getElem?_cons_succ, List.getElem?_cons_zero]; rfl)
        case hq109 => exact fun _ _ _ h => h
        case hw109 => rfl
        case hy109 => (intro wq hSw; (try dsimp only at hSw); go_simp; (try with_reducible rfl))
        (try simp only [Act.put, List.setIfInBounds_toArray, List.set_cons_zero, List.set_cons_succ])
        refine' wpAnyH_take (i := 6) (oi := _) (v := _) ?hi110 (by kernel_rfl) (by kernel_rfl) (by kernel_rfl) ?hq110 (Or.inl ⟨?hw110, ?hy110⟩) (by assumption) ?rest110
        case hi110 => (simp only [List.getElem?_toArray, List.getElem?_cons_succ, List.getElem?_cons_zero]; rfl)
        case hq110 => exact fun _ _ _ h => h
        case hw110 => rfl
        case hy110 => (intro wq hSw; (try dsimp only at hSw); go_simp; (try with_reducible rfl))
        (try simp only [Act.put, List.setIfInBounds_toArray, List.set_cons_zero, List.set_cons_succ])
        refine' wpAnyH_take (i := 9) (oi := _) (v := _) ?hi111 (by kernel_rfl) (by kernel_rfl) (by kernel_rfl) ?hq111 (Or.inl ⟨?hw111, ?hy111⟩) (by assumption) ?rest111
        case hi111 => (simp only [List.getElem?_toArray, List.getElem?_cons_succ, List.getElem?_cons_zero]; rfl)
        case hq111 => exact fun _ _ _ h => h
        case hw111 => rfl
        case hy111 => (intro wq hSw; (try dsimp only at hSw); go_simp; (try with_reducible rfl))
        (try simp only [Act.put, List.setIfInBounds_toArray, List.set_cons_zero, List.set_cons_succ])
        refine wpAnyH_ready (rs := [7]) (by kernel_rfl) (by simp) ?_
        refine' AllReadyH.cons (o := _) ?hi112 (fun K hK => ?rest112) AllReadyH.nil
        case hi112 => (simp only [List.getElem?_toArray, List.getElem?_cons_succ, List.getElem?_cons_zero]; rfl)
        go_simp
        go_at_call 10
        refine (ScC.use HB A c _ ((HC.out).rds (A := A) (xs := xs) (by simp)) hxc).mono ?_
        rintro e u1010 ⟨A1010, c1010, rfl, hc1010, hr1010, hB1010⟩
        have HD := Lib.hid ((HC.out.call hB1010).add hr1010)
        clear hr1010 hB1010 HC
        have HC := HD
        clear HD
        go_wp2_with fail
        refine hK.out _ _ (by (try dsimp only); exact ⟨cell_of_row _ _ 0 _ _ _ ((HC.out).2.2 ⟨u1.heap.size, 25, #[.int .i64 W, .int .i64 H, .int .i64 P, .slice A xs.length c]⟩ (by simp)), cell_of_row _ _ 1 _ _ _ ((HC.out).2.2 ⟨u1.heap.size, 25, #[.int .i64 W, .int .i64 H, .int .i64 P, .slice A xs.length c]⟩ (by simp)), cell_of_row _ _ 2 _ _ _ ((HC.out).2.2 ⟨u1.heap.size, 25, #[.int .i64 W, .int .i64 H, .int .i64 P, .slice A xs.length c]⟩ (by simp)), cell_of_row _ _ 3 _ _ _ ((HC.out).2.2 ⟨u1.heap.size, 25, #[.int .i64 W, .int .i64 H, .int .i64 P, .slice A xs.length c]⟩ (by simp))⟩) (fun hHeld => ?_)
        clear hK K
        (try simp only [Act.put, List.setIfInBounds_toArray, List.set_cons_zero, List.set_cons_succ])
        refine wpAnyH_ready (rs := [8]) (by kernel_rfl) (by simp) ?_
        refine' AllReadyH.cons (o := _) ?hi113 (fun K hK => ?rest113) AllReadyH.nil
        case hi113 => (simp only [List.getElem?_toArray, List.getElem?_cons_succ, List.getElem?_cons_zero]; rfl)
        go_simp
        go_at_call 6
        refine (ImC0.use HK2 A1010 c1010 _ ((HC.out).rds (A := A1010) (xs := zs) (by simp)) hc1010).mono ?_
        rintro e u1011 ⟨A1011, c1011, rfl, hc1011, hr1011, hB1011⟩
        have HD := Lib.hid ((HC.out.call hB1011).add hr1011)
        clear hr1011 hB1011 HC
        have HC := HD
        clear HD
        go_wp2_with fail
        refine hK.out _ _ (by (try dsimp only); exact ⟨cell_of_row _ _ 0 _ _ _ ((HC.out).2.2 ⟨u1.heap.size, 25, #[.int .i64 W, .int .i64 H, .int .i64 P, .slice A xs.length c]⟩ (by simp)), cell_of_row _ _ 1 _ _ _ ((HC.out).2.2 ⟨u1.heap.size, 25, #[.int .i64 W, .int .i64 H, .int .i64 P, .slice A xs.length c]⟩ (by simp)), cell_of_row _ _ 2 _ _ _ ((HC.out).2.2 ⟨u1.heap.size, 25, #[.int .i64 W, .int .i64 H, .int .i64 P, .slice A xs.length c]⟩ (by simp)), cell_of_row _ _ 3 _ _ _ ((HC.out).2.2 ⟨u1.heap.size, 25, #[.int .i64 W, .int .i64 H, .int .i64 P, .slice A xs.length c]⟩ (by simp))⟩) (fun hHeld => ?_)
        clear hK K
        (try simp only [Act.put, List.setIfInBounds_toArray, List.set_cons_zero, List.set_cons_succ])
        refine wpAnyH_ready (rs := [10]) (by kernel_rfl) (by simp) ?_
        refine' AllReadyH.cons (o := _) ?hi114 (fun K hK => ?rest114) AllReadyH.nil
        case hi114 => (simp only [List.getElem?_toArray, List.getElem?_cons_succ, List.getElem?_cons_zero]; rfl)
        go_simp
        go_at_call 7
        refine (lEqIm W H P xs A1011 A c1011 c _ ((HC.out).rds (A := A1011) (xs := xs) (by simp)) ((HC.out).rds (A := A) (xs := xs) (by simp)) (by omega)).mono ?_
        rintro e u1012 ⟨rfl, hB1012⟩
        have HD := Lib.hid (HC.out.call hB1012)
        clear hB1012 HC
        have HC := HD
        clear HD
        go_wp2_with fail
        refine hK.out _ _ (by (try dsimp only); exact ⟨cell_of_row _ _ 0 _ _ _ ((HC.out).2.2 ⟨u1.heap.size, 25, #[.int .i64 W, .int .i64 H, .int .i64 P, .slice A xs.length c]⟩ (by simp)), cell_of_row _ _ 1 _ _ _ ((HC.out).2.2 ⟨u1.heap.size, 25, #[.int .i64 W, .int .i64 H, .int .i64 P, .slice A xs.length c]⟩ (by simp)), cell_of_row _ _ 2 _ _ _ ((HC.out).2.2 ⟨u1.heap.size, 25, #[.int .i64 W, .int .i64 H, .int .i64 P, .slice A xs.length c]⟩ (by simp)), cell_of_row _ _ 3 _ _ _ ((HC.out).2.2 ⟨u1.heap.size, 25, #[.int .i64 W, .int .i64 H, .int .i64 P, .slice A xs.length c]⟩ (by simp))⟩) (fun hHeld => ?_)
        clear hK K
        (try simp only [Act.put, List.setIfInBounds_toArray, List.set_cons_zero, List.set_cons_succ])
        refine' wpAnyH_take (i := 11) (oi := _) (v := _) ?hi115 (by kernel_rfl) (by kernel_rfl) (by kernel_rfl) ?hq115 (Or.inl ⟨?hw115, ?hy115⟩) (by assumption) ?rest115
        case hi115 => (simp only [List.getElem?_toArray, List.getElem?_cons_succ, List.getElem?_cons_zero]; rfl)
        case hq115 => exact fun _ _ _ h => h
        case hw115 => rfl
        case hy115 => (intro wq hSw; (try dsimp only at hSw); go_simp; (try with_reducible rfl))
        (try simp only [Act.put, List.setIfInBounds_toArray, List.set_cons_zero, List.set_cons_succ])
        refine wpAnyH_done (by kernel_rfl) ?_ _
        have S1013 := HC.out
        clear HC
        go_wp2
        go_ret
        exact ⟨rfl, S1013.1⟩

/-! ### From the walk to the statement. -/
theorem own : ownKnob Try.prog.godebug = none := by kernel_rfl
theorem laidOut : laidOutB Try.prog = true := by kernel_rfl
set_option maxRecDepth 100000 in
theorem lifted (os : Os) (started : os.Started) (H : Type) (enc : TypeId × Value → H) :
    ReturnsInHanded {} Try.checked os 3 .any (Rows.fnHalveImageDoubleSpec.pre6 enc Try.prog Try.f3 Rows.fnHalveImageDoubleRow.domain false) (Rows.fnHalveImageDoubleSpec.post enc Try.prog Try.f3 false true false false) := by
  refine returnsInHanded_of_change (C := Try.checked) own started (by kernel_rfl) Try.func3
    (ChangeSpec.witness6 (enc := enc) (C := Try.checked) false ⟨#[], #[.slice none 0 0], []⟩ 8 (by kernel_rfl) (by kernel_rfl) (by kernel_rfl) (by kernel_rfl)) ?_
  intro W base args ds gs before hval0 hW hcnd _
  have hval : ∀ (j : Nat) t v, Try.f3.params[j]? = some t → args[j]? = some v → Value.okWide Try.prog W .any base t v := hval0
  have hW' := hW
  obtain ⟨p, q, hA0, hV, rfl, hfz, hnd⟩ := hW
  have hA : DataW.TrodAll enc Try.prog W 0 (fun _ => true) true Try.f3.params.toList args.toList ds p := hA0
  rw [Try.params3] at hA hval
  obtain ⟨v0, vs0, d0, ds0, p0, q0, hargs, rfl, rfl, h0, r0⟩ := trodAll_cons hA
  obtain ⟨rfl, rfl, rfl⟩ := trodAll_nil r0
  obtain rfl : args = #[v0] := by cases args; simp_all
  obtain ⟨rfl, rfl⟩ := trodVars_none hV
  obtain ⟨a0, len0, cap0, rfl⟩ := okWide_slice Try.underlying22 (hval 0 22 v0 rfl rfl)
  have k0 := h0
  have lt0 : ∀ x ∈ p0, x.block < W.heap.size := by obtain ⟨m, hm⟩ := k0; exact DataW.trod_lt m _ _ _ hm
  obtain ⟨z0, hl0, hc0, w0⟩ : ∃ zs : List Int, len0 = zs.length ∧ zs.length ≤ cap0 ∧ Rdw .u8 W W.heap.size a0 zs := by
    obtain ⟨fuel, hf⟩ := h0
    rcases open_ints Try.underlying22 Try.underlying5 (by kernel_rfl) hf with ⟨hcs, _⟩ | ⟨x, l, c, zs, hcs, _, hl, hm, hz, _, hcell, hwz⟩
    · simp [Value.cells] at hcs
      obtain ⟨rfl, rfl, rfl⟩ := hcs
      exact ⟨[], rfl, Nat.le_refl _, Rdw.nil⟩
    · simp [Value.cells] at hcs
      obtain ⟨rfl, rfl, rfl⟩ := hcs
      exact ⟨zs.take len0, by simp at hz ⊢; omega, by simp at hz ⊢; omega, Rdw.of_row hl hm (by simpa using hz) hcell hwz⟩
  subst hl0
  clear hA0 hval0
  refine (walk W a0 cap0 z0 hc0 w0).mono fun e W' ⟨he, bel⟩ => ?_
  subst he
  exact ⟨_, rfl, _, _, _, [], _, [], hW', trodAll_mk1 (shut_bool Try.underlying4 _), (trodAll_cons_mk (Below.trod laidOut (by kernel_rfl) (of_decide_eq_true (by kernel_rfl)) k0 bel lt0) trodAll_mk0), rfl, bel.frame _, fun h => by cases h⟩

theorem over : Rows.fnHalveImageDoubleRow.holds Try.pinned (OpenSpec.ofChange Rows.fnHalveImageDoubleSpec) :=
  OpenClaim.holds_of_wide 3 Try.f3 rfl rfl rfl rfl rfl rfl rfl ⟨rfl, rfl, rfl, rfl, rfl⟩ rfl rfl rfl rfl rfl (by kernel_rfl) Try.func3 (by kernel_rfl)
    (of_decide_eq_true (by kernel_rfl)) (by unfold Func.isWrapper; first | (rw [if_pos (by decide +kernel)]; kernel_rfl) | (rw [if_neg (by decide +kernel)]; exact ⟨rfl, rfl⟩))
    (fun os started H enc _ => lifted os started H enc)

theorem proved : Rows.FnHalveImageDoubleSaid := over
end Go.Proofs.Ytcmjlpmdmejmaaa.fnHalveImageDouble
