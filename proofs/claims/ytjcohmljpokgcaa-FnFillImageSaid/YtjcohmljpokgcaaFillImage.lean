/- Whatever the code: FillImage of the drawn numbers answers what the model answers, and where there is an image, its palette is just the pixel, its last pixel is the pixel, and it is valid. -/
import Derived.Test.YtjcohmljpokgcaaRows
import Derived.WalkKit
import Derived.ProofKit
import Derived.OpenShut
import Derived.ShutString
import Derived.ChangeOld
import Derived.Below
import Derived.Test.YtjcohmljpokgcaaFimL
import Derived.Test.YtjcohmljpokgcaaDrawFill
import Derived.Test.YtjcohmljpokgcaaLSt
import Derived.Test.YtjcohmljpokgcaaOkJ
import Derived.Deep.RegionHeld3
namespace Go.Proofs.Ytjcohmljpokgcaa.fnFillImage
open Go.ChangeShapes Go.WideShapes Go.ChangeAt Go.RowKit
open Go.ChangeMaps (open_string shut_string)
set_option linter.unusedVariables false

set_option linter.unusedSimpArgs false
set_option maxRecDepth 20000
set_option maxHeartbeats 16000000 in
theorem walk (w : World) (a0 : Option Addr) (cap0 : Nat) (z0 : List Int) (hc0 : z0.length ≤ cap0) (w0 : Rdw .u8 w w.heap.size a0 z0) :
    Calls Try.prog 4 #[.slice a0 z0.length cap0] w fun e w' => e = .returned (.bool true) ∧ Below w.heap.size w w' := by
  have hm := w0.2.1
  unfold maxLen at hm
  by_cases hlen : 1048576 < z0.length
  · go_enter Try.func4, Try.ntmps4
    go_wp2
    go_ret
    exact ⟨rfl, Below.refl _ _⟩
  · go_enter Try.func4, Try.ntmps4
    go_wp2_with fail
    refine (drawFill_any a0 cap0 z0 w hc0 w0).mono ?_
    rintro e u1 ⟨W, H, A, c, q, rfl, hWb, hHb, hx, hqc, hr, hbel⟩
    have S1 : LSt w u1 [(A, q)] [] := (LSt.start hbel).add hr
    obtain ⟨X, Y, Z, ys, hys, HI, HQ, hor⟩ := fim_use W H q hx
    clear w0 hr hbel hm
    go_wp2_with fail
    refine (FillC.use HI A c _ ((S1).rds (A := A) (xs := q) (by simp)) hqc).mono ?_
    rintro e u1001 ⟨A1001, c1001, rfl, hc1001, hr1001, hB1001⟩
    have S1001 := (S1.call hB1001).add hr1001
    clear hr1001 hB1001 S1
    rcases hor with hX | ⟨hX, rfl, rfl, rfl, hXb, hYb, HPal, HPx, HV⟩
    · have hX0 : (X == 0) = true := by simp [hX]
      clear hX
      have S1002 : LSt w (u1001.alloc (.cells #[.int .i64 X, .int .i64 Y, .int .i64 Z, .slice A1001 ys.length c1001] 25)) [(A1001, ys), (A, q)] [⟨u1001.heap.size, 25, #[.int .i64 X, .int .i64 Y, .int .i64 Z, .slice A1001 ys.length c1001]⟩] := LSt.box2 S1001 25 #[.int .i64 X, .int .i64 Y, .int .i64 Z, .slice A1001 ys.length c1001] u1001.heap.size (by simp)
      go_upto_region 5 with fail
      clear S1001
      generalize u1001.alloc (.cells #[.int .i64 X, .int .i64 Y, .int .i64 Z, .slice A1001 ys.length c1001] 25) = u1003 at *
      have HC := Lib.hid S1002.drew
      clear S1002
      refine wp_region_held_drew (S := (fun w' => w'.cell? ⟨u1001.heap.size, 0, none⟩ = some (.int .i64 X) ∧ w'.cell? ⟨u1001.heap.size, 1, none⟩ = some (.int .i64 Y) ∧ w'.cell? ⟨u1001.heap.size, 2, none⟩ = some (.int .i64 Z) ∧ w'.cell? ⟨u1001.heap.size, 3, none⟩ = some (.slice A1001 ys.length c1001))) (by kernel_rfl) (by exact ⟨cell_of_row _ _ 0 _ _ _ ((HC.out).2.2 ⟨u1001.heap.size, 25, #[.int .i64 X, .int .i64 Y, .int .i64 Z, .slice A1001 ys.length c1001]⟩ (by simp)), cell_of_row _ _ 1 _ _ _ ((HC.out).2.2 ⟨u1001.heap.size, 25, #[.int .i64 X, .int .i64 Y, .int .i64 Z, .slice A1001 ys.length c1001]⟩ (by simp)), cell_of_row _ _ 2 _ _ _ ((HC.out).2.2 ⟨u1001.heap.size, 25, #[.int .i64 X, .int .i64 Y, .int .i64 Z, .slice A1001 ys.length c1001]⟩ (by simp)), cell_of_row _ _ 3 _ _ _ ((HC.out).2.2 ⟨u1001.heap.size, 25, #[.int .i64 X, .int .i64 Y, .int .i64 Z, .slice A1001 ys.length c1001]⟩ (by simp))⟩) (fun hHeld => ?_)
      refine' wpAnyH_take (i := 0) (oi := _) (v := _) ?hi1 (by kernel_rfl) (by kernel_rfl) (by kernel_rfl) ?hq1 (Or.inl ⟨?hw1, ?hy1⟩) (by assumption) ?rest1
      case hi1 => (simp only [List.getElem?_toArray, List.getElem?_cons_succ, List.getElem?_cons_zero]; rfl)
      case hq1 => exact fun _ _ _ h => h
      case hw1 => rfl
      case hy1 => (intro wq hSw; (try dsimp only at hSw); go_simp; (try with_reducible rfl))
      (try simp only [Act.put, List.setIfInBounds_toArray, List.set_cons_zero, List.set_cons_succ])
      refine' wpAnyH_take (i := 1) (oi := _) (v := _) ?hi2 (by kernel_rfl) (by kernel_rfl) (by kernel_rfl) ?hq2 (Or.inl ⟨?hw2, ?hy2⟩) (by assumption) ?rest2
      case hi2 => (simp only [List.getElem?_toArray, List.getElem?_cons_succ, List.getElem?_cons_zero]; rfl)
      case hq2 => exact fun _ _ _ h => h
      case hw2 => rfl
      case hy2 => (intro wq hSw; (try dsimp only at hSw); go_simp; (try with_reducible rfl))
      (try simp only [Act.put, List.setIfInBounds_toArray, List.set_cons_zero, List.set_cons_succ])
      refine' wpAnyH_take (i := 2) (oi := _) (v := _) ?hi3 (by kernel_rfl) (by kernel_rfl) (by kernel_rfl) ?hq3 (Or.inl ⟨?hw3, ?hy3⟩) (by assumption) ?rest3
      case hi3 => (simp only [List.getElem?_toArray, List.getElem?_cons_succ, List.getElem?_cons_zero]; rfl)
      case hq3 => exact fun _ _ _ h => h
      case hw3 => rfl
      case hy3 => (intro wq hSw; (try dsimp only at hSw); go_simp; (try with_reducible rfl))
      (try simp only [Act.put, List.setIfInBounds_toArray, List.set_cons_zero, List.set_cons_succ])
      refine' wpAnyH_take (i := 3) (oi := _) (v := _) ?hi4 (by kernel_rfl) (by kernel_rfl) (by kernel_rfl) ?hq4 (Or.inl ⟨?hw4, ?hy4⟩) (by assumption) ?rest4
      case hi4 => (simp only [List.getElem?_toArray, List.getElem?_cons_succ, List.getElem?_cons_zero]; rfl)
      case hq4 => exact fun _ _ _ h => h
      case hw4 => rfl
      case hy4 => (intro wq hSw; (try dsimp only at hSw); go_simp; (try with_reducible rfl))
      (try simp only [Act.put, List.setIfInBounds_toArray, List.set_cons_zero, List.set_cons_succ])
      refine wpAnyH_ready (rs := [4]) (by kernel_rfl) (by simp) ?_
      refine' AllReadyH.cons (o := _) ?hi5 (fun K hK => ?rest5) AllReadyH.nil
      case hi5 => (simp only [List.getElem?_toArray, List.getElem?_cons_succ, List.getElem?_cons_zero]; rfl)
      go_simp
      go_at_call 13
      refine (FillC.use HQ A c _ ((HC.out).rds (A := A) (xs := q) (by simp)) hqc).mono ?_
      rintro e u1004 ⟨A1004, c1004, rfl, hc1004, hr1004, hB1004⟩
      have HD := Lib.hid ((HC.out.call hB1004).add hr1004)
      clear hr1004 hB1004 HC
      have HC := HD
      clear HD
      go_wp2_with fail
      refine hK.out _ _ (by (try dsimp only); exact ⟨cell_of_row _ _ 0 _ _ _ ((HC.out).2.2 ⟨u1001.heap.size, 25, #[.int .i64 X, .int .i64 Y, .int .i64 Z, .slice A1001 ys.length c1001]⟩ (by simp)), cell_of_row _ _ 1 _ _ _ ((HC.out).2.2 ⟨u1001.heap.size, 25, #[.int .i64 X, .int .i64 Y, .int .i64 Z, .slice A1001 ys.length c1001]⟩ (by simp)), cell_of_row _ _ 2 _ _ _ ((HC.out).2.2 ⟨u1001.heap.size, 25, #[.int .i64 X, .int .i64 Y, .int .i64 Z, .slice A1001 ys.length c1001]⟩ (by simp)), cell_of_row _ _ 3 _ _ _ ((HC.out).2.2 ⟨u1001.heap.size, 25, #[.int .i64 X, .int .i64 Y, .int .i64 Z, .slice A1001 ys.length c1001]⟩ (by simp))⟩) (fun hHeld => ?_)
      clear hK K
      (try simp only [Act.put, List.setIfInBounds_toArray, List.set_cons_zero, List.set_cons_succ])
      refine wpAnyH_ready (rs := [5]) (by kernel_rfl) (by simp) ?_
      refine' AllReadyH.cons (o := _) ?hi6 (fun K hK => ?rest6) AllReadyH.nil
      case hi6 => (simp only [List.getElem?_toArray, List.getElem?_cons_succ, List.getElem?_cons_zero]; rfl)
      go_simp
      go_at_call 9
      refine (lEqIm X Y Z ys A1001 A1004 c1001 c1004 _ ((HC.out).rds (A := A1001) (xs := ys) (by simp)) ((HC.out).rds (A := A1004) (xs := ys) (by simp)) (by omega)).mono ?_
      rintro e u1005 ⟨rfl, hB1005⟩
      have HD := Lib.hid (HC.out.call hB1005)
      clear hB1005 HC
      have HC := HD
      clear HD
      go_wp2_with fail
      refine hK.out _ _ (by (try dsimp only); exact ⟨cell_of_row _ _ 0 _ _ _ ((HC.out).2.2 ⟨u1001.heap.size, 25, #[.int .i64 X, .int .i64 Y, .int .i64 Z, .slice A1001 ys.length c1001]⟩ (by simp)), cell_of_row _ _ 1 _ _ _ ((HC.out).2.2 ⟨u1001.heap.size, 25, #[.int .i64 X, .int .i64 Y, .int .i64 Z, .slice A1001 ys.length c1001]⟩ (by simp)), cell_of_row _ _ 2 _ _ _ ((HC.out).2.2 ⟨u1001.heap.size, 25, #[.int .i64 X, .int .i64 Y, .int .i64 Z, .slice A1001 ys.length c1001]⟩ (by simp)), cell_of_row _ _ 3 _ _ _ ((HC.out).2.2 ⟨u1001.heap.size, 25, #[.int .i64 X, .int .i64 Y, .int .i64 Z, .slice A1001 ys.length c1001]⟩ (by simp))⟩) (fun hHeld => ?_)
      clear hK K
      (try simp only [Act.put, List.setIfInBounds_toArray, List.set_cons_zero, List.set_cons_succ])
      refine' wpAnyH_take (i := 6) (oi := _) (v := _) ?hi7 (by kernel_rfl) (by kernel_rfl) (by kernel_rfl) ?hq7 (Or.inl ⟨?hw7, ?hy7⟩) (by assumption) ?rest7
      case hi7 => (simp only [List.getElem?_toArray, List.getElem?_cons_succ, List.getElem?_cons_zero]; rfl)
      case hq7 => exact fun _ _ _ h => h
      case hw7 => rfl
      case hy7 => (intro wq hSw; (try dsimp only at hSw); go_simp; (try with_reducible rfl))
      (try simp only [Act.put, List.setIfInBounds_toArray, List.set_cons_zero, List.set_cons_succ])
      refine' wpAnyH_take (i := 7) (oi := _) (v := _) ?hi8 (by kernel_rfl) (by kernel_rfl) (by kernel_rfl) ?hq8 (Or.inl ⟨?hw8, ?hy8⟩) (by assumption) ?rest8
      case hi8 => (simp only [List.getElem?_toArray, List.getElem?_cons_succ, List.getElem?_cons_zero]; rfl)
      case hq8 => exact fun _ _ _ h => h
      case hw8 => rfl
      case hy8 => (intro wq hSw; (try dsimp only at hSw); go_simp; (try with_reducible rfl))
      (try simp only [Act.put, List.setIfInBounds_toArray, List.set_cons_zero, List.set_cons_succ])
      refine' wpAnyH_take (i := 8) (oi := _) (v := _) ?hi9 (by kernel_rfl) (by kernel_rfl) (by kernel_rfl) ?hq9 (Or.inl ⟨?hw9, ?hy9⟩) (by assumption) ?rest9
      case hi9 => (simp only [List.getElem?_toArray, List.getElem?_cons_succ, List.getElem?_cons_zero]; rfl)
      case hq9 => exact fun _ _ _ h => h
      case hw9 => rfl
      case hy9 => (intro wq hSw; (try dsimp only at hSw); go_simp; (try with_reducible rfl))
      (try simp only [Act.put, List.setIfInBounds_toArray, List.set_cons_zero, List.set_cons_succ])
      refine' wpAnyH_take (i := 9) (oi := _) (v := _) ?hi10 (by kernel_rfl) (by kernel_rfl) (by kernel_rfl) ?hq10 (Or.inl ⟨?hw10, ?hy10⟩) (by assumption) ?rest10
      case hi10 => (simp only [List.getElem?_toArray, List.getElem?_cons_succ, List.getElem?_cons_zero]; rfl)
      case hq10 => exact fun _ _ _ h => h
      case hw10 => rfl
      case hy10 => (intro wq hSw; (try dsimp only at hSw); go_simp; (try with_reducible rfl))
      (try simp only [Act.put, List.setIfInBounds_toArray, List.set_cons_zero, List.set_cons_succ])
      refine' wpAnyH_take (i := 10) (oi := _) (v := _) ?hi11 (by kernel_rfl) (by kernel_rfl) (by kernel_rfl) ?hq11 (Or.inl ⟨?hw11, ?hy11⟩) (by assumption) ?rest11
      case hi11 => (simp only [List.getElem?_toArray, List.getElem?_cons_succ, List.getElem?_cons_zero]; rfl)
      case hq11 => exact fun _ _ _ h => h
      case hw11 => rfl
      case hy11 => (intro wq hSw; (try dsimp only at hSw); go_simp; (try with_reducible rfl))
      (try simp only [Act.put, List.setIfInBounds_toArray, List.set_cons_zero, List.set_cons_succ])
      refine' wpAnyH_take (i := 11) (oi := _) (v := _) ?hi12 (by kernel_rfl) (by kernel_rfl) (by kernel_rfl) ?hq12 (Or.inl ⟨?hw12, ?hy12⟩) (by assumption) ?rest12
      case hi12 => (simp only [List.getElem?_toArray, List.getElem?_cons_succ, List.getElem?_cons_zero]; rfl)
      case hq12 => exact fun _ _ _ h => h
      case hw12 => rfl
      case hy12 => (intro wq hSw; (try dsimp only at hSw); go_simp; (try with_reducible rfl))
      (try simp only [Act.put, List.setIfInBounds_toArray, List.set_cons_zero, List.set_cons_succ])
      refine wpAnyH_done (by kernel_rfl) ?_ _
      have S1006 := HC.out
      clear HC
      go_upto_region 6 with fail
      have HC := Lib.hid S1006.drew
      clear S1006
      refine wp_region_held_drew (S := (fun w' => w'.cell? ⟨u1001.heap.size, 0, none⟩ = some (.int .i64 X) ∧ w'.cell? ⟨u1001.heap.size, 1, none⟩ = some (.int .i64 Y) ∧ w'.cell? ⟨u1001.heap.size, 2, none⟩ = some (.int .i64 Z) ∧ w'.cell? ⟨u1001.heap.size, 3, none⟩ = some (.slice A1001 ys.length c1001))) (by kernel_rfl) (by exact ⟨cell_of_row _ _ 0 _ _ _ ((HC.out).2.2 ⟨u1001.heap.size, 25, #[.int .i64 X, .int .i64 Y, .int .i64 Z, .slice A1001 ys.length c1001]⟩ (by simp)), cell_of_row _ _ 1 _ _ _ ((HC.out).2.2 ⟨u1001.heap.size, 25, #[.int .i64 X, .int .i64 Y, .int .i64 Z, .slice A1001 ys.length c1001]⟩ (by simp)), cell_of_row _ _ 2 _ _ _ ((HC.out).2.2 ⟨u1001.heap.size, 25, #[.int .i64 X, .int .i64 Y, .int .i64 Z, .slice A1001 ys.length c1001]⟩ (by simp)), cell_of_row _ _ 3 _ _ _ ((HC.out).2.2 ⟨u1001.heap.size, 25, #[.int .i64 X, .int .i64 Y, .int .i64 Z, .slice A1001 ys.length c1001]⟩ (by simp))⟩) (fun hHeld => ?_)
      refine' wpAnyH_take (i := 0) (oi := _) (v := _) ?hi13 (by kernel_rfl) (by kernel_rfl) (by kernel_rfl) ?hq13 (Or.inl ⟨?hw13, ?hy13⟩) (by assumption) ?rest13
      case hi13 => (simp only [List.getElem?_toArray, List.getElem?_cons_succ, List.getElem?_cons_zero]; rfl)
      case hq13 => exact fun _ _ _ h => h
      case hw13 => rfl
      case hy13 => (intro wq hSw; (try dsimp only at hSw); go_simp; (try with_reducible rfl))
      (try simp only [Act.put, List.setIfInBounds_toArray, List.set_cons_zero, List.set_cons_succ])
      refine' wpAnyH_take (i := 1) (oi := _) (v := _) ?hi14 (by kernel_rfl) (by kernel_rfl) (by kernel_rfl) ?hq14 (Or.inl ⟨?hw14, ?hy14⟩) (by assumption) ?rest14
      case hi14 => (simp only [List.getElem?_toArray, List.getElem?_cons_succ, List.getElem?_cons_zero]; rfl)
      case hq14 => exact fun _ _ _ h => h
      case hw14 => rfl
      case hy14 => (intro wq hSw; (try dsimp only at hSw); go_simp; (try with_reducible rfl))
      (try simp only [Act.put, List.setIfInBounds_toArray, List.set_cons_zero, List.set_cons_succ])
      refine' wpAnyH_take (i := 2) (oi := _) (v := _) ?hi15 (by kernel_rfl) (by kernel_rfl) (by kernel_rfl) ?hq15 (Or.inl ⟨?hw15, ?hy15⟩) (by assumption) ?rest15
      case hi15 => (simp only [List.getElem?_toArray, List.getElem?_cons_succ, List.getElem?_cons_zero]; rfl)
      case hq15 => exact fun _ _ _ h => h
      case hw15 => rfl
      case hy15 => (intro wq hSw; (try dsimp only at hSw); go_simp; (try with_reducible rfl))
      (try simp only [Act.put, List.setIfInBounds_toArray, List.set_cons_zero, List.set_cons_succ])
      refine' wpAnyH_take (i := 3) (oi := _) (v := _) ?hi16 (by kernel_rfl) (by kernel_rfl) (by kernel_rfl) ?hq16 (Or.inl ⟨?hw16, ?hy16⟩) (by assumption) ?rest16
      case hi16 => (simp only [List.getElem?_toArray, List.getElem?_cons_succ, List.getElem?_cons_zero]; rfl)
      case hq16 => exact fun _ _ _ h => h
      case hw16 => rfl
      case hy16 => (intro wq hSw; (try dsimp only at hSw); go_simp; (try with_reducible rfl))
      (try simp only [Act.put, List.setIfInBounds_toArray, List.set_cons_zero, List.set_cons_succ])
      refine wpAnyH_ready (rs := [4]) (by kernel_rfl) (by simp) ?_
      refine' AllReadyH.cons (o := _) ?hi17 (fun K hK => ?rest17) AllReadyH.nil
      case hi17 => (simp only [List.getElem?_toArray, List.getElem?_cons_succ, List.getElem?_cons_zero]; rfl)
      go_simp
      go_at_call 13
      refine (FillC.use HQ A c _ ((HC.out).rds (A := A) (xs := q) (by simp)) hqc).mono ?_
      rintro e u1007 ⟨A1007, c1007, rfl, hc1007, hr1007, hB1007⟩
      have HD := Lib.hid ((HC.out.call hB1007).add hr1007)
      clear hr1007 hB1007 HC
      have HC := HD
      clear HD
      go_wp2_with fail
      refine hK.out _ _ (by (try dsimp only); exact ⟨cell_of_row _ _ 0 _ _ _ ((HC.out).2.2 ⟨u1001.heap.size, 25, #[.int .i64 X, .int .i64 Y, .int .i64 Z, .slice A1001 ys.length c1001]⟩ (by simp)), cell_of_row _ _ 1 _ _ _ ((HC.out).2.2 ⟨u1001.heap.size, 25, #[.int .i64 X, .int .i64 Y, .int .i64 Z, .slice A1001 ys.length c1001]⟩ (by simp)), cell_of_row _ _ 2 _ _ _ ((HC.out).2.2 ⟨u1001.heap.size, 25, #[.int .i64 X, .int .i64 Y, .int .i64 Z, .slice A1001 ys.length c1001]⟩ (by simp)), cell_of_row _ _ 3 _ _ _ ((HC.out).2.2 ⟨u1001.heap.size, 25, #[.int .i64 X, .int .i64 Y, .int .i64 Z, .slice A1001 ys.length c1001]⟩ (by simp))⟩) (fun hHeld => ?_)
      clear hK K
      (try simp only [Act.put, List.setIfInBounds_toArray, List.set_cons_zero, List.set_cons_succ])
      refine wpAnyH_ready (rs := [5]) (by kernel_rfl) (by simp) ?_
      refine' AllReadyH.cons (o := _) ?hi18 (fun K hK => ?rest18) AllReadyH.nil
      case hi18 => (simp only [List.getElem?_toArray, List.getElem?_cons_succ, List.getElem?_cons_zero]; rfl)
      go_simp
      go_at_call 9
      refine (lEqIm X Y Z ys A1001 A1007 c1001 c1007 _ ((HC.out).rds (A := A1001) (xs := ys) (by simp)) ((HC.out).rds (A := A1007) (xs := ys) (by simp)) (by omega)).mono ?_
      rintro e u1008 ⟨rfl, hB1008⟩
      have HD := Lib.hid (HC.out.call hB1008)
      clear hB1008 HC
      have HC := HD
      clear HD
      go_wp2_with fail
      refine hK.out _ _ (by (try dsimp only); exact ⟨cell_of_row _ _ 0 _ _ _ ((HC.out).2.2 ⟨u1001.heap.size, 25, #[.int .i64 X, .int .i64 Y, .int .i64 Z, .slice A1001 ys.length c1001]⟩ (by simp)), cell_of_row _ _ 1 _ _ _ ((HC.out).2.2 ⟨u1001.heap.size, 25, #[.int .i64 X, .int .i64 Y, .int .i64 Z, .slice A1001 ys.length c1001]⟩ (by simp)), cell_of_row _ _ 2 _ _ _ ((HC.out).2.2 ⟨u1001.heap.size, 25, #[.int .i64 X, .int .i64 Y, .int .i64 Z, .slice A1001 ys.length c1001]⟩ (by simp)), cell_of_row _ _ 3 _ _ _ ((HC.out).2.2 ⟨u1001.heap.size, 25, #[.int .i64 X, .int .i64 Y, .int .i64 Z, .slice A1001 ys.length c1001]⟩ (by simp))⟩) (fun hHeld => ?_)
      clear hK K
      (try simp only [Act.put, List.setIfInBounds_toArray, List.set_cons_zero, List.set_cons_succ])
      refine' wpAnyH_take (i := 6) (oi := _) (v := _) ?hi19 (by kernel_rfl) (by kernel_rfl) (by kernel_rfl) ?hq19 (Or.inl ⟨?hw19, ?hy19⟩) (by assumption) ?rest19
      case hi19 => (simp only [List.getElem?_toArray, List.getElem?_cons_succ, List.getElem?_cons_zero]; rfl)
      case hq19 => exact fun _ _ _ h => h
      case hw19 => rfl
      case hy19 => (intro wq hSw; (try dsimp only at hSw); go_simp; (try with_reducible rfl))
      (try simp only [Act.put, List.setIfInBounds_toArray, List.set_cons_zero, List.set_cons_succ])
      refine wpAnyH_done (by kernel_rfl) ?_ _
      have S1009 := HC.out
      clear HC
      go_wp2
      go_ret
      exact ⟨rfl, S1009.1⟩
    · have hX0 : (W == 0) = false := beq_eq_false_iff_ne.2 hX
      clear hX
      have S1002 : LSt w (u1001.alloc (.cells #[.int .i64 W, .int .i64 H, .int .i64 (q.length : Int), .slice A1001 ys.length c1001] 25)) [(A1001, ys), (A, q)] [⟨u1001.heap.size, 25, #[.int .i64 W, .int .i64 H, .int .i64 (q.length : Int), .slice A1001 ys.length c1001]⟩] := LSt.box2 S1001 25 #[.int .i64 W, .int .i64 H, .int .i64 (q.length : Int), .slice A1001 ys.length c1001] u1001.heap.size (by simp)
      go_upto_region 5 with fail
      clear S1001
      generalize u1001.alloc (.cells #[.int .i64 W, .int .i64 H, .int .i64 (q.length : Int), .slice A1001 ys.length c1001] 25) = u1003 at *
      have HC := Lib.hid S1002.drew
      clear S1002
      refine wp_region_held_drew (S := (fun w' => w'.cell? ⟨u1001.heap.size, 0, none⟩ = some (.int .i64 W) ∧ w'.cell? ⟨u1001.heap.size, 1, none⟩ = some (.int .i64 H) ∧ w'.cell? ⟨u1001.heap.size, 2, none⟩ = some (.int .i64 (q.length : Int)) ∧ w'.cell? ⟨u1001.heap.size, 3, none⟩ = some (.slice A1001 ys.length c1001))) (by kernel_rfl) (by exact ⟨cell_of_row _ _ 0 _ _ _ ((HC.out).2.2 ⟨u1001.heap.size, 25, #[.int .i64 W, .int .i64 H, .int .i64 (q.length : Int), .slice A1001 ys.length c1001]⟩ (by simp)), cell_of_row _ _ 1 _ _ _ ((HC.out).2.2 ⟨u1001.heap.size, 25, #[.int .i64 W, .int .i64 H, .int .i64 (q.length : Int), .slice A1001 ys.length c1001]⟩ (by simp)), cell_of_row _ _ 2 _ _ _ ((HC.out).2.2 ⟨u1001.heap.size, 25, #[.int .i64 W, .int .i64 H, .int .i64 (q.length : Int), .slice A1001 ys.length c1001]⟩ (by simp)), cell_of_row _ _ 3 _ _ _ ((HC.out).2.2 ⟨u1001.heap.size, 25, #[.int .i64 W, .int .i64 H, .int .i64 (q.length : Int), .slice A1001 ys.length c1001]⟩ (by simp))⟩) (fun hHeld => ?_)
      refine' wpAnyH_take (i := 0) (oi := _) (v := _) ?hi20 (by kernel_rfl) (by kernel_rfl) (by kernel_rfl) ?hq20 (Or.inl ⟨?hw20, ?hy20⟩) (by assumption) ?rest20
      case hi20 => (simp only [List.getElem?_toArray, List.getElem?_cons_succ, List.getElem?_cons_zero]; rfl)
      case hq20 => exact fun _ _ _ h => h
      case hw20 => rfl
      case hy20 => (intro wq hSw; (try dsimp only at hSw); go_simp; (try with_reducible rfl))
      (try simp only [Act.put, List.setIfInBounds_toArray, List.set_cons_zero, List.set_cons_succ])
      refine' wpAnyH_take (i := 1) (oi := _) (v := _) ?hi21 (by kernel_rfl) (by kernel_rfl) (by kernel_rfl) ?hq21 (Or.inl ⟨?hw21, ?hy21⟩) (by assumption) ?rest21
      case hi21 => (simp only [List.getElem?_toArray, List.getElem?_cons_succ, List.getElem?_cons_zero]; rfl)
      case hq21 => exact fun _ _ _ h => h
      case hw21 => rfl
      case hy21 => (intro wq hSw; (try dsimp only at hSw); go_simp; (try with_reducible rfl))
      (try simp only [Act.put, List.setIfInBounds_toArray, List.set_cons_zero, List.set_cons_succ])
      refine' wpAnyH_take (i := 2) (oi := _) (v := _) ?hi22 (by kernel_rfl) (by kernel_rfl) (by kernel_rfl) ?hq22 (Or.inl ⟨?hw22, ?hy22⟩) (by assumption) ?rest22
      case hi22 => (simp only [List.getElem?_toArray, List.getElem?_cons_succ, List.getElem?_cons_zero]; rfl)
      case hq22 => exact fun _ _ _ h => h
      case hw22 => rfl
      case hy22 => (intro wq hSw; (try dsimp only at hSw); go_simp; (try with_reducible rfl))
      (try simp only [Act.put, List.setIfInBounds_toArray, List.set_cons_zero, List.set_cons_succ])
      refine' wpAnyH_take (i := 3) (oi := _) (v := _) ?hi23 (by kernel_rfl) (by kernel_rfl) (by kernel_rfl) ?hq23 (Or.inl ⟨?hw23, ?hy23⟩) (by assumption) ?rest23
      case hi23 => (simp only [List.getElem?_toArray, List.getElem?_cons_succ, List.getElem?_cons_zero]; rfl)
      case hq23 => exact fun _ _ _ h => h
      case hw23 => rfl
      case hy23 => (intro wq hSw; (try dsimp only at hSw); go_simp; (try with_reducible rfl))
      (try simp only [Act.put, List.setIfInBounds_toArray, List.set_cons_zero, List.set_cons_succ])
      refine wpAnyH_ready (rs := [4]) (by kernel_rfl) (by simp) ?_
      refine' AllReadyH.cons (o := _) ?hi24 (fun K hK => ?rest24) AllReadyH.nil
      case hi24 => (simp only [List.getElem?_toArray, List.getElem?_cons_succ, List.getElem?_cons_zero]; rfl)
      go_simp
      go_at_call 13
      refine (FillC.use HQ A c _ ((HC.out).rds (A := A) (xs := q) (by simp)) hqc).mono ?_
      rintro e u1004 ⟨A1004, c1004, rfl, hc1004, hr1004, hB1004⟩
      have HD := Lib.hid ((HC.out.call hB1004).add hr1004)
      clear hr1004 hB1004 HC
      have HC := HD
      clear HD
      go_wp2_with fail
      refine hK.out _ _ (by (try dsimp only); exact ⟨cell_of_row _ _ 0 _ _ _ ((HC.out).2.2 ⟨u1001.heap.size, 25, #[.int .i64 W, .int .i64 H, .int .i64 (q.length : Int), .slice A1001 ys.length c1001]⟩ (by simp)), cell_of_row _ _ 1 _ _ _ ((HC.out).2.2 ⟨u1001.heap.size, 25, #[.int .i64 W, .int .i64 H, .int .i64 (q.length : Int), .slice A1001 ys.length c1001]⟩ (by simp)), cell_of_row _ _ 2 _ _ _ ((HC.out).2.2 ⟨u1001.heap.size, 25, #[.int .i64 W, .int .i64 H, .int .i64 (q.length : Int), .slice A1001 ys.length c1001]⟩ (by simp)), cell_of_row _ _ 3 _ _ _ ((HC.out).2.2 ⟨u1001.heap.size, 25, #[.int .i64 W, .int .i64 H, .int .i64 (q.length : Int), .slice A1001 ys.length c1001]⟩ (by simp))⟩) (fun hHeld => ?_)
      clear hK K
      (try simp only [Act.put, List.setIfInBounds_toArray, List.set_cons_zero, List.set_cons_succ])
      refine wpAnyH_ready (rs := [5]) (by kernel_rfl) (by simp) ?_
      refine' AllReadyH.cons (o := _) ?hi25 (fun K hK => ?rest25) AllReadyH.nil
      case hi25 => (simp only [List.getElem?_toArray, List.getElem?_cons_succ, List.getElem?_cons_zero]; rfl)
      go_simp
      go_at_call 9
      refine (lEqIm W H (q.length : Int) ys A1001 A1004 c1001 c1004 _ ((HC.out).rds (A := A1001) (xs := ys) (by simp)) ((HC.out).rds (A := A1004) (xs := ys) (by simp)) (by omega)).mono ?_
      rintro e u1005 ⟨rfl, hB1005⟩
      have HD := Lib.hid (HC.out.call hB1005)
      clear hB1005 HC
      have HC := HD
      clear HD
      go_wp2_with fail
      refine hK.out _ _ (by (try dsimp only); exact ⟨cell_of_row _ _ 0 _ _ _ ((HC.out).2.2 ⟨u1001.heap.size, 25, #[.int .i64 W, .int .i64 H, .int .i64 (q.length : Int), .slice A1001 ys.length c1001]⟩ (by simp)), cell_of_row _ _ 1 _ _ _ ((HC.out).2.2 ⟨u1001.heap.size, 25, #[.int .i64 W, .int .i64 H, .int .i64 (q.length : Int), .slice A1001 ys.length c1001]⟩ (by simp)), cell_of_row _ _ 2 _ _ _ ((HC.out).2.2 ⟨u1001.heap.size, 25, #[.int .i64 W, .int .i64 H, .int .i64 (q.length : Int), .slice A1001 ys.length c1001]⟩ (by simp)), cell_of_row _ _ 3 _ _ _ ((HC.out).2.2 ⟨u1001.heap.size, 25, #[.int .i64 W, .int .i64 H, .int .i64 (q.length : Int), .slice A1001 ys.length c1001]⟩ (by simp))⟩) (fun hHeld => ?_)
      clear hK K
      (try simp only [Act.put, List.setIfInBounds_toArray, List.set_cons_zero, List.set_cons_succ])
      refine' wpAnyH_take (i := 6) (oi := _) (v := _) ?hi26 (by kernel_rfl) (by kernel_rfl) (by kernel_rfl) ?hq26 (Or.inl ⟨?hw26, ?hy26⟩) (by assumption) ?rest26
      case hi26 => (simp only [List.getElem?_toArray, List.getElem?_cons_succ, List.getElem?_cons_zero]; rfl)
      case hq26 => exact fun _ _ _ h => h
      case hw26 => rfl
      case hy26 => (intro wq hSw; (try dsimp only at hSw); go_simp; (try with_reducible rfl))
      (try simp only [Act.put, List.setIfInBounds_toArray, List.set_cons_zero, List.set_cons_succ])
      refine' wpAnyH_take (i := 7) (oi := _) (v := _) ?hi27 (by kernel_rfl) (by kernel_rfl) (by kernel_rfl) ?hq27 (Or.inl ⟨?hw27, ?hy27⟩) (by assumption) ?rest27
      case hi27 => (simp only [List.getElem?_toArray, List.getElem?_cons_succ, List.getElem?_cons_zero]; rfl)
      case hq27 => exact fun _ _ _ h => h
      case hw27 => rfl
      case hy27 => (intro wq hSw; (try dsimp only at hSw); go_simp; (try with_reducible rfl))
      (try simp only [Act.put, List.setIfInBounds_toArray, List.set_cons_zero, List.set_cons_succ])
      refine' wpAnyH_take (i := 8) (oi := _) (v := _) ?hi28 (by kernel_rfl) (by kernel_rfl) (by kernel_rfl) ?hq28 (Or.inl ⟨?hw28, ?hy28⟩) (by assumption) ?rest28
      case hi28 => (simp only [List.getElem?_toArray, List.getElem?_cons_succ, List.getElem?_cons_zero]; rfl)
      case hq28 => exact fun _ _ _ h => h
      case hw28 => rfl
      case hy28 => (intro wq hSw; (try dsimp only at hSw); go_simp; (try with_reducible rfl))
      (try simp only [Act.put, List.setIfInBounds_toArray, List.set_cons_zero, List.set_cons_succ])
      refine' wpAnyH_take (i := 9) (oi := _) (v := _) ?hi29 (by kernel_rfl) (by kernel_rfl) (by kernel_rfl) ?hq29 (Or.inl ⟨?hw29, ?hy29⟩) (by assumption) ?rest29
      case hi29 => (simp only [List.getElem?_toArray, List.getElem?_cons_succ, List.getElem?_cons_zero]; rfl)
      case hq29 => exact fun _ _ _ h => h
      case hw29 => rfl
      case hy29 => (intro wq hSw; (try dsimp only at hSw); go_simp; (try with_reducible rfl))
      (try simp only [Act.put, List.setIfInBounds_toArray, List.set_cons_zero, List.set_cons_succ])
      refine' wpAnyH_take (i := 10) (oi := _) (v := _) ?hi30 (by kernel_rfl) (by kernel_rfl) (by kernel_rfl) ?hq30 (Or.inl ⟨?hw30, ?hy30⟩) (by assumption) ?rest30
      case hi30 => (simp only [List.getElem?_toArray, List.getElem?_cons_succ, List.getElem?_cons_zero]; rfl)
      case hq30 => exact fun _ _ _ h => h
      case hw30 => rfl
      case hy30 => (intro wq hSw; (try dsimp only at hSw); go_simp; (try with_reducible rfl))
      (try simp only [Act.put, List.setIfInBounds_toArray, List.set_cons_zero, List.set_cons_succ])
      refine' wpAnyH_take (i := 11) (oi := _) (v := _) ?hi31 (by kernel_rfl) (by kernel_rfl) (by kernel_rfl) ?hq31 (Or.inl ⟨?hw31, ?hy31⟩) (by assumption) ?rest31
      case hi31 => (simp only [List.getElem?_toArray, List.getElem?_cons_succ, List.getElem?_cons_zero]; rfl)
      case hq31 => exact fun _ _ _ h => h
      case hw31 => rfl
      case hy31 => (intro wq hSw; (try dsimp only at hSw); go_simp; (try with_reducible rfl))
      (try simp only [Act.put, List.setIfInBounds_toArray, List.set_cons_zero, List.set_cons_succ])
      refine wpAnyH_done (by kernel_rfl) ?_ _
      have S1006 := HC.out
      clear HC
      have Fox := S1006.2.2 ⟨u1001.heap.size, 25, #[.int .i64 W, .int .i64 H, .int .i64 (q.length : Int), .slice A1001 ys.length c1001]⟩ (by simp)
      have ol : u1001.heap.size < u1005.heap.size := Fox.lt
      have o0 : u1005.cell? ⟨u1001.heap.size, 0, none⟩ = some (.int .i64 W) := cell_of_row _ _ 0 _ _ _ Fox
      have o1 : u1005.cell? ⟨u1001.heap.size, 1, none⟩ = some (.int .i64 H) := cell_of_row _ _ 1 _ _ _ Fox
      have o2 : u1005.cell? ⟨u1001.heap.size, 2, none⟩ = some (.int .i64 (q.length : Int)) := cell_of_row _ _ 2 _ _ _ Fox
      have o3 : u1005.cell? ⟨u1001.heap.size, 3, none⟩ = some (.slice A1001 ys.length c1001) := cell_of_row _ _ 3 _ _ _ Fox
      clear Fox
      go_wp2_with fail
      refine (HPal.out A1001 c1001 _ ((S1006).rds (A := A1001) (xs := ys) (by simp)) hc1001).mono ?_
      rintro e u90 ⟨A90, c90, rfl, hc90, hL90, hB90⟩
      have S90 := S1006.call hB90
      clear ol o0 o1 o2 o3
      clear hB90 S1006 HI HQ HPal
      obtain ⟨gb, goff, A0, c0, rfl, hgb, hc0, hz, hr0⟩ := hL90.at (i := 0) (by simp)
      rw [show ([q].getD 0 []) = q from rfl] at hc0 hz hr0
      have hz : u90.cell? ⟨gb, goff, none⟩ = some (.slice A0 q.length c0) := by simpa using hz
      have HGl := Lib.hid hgb
      have HR0 := Lib.hid hr0
      have hw1 : IntKind.i64.wrap (W - 1) = W - 1 := IntWalk.i64_in _ (by omega)
      have hw2 : IntKind.i64.wrap (H - 1) = H - 1 := IntWalk.i64_in _ (by omega)
      clear hL90 hgb hr0
      have Fox := S90.2.2 ⟨u1001.heap.size, 25, #[.int .i64 W, .int .i64 H, .int .i64 (q.length : Int), .slice A1001 ys.length c1001]⟩ (by simp)
      have ol : u1001.heap.size < u90.heap.size := Fox.lt
      have o0 : u90.cell? ⟨u1001.heap.size, 0, none⟩ = some (.int .i64 W) := cell_of_row _ _ 0 _ _ _ Fox
      have o1 : u90.cell? ⟨u1001.heap.size, 1, none⟩ = some (.int .i64 H) := cell_of_row _ _ 1 _ _ _ Fox
      have o2 : u90.cell? ⟨u1001.heap.size, 2, none⟩ = some (.int .i64 (q.length : Int)) := cell_of_row _ _ 2 _ _ _ Fox
      have o3 : u90.cell? ⟨u1001.heap.size, 3, none⟩ = some (.slice A1001 ys.length c1001) := cell_of_row _ _ 3 _ _ _ Fox
      clear Fox
      go_wp2_with fail
      refine (lEqInts_same A0 A c0 c q _ HR0.out ((S90).rds (A := A) (xs := q) (by simp)) (by omega)).mono ?_
      rintro e u91 ⟨rfl, hB⟩
      have S91 := S90.call hB
      clear ol o0 o1 o2 o3
      clear hB S90 hz HR0 HGl
      have Fox := S91.2.2 ⟨u1001.heap.size, 25, #[.int .i64 W, .int .i64 H, .int .i64 (q.length : Int), .slice A1001 ys.length c1001]⟩ (by simp)
      have ol : u1001.heap.size < u91.heap.size := Fox.lt
      have o0 : u91.cell? ⟨u1001.heap.size, 0, none⟩ = some (.int .i64 W) := cell_of_row _ _ 0 _ _ _ Fox
      have o1 : u91.cell? ⟨u1001.heap.size, 1, none⟩ = some (.int .i64 H) := cell_of_row _ _ 1 _ _ _ Fox
      have o2 : u91.cell? ⟨u1001.heap.size, 2, none⟩ = some (.int .i64 (q.length : Int)) := cell_of_row _ _ 2 _ _ _ Fox
      have o3 : u91.cell? ⟨u1001.heap.size, 3, none⟩ = some (.slice A1001 ys.length c1001) := cell_of_row _ _ 3 _ _ _ Fox
      clear Fox
      go_wp2_with fail
      refine (PxC.use HPx A1001 c1001 _ ((S91).rds (A := A1001) (xs := ys) (by simp)) hc1001).mono ?_
      rintro e u92 ⟨A92, c92, rfl, hc92, hr92, hB⟩
      have S92 := (S91.call hB).add hr92
      clear ol o0 o1 o2 o3
      clear hB S91 hr92
      have Fox := S92.2.2 ⟨u1001.heap.size, 25, #[.int .i64 W, .int .i64 H, .int .i64 (q.length : Int), .slice A1001 ys.length c1001]⟩ (by simp)
      have ol : u1001.heap.size < u92.heap.size := Fox.lt
      have o0 : u92.cell? ⟨u1001.heap.size, 0, none⟩ = some (.int .i64 W) := cell_of_row _ _ 0 _ _ _ Fox
      have o1 : u92.cell? ⟨u1001.heap.size, 1, none⟩ = some (.int .i64 H) := cell_of_row _ _ 1 _ _ _ Fox
      have o2 : u92.cell? ⟨u1001.heap.size, 2, none⟩ = some (.int .i64 (q.length : Int)) := cell_of_row _ _ 2 _ _ _ Fox
      have o3 : u92.cell? ⟨u1001.heap.size, 3, none⟩ = some (.slice A1001 ys.length c1001) := cell_of_row _ _ 3 _ _ _ Fox
      clear Fox
      go_wp2_with fail
      refine (lEqInts_same A92 A c92 c q _ ((S92).rds (A := A92) (xs := q) (by simp)) ((S92).rds (A := A) (xs := q) (by simp)) (by omega)).mono ?_
      rintro e u93 ⟨rfl, hB⟩
      have S93 := S92.call hB
      clear ol o0 o1 o2 o3
      clear hB S92 
      have Fox := S93.2.2 ⟨u1001.heap.size, 25, #[.int .i64 W, .int .i64 H, .int .i64 (q.length : Int), .slice A1001 ys.length c1001]⟩ (by simp)
      have ol : u1001.heap.size < u93.heap.size := Fox.lt
      have o0 : u93.cell? ⟨u1001.heap.size, 0, none⟩ = some (.int .i64 W) := cell_of_row _ _ 0 _ _ _ Fox
      have o1 : u93.cell? ⟨u1001.heap.size, 1, none⟩ = some (.int .i64 H) := cell_of_row _ _ 1 _ _ _ Fox
      have o2 : u93.cell? ⟨u1001.heap.size, 2, none⟩ = some (.int .i64 (q.length : Int)) := cell_of_row _ _ 2 _ _ _ Fox
      have o3 : u93.cell? ⟨u1001.heap.size, 3, none⟩ = some (.slice A1001 ys.length c1001) := cell_of_row _ _ 3 _ _ _ Fox
      clear Fox
      go_wp2_with fail
      refine (HV.out A1001 c1001 _ ((S93).rds (A := A1001) (xs := ys) (by simp))).mono ?_
      rintro e u94 ⟨rfl, hB⟩
      have S94 := S93.call hB
      clear ol o0 o1 o2 o3
      clear hB S93 HPx HV
      go_wp2
      go_ret
      exact ⟨rfl, S94.1⟩

/-! ### From the walk to the statement. -/
theorem own : ownKnob Try.prog.godebug = none := by kernel_rfl
theorem laidOut : laidOutB Try.prog = true := by kernel_rfl
set_option maxRecDepth 100000 in
theorem lifted (os : Os) (started : os.Started) (H : Type) (enc : TypeId × Value → H) :
    ReturnsInHanded {} Try.checked os 4 .any (Rows.fnFillImageSpec.pre6 enc Try.prog Try.f4 Rows.fnFillImageRow.domain false) (Rows.fnFillImageSpec.post enc Try.prog Try.f4 false true false false) := by
  refine returnsInHanded_of_change (C := Try.checked) own started (by kernel_rfl) Try.func4
    (ChangeSpec.witness6 (enc := enc) (C := Try.checked) false ⟨#[], #[.slice none 0 0], []⟩ 8 (by kernel_rfl) (by kernel_rfl) (by kernel_rfl) (by kernel_rfl)) ?_
  intro W base args ds gs before hval0 hW hcnd _
  have hval : ∀ (j : Nat) t v, Try.f4.params[j]? = some t → args[j]? = some v → Value.okWide Try.prog W .any base t v := hval0
  have hW' := hW
  obtain ⟨p, q, hA0, hV, rfl, hfz, hnd⟩ := hW
  have hA : DataW.TrodAll enc Try.prog W 0 (fun _ => true) true Try.f4.params.toList args.toList ds p := hA0
  rw [Try.params4] at hA hval
  obtain ⟨v0, vs0, d0, ds0, p0, q0, hargs, rfl, rfl, h0, r0⟩ := trodAll_cons hA
  obtain ⟨rfl, rfl, rfl⟩ := trodAll_nil r0
  obtain rfl : args = #[v0] := by cases args; simp_all
  obtain ⟨rfl, rfl⟩ := trodVars_none hV
  obtain ⟨a0, len0, cap0, rfl⟩ := okWide_slice Try.underlying22 (hval 0 22 v0 rfl rfl)
  have k0 := h0
  have lt0 : ∀ x ∈ p0, x.block < W.heap.size := by obtain ⟨m, hm⟩ := k0; exact DataW.trod_lt m _ _ _ hm
  obtain ⟨z0, hl0, hc0, w0⟩ : ∃ zs : List Int, len0 = zs.length ∧ zs.length ≤ cap0 ∧ Rdw .u8 W W.heap.size a0 zs := by
    obtain ⟨fuel, hf⟩ := h0
    rcases open_ints Try.underlying22 Try.underlying5 (by kernel_rfl) hf with ⟨hcs, _⟩ | ⟨x, l, c, zs, hcs, _, hl, hm, hz, _, hcell, hwz⟩
    · simp [Value.cells] at hcs
      obtain ⟨rfl, rfl, rfl⟩ := hcs
      exact ⟨[], rfl, Nat.le_refl _, Rdw.nil⟩
    · simp [Value.cells] at hcs
      obtain ⟨rfl, rfl, rfl⟩ := hcs
      exact ⟨zs.take len0, by simp at hz ⊢; omega, by simp at hz ⊢; omega, Rdw.of_row hl hm (by simpa using hz) hcell hwz⟩
  subst hl0
  clear hA0 hval0
  refine (walk W a0 cap0 z0 hc0 w0).mono fun e W' ⟨he, bel⟩ => ?_
  subst he
  exact ⟨_, rfl, _, _, _, [], _, [], hW', trodAll_mk1 (shut_bool Try.underlying4 _), (trodAll_cons_mk (Below.trod laidOut (by kernel_rfl) (of_decide_eq_true (by kernel_rfl)) k0 bel lt0) trodAll_mk0), rfl, bel.frame _, fun h => by cases h⟩

theorem over : Rows.fnFillImageRow.holds Try.pinned (OpenSpec.ofChange Rows.fnFillImageSpec) :=
  OpenClaim.holds_of_wide 4 Try.f4 rfl rfl rfl rfl rfl rfl rfl ⟨rfl, rfl, rfl, rfl, rfl⟩ rfl rfl rfl rfl rfl (by kernel_rfl) Try.func4 (by kernel_rfl)
    (of_decide_eq_true (by kernel_rfl)) (by unfold Func.isWrapper; first | (rw [if_pos (by decide +kernel)]; kernel_rfl) | (rw [if_neg (by decide +kernel)]; exact ⟨rfl, rfl⟩))
    (fun os started H enc _ => lifted os started H enc)

theorem proved : Rows.FnFillImageSaid := over
end Go.Proofs.Ytjcohmljpokgcaa.fnFillImage
