/- Whatever the code: EqualizeImage of the drawn image answers what the model answers; the order of numbers is kept, and where not all are equal, the least becomes 0 and the greatest 255; an image of equal numbers stays. -/
import Derived.Test.YtebfaomlljekiaaRows
import Derived.WalkKit
import Derived.ProofKit
import Derived.OpenShut
import Derived.ShutString
import Derived.ChangeOld
import Derived.Below
import Derived.Test.YtebfaomlljekiaaImgEq
import Derived.Test.YtebfaomlljekiaaOkJ
import Derived.Test.YtebfaomlljekiaaDrawHis
import Derived.Deep.QuietTactic
import Derived.BigQuiet
namespace Go.Proofs.Ytebfaomlljekiaa.fnEqualizeImage
open Go.ChangeShapes Go.WideShapes Go.ChangeAt Go.RowKit
open Go.ChangeMaps (open_string shut_string)
set_option linter.unusedVariables false

set_option linter.unusedSimpArgs false
set_option maxRecDepth 20000
set_option maxHeartbeats 16000000 in
theorem walk (w : World) (a0 : Option Addr) (cap0 : Nat) (z0 : List Int) (hc0 : z0.length ≤ cap0) (w0 : Rdw .u8 w w.heap.size a0 z0) :
    Calls Try.prog 6 #[.slice a0 z0.length cap0] w fun e w' => e = .returned (.bool true) ∧ Below w.heap.size w w' := by
  have hm := w0.2.1
  unfold maxLen at hm
  by_cases hlen : 1048576 < z0.length
  · go_enter Try.func6, Try.ntmps6
    go_wp2
    go_ret
    exact ⟨rfl, Below.refl _ _⟩
  · go_enter Try.func6, Try.ntmps6
    go_wp2_with fail
    refine (drawEqu_any a0 cap0 z0 w hc0 w0).mono ?_
    rintro e u1 ⟨W, H, P, A, c, xs, rfl, hx, hxc, hr, hbel⟩
    have S1 : LSt w u1 [(A, xs)] [] := (LSt.start hbel).add hr
    obtain ⟨X, Y, Z, ys, hys, HI, HQ, hor⟩ := equ_law W H P xs hx
    clear w0 hr hbel hm
    have S1001 : LSt w (u1.alloc (.cells #[.int .i64 W, .int .i64 H, .int .i64 P, .slice A xs.length c] 25)) [(A, xs)] [⟨u1.heap.size, 25, #[.int .i64 W, .int .i64 H, .int .i64 P, .slice A xs.length c]⟩] := LSt.box2 S1 25 #[.int .i64 W, .int .i64 H, .int .i64 P, .slice A xs.length c] u1.heap.size (by simp)
    go_wp2_with fail
    clear S1
    generalize u1.alloc (.cells #[.int .i64 W, .int .i64 H, .int .i64 P, .slice A xs.length c] 25) = u1002 at *
    refine (ImC0.use HI A c _ ((S1001).rds (A := A) (xs := xs) (by simp)) hxc).mono ?_
    rintro e u1003 ⟨A1003, c1003, rfl, hc1003, hr1003, hB1003⟩
    have S1003 := (S1001.call hB1003).add hr1003
    clear hr1003 hB1003 S1001
    have Fmx := S1003.2.2 ⟨u1.heap.size, 25, #[.int .i64 W, .int .i64 H, .int .i64 P, .slice A xs.length c]⟩ (by simp)
    have ml : u1.heap.size < u1003.heap.size := Fmx.lt
    have m0 : u1003.cell? ⟨u1.heap.size, 0, none⟩ = some (.int .i64 W) := cell_of_row _ _ 0 _ _ _ Fmx
    have m1 : u1003.cell? ⟨u1.heap.size, 1, none⟩ = some (.int .i64 H) := cell_of_row _ _ 1 _ _ _ Fmx
    have m2 : u1003.cell? ⟨u1.heap.size, 2, none⟩ = some (.int .i64 P) := cell_of_row _ _ 2 _ _ _ Fmx
    have m3 : u1003.cell? ⟨u1.heap.size, 3, none⟩ = some (.slice A xs.length c) := cell_of_row _ _ 3 _ _ _ Fmx
    clear Fmx
    have S1004 : LSt w (u1003.alloc (.cells #[.int .i64 X, .int .i64 Y, .int .i64 Z, .slice A1003 ys.length c1003] 25)) [(A1003, ys), (A, xs)] [⟨u1003.heap.size, 25, #[.int .i64 X, .int .i64 Y, .int .i64 Z, .slice A1003 ys.length c1003]⟩, ⟨u1.heap.size, 25, #[.int .i64 W, .int .i64 H, .int .i64 P, .slice A xs.length c]⟩] := LSt.box2 S1003 25 #[.int .i64 X, .int .i64 Y, .int .i64 Z, .slice A1003 ys.length c1003] u1003.heap.size (by simp)
    go_upto_region 5 with fail
    clear ml m0 m1 m2 m3
    clear S1003
    generalize u1003.alloc (.cells #[.int .i64 X, .int .i64 Y, .int .i64 Z, .slice A1003 ys.length c1003] 25) = u1005 at *
    have HC := Lib.hid S1004.drew
    clear S1004
    refine wp_region_held_drew (S := (fun w' => w'.cell? ⟨u1003.heap.size, 0, none⟩ = some (.int .i64 X) ∧ w'.cell? ⟨u1003.heap.size, 1, none⟩ = some (.int .i64 Y) ∧ w'.cell? ⟨u1003.heap.size, 2, none⟩ = some (.int .i64 Z) ∧ w'.cell? ⟨u1003.heap.size, 3, none⟩ = some (.slice A1003 ys.length c1003) ∧ w'.cell? ⟨u1.heap.size, 0, none⟩ = some (.int .i64 W) ∧ w'.cell? ⟨u1.heap.size, 1, none⟩ = some (.int .i64 H) ∧ w'.cell? ⟨u1.heap.size, 2, none⟩ = some (.int .i64 P) ∧ w'.cell? ⟨u1.heap.size, 3, none⟩ = some (.slice A xs.length c))) (by kernel_rfl) (by exact ⟨cell_of_row _ _ 0 _ _ _ ((HC.out).2.2 ⟨u1003.heap.size, 25, #[.int .i64 X, .int .i64 Y, .int .i64 Z, .slice A1003 ys.length c1003]⟩ (by simp)), cell_of_row _ _ 1 _ _ _ ((HC.out).2.2 ⟨u1003.heap.size, 25, #[.int .i64 X, .int .i64 Y, .int .i64 Z, .slice A1003 ys.length c1003]⟩ (by simp)), cell_of_row _ _ 2 _ _ _ ((HC.out).2.2 ⟨u1003.heap.size, 25, #[.int .i64 X, .int .i64 Y, .int .i64 Z, .slice A1003 ys.length c1003]⟩ (by simp)), cell_of_row _ _ 3 _ _ _ ((HC.out).2.2 ⟨u1003.heap.size, 25, #[.int .i64 X, .int .i64 Y, .int .i64 Z, .slice A1003 ys.length c1003]⟩ (by simp)), cell_of_row _ _ 0 _ _ _ ((HC.out).2.2 ⟨u1.heap.size, 25, #[.int .i64 W, .int .i64 H, .int .i64 P, .slice A xs.length c]⟩ (by simp)), cell_of_row _ _ 1 _ _ _ ((HC.out).2.2 ⟨u1.heap.size, 25, #[.int .i64 W, .int .i64 H, .int .i64 P, .slice A xs.length c]⟩ (by simp)), cell_of_row _ _ 2 _ _ _ ((HC.out).2.2 ⟨u1.heap.size, 25, #[.int .i64 W, .int .i64 H, .int .i64 P, .slice A xs.length c]⟩ (by simp)), cell_of_row _ _ 3 _ _ _ ((HC.out).2.2 ⟨u1.heap.size, 25, #[.int .i64 W, .int .i64 H, .int .i64 P, .slice A xs.length c]⟩ (by simp))⟩) (fun hHeld => ?_)
    refine' wpAnyH_take (i := 0) (oi := _) (v := _) ?hi1 (by kernel_rfl) (by kernel_rfl) (by kernel_rfl) ?hq1 (Or.inl ⟨?hw1, ?hy1⟩) (by assumption) ?rest1
    case hi1 => (simp only [List.getElem?_toArray, List.getElem?_cons_succ, List.getElem?_cons_zero]; rfl)
    case hq1 => exact fun _ _ _ h => h
    case hw1 => rfl
    case hy1 => (intro wq hSw; (try dsimp only at hSw); go_simp; (try with_reducible rfl))
    (try simp only [Act.put, List.setIfInBounds_toArray, List.set_cons_zero, List.set_cons_succ])
    refine' wpAnyH_take (i := 1) (oi := _) (v := _) ?hi2 (by kernel_rfl) (by kernel_rfl) (by kernel_rfl) ?hq2 (Or.inl ⟨?hw2, ?hy2⟩) (by assumption) ?rest2
    case hi2 => (simp only [List.getElem?_toArray, List.getElem?_cons_succ, List.getElem?_cons_zero]; rfl)
    case hq2 => exact fun _ _ _ h => h
    case hw2 => rfl
    case hy2 => (intro wq hSw; (try dsimp only at hSw); go_simp; (try with_reducible rfl))
    (try simp only [Act.put, List.setIfInBounds_toArray, List.set_cons_zero, List.set_cons_succ])
    refine wpAnyH_ready (rs := [2]) (by kernel_rfl) (by simp) ?_
    refine' AllReadyH.cons (o := _) ?hi3 (fun K hK => ?rest3) AllReadyH.nil
    case hi3 => (simp only [List.getElem?_toArray, List.getElem?_cons_succ, List.getElem?_cons_zero]; rfl)
    go_simp
    go_at_call 25
    refine (ImC0.use HQ A c _ ((HC.out).rds (A := A) (xs := xs) (by simp)) hxc).mono ?_
    rintro e u1006 ⟨A1006, c1006, rfl, hc1006, hr1006, hB1006⟩
    have HD := Lib.hid ((HC.out.call hB1006).add hr1006)
    clear hr1006 hB1006 HC
    have HC := HD
    clear HD
    go_wp2_with fail
    refine hK.out _ _ (by (try dsimp only); exact ⟨cell_of_row _ _ 0 _ _ _ ((HC.out).2.2 ⟨u1003.heap.size, 25, #[.int .i64 X, .int .i64 Y, .int .i64 Z, .slice A1003 ys.length c1003]⟩ (by simp)), cell_of_row _ _ 1 _ _ _ ((HC.out).2.2 ⟨u1003.heap.size, 25, #[.int .i64 X, .int .i64 Y, .int .i64 Z, .slice A1003 ys.length c1003]⟩ (by simp)), cell_of_row _ _ 2 _ _ _ ((HC.out).2.2 ⟨u1003.heap.size, 25, #[.int .i64 X, .int .i64 Y, .int .i64 Z, .slice A1003 ys.length c1003]⟩ (by simp)), cell_of_row _ _ 3 _ _ _ ((HC.out).2.2 ⟨u1003.heap.size, 25, #[.int .i64 X, .int .i64 Y, .int .i64 Z, .slice A1003 ys.length c1003]⟩ (by simp)), cell_of_row _ _ 0 _ _ _ ((HC.out).2.2 ⟨u1.heap.size, 25, #[.int .i64 W, .int .i64 H, .int .i64 P, .slice A xs.length c]⟩ (by simp)), cell_of_row _ _ 1 _ _ _ ((HC.out).2.2 ⟨u1.heap.size, 25, #[.int .i64 W, .int .i64 H, .int .i64 P, .slice A xs.length c]⟩ (by simp)), cell_of_row _ _ 2 _ _ _ ((HC.out).2.2 ⟨u1.heap.size, 25, #[.int .i64 W, .int .i64 H, .int .i64 P, .slice A xs.length c]⟩ (by simp)), cell_of_row _ _ 3 _ _ _ ((HC.out).2.2 ⟨u1.heap.size, 25, #[.int .i64 W, .int .i64 H, .int .i64 P, .slice A xs.length c]⟩ (by simp))⟩) (fun hHeld => ?_)
    clear hK K
    (try simp only [Act.put, List.setIfInBounds_toArray, List.set_cons_zero, List.set_cons_succ])
    refine wpAnyH_ready (rs := [3]) (by kernel_rfl) (by simp) ?_
    refine' AllReadyH.cons (o := _) ?hi4 (fun K hK => ?rest4) AllReadyH.nil
    case hi4 => (simp only [List.getElem?_toArray, List.getElem?_cons_succ, List.getElem?_cons_zero]; rfl)
    go_simp
    go_at_call 18
    refine (lEqIm X Y Z ys A1003 A1006 c1003 c1006 _ ((HC.out).rds (A := A1003) (xs := ys) (by simp)) ((HC.out).rds (A := A1006) (xs := ys) (by simp)) (by omega)).mono ?_
    rintro e u1007 ⟨rfl, hB1007⟩
    have HD := Lib.hid (HC.out.call hB1007)
    clear hB1007 HC
    have HC := HD
    clear HD
    go_wp2_with fail
    refine hK.out _ _ (by (try dsimp only); exact ⟨cell_of_row _ _ 0 _ _ _ ((HC.out).2.2 ⟨u1003.heap.size, 25, #[.int .i64 X, .int .i64 Y, .int .i64 Z, .slice A1003 ys.length c1003]⟩ (by simp)), cell_of_row _ _ 1 _ _ _ ((HC.out).2.2 ⟨u1003.heap.size, 25, #[.int .i64 X, .int .i64 Y, .int .i64 Z, .slice A1003 ys.length c1003]⟩ (by simp)), cell_of_row _ _ 2 _ _ _ ((HC.out).2.2 ⟨u1003.heap.size, 25, #[.int .i64 X, .int .i64 Y, .int .i64 Z, .slice A1003 ys.length c1003]⟩ (by simp)), cell_of_row _ _ 3 _ _ _ ((HC.out).2.2 ⟨u1003.heap.size, 25, #[.int .i64 X, .int .i64 Y, .int .i64 Z, .slice A1003 ys.length c1003]⟩ (by simp)), cell_of_row _ _ 0 _ _ _ ((HC.out).2.2 ⟨u1.heap.size, 25, #[.int .i64 W, .int .i64 H, .int .i64 P, .slice A xs.length c]⟩ (by simp)), cell_of_row _ _ 1 _ _ _ ((HC.out).2.2 ⟨u1.heap.size, 25, #[.int .i64 W, .int .i64 H, .int .i64 P, .slice A xs.length c]⟩ (by simp)), cell_of_row _ _ 2 _ _ _ ((HC.out).2.2 ⟨u1.heap.size, 25, #[.int .i64 W, .int .i64 H, .int .i64 P, .slice A xs.length c]⟩ (by simp)), cell_of_row _ _ 3 _ _ _ ((HC.out).2.2 ⟨u1.heap.size, 25, #[.int .i64 W, .int .i64 H, .int .i64 P, .slice A xs.length c]⟩ (by simp))⟩) (fun hHeld => ?_)
    clear hK K
    (try simp only [Act.put, List.setIfInBounds_toArray, List.set_cons_zero, List.set_cons_succ])
    refine' wpAnyH_take (i := 4) (oi := _) (v := _) ?hi5 (by kernel_rfl) (by kernel_rfl) (by kernel_rfl) ?hq5 (Or.inl ⟨?hw5, ?hy5⟩) (by assumption) ?rest5
    case hi5 => (simp only [List.getElem?_toArray, List.getElem?_cons_succ, List.getElem?_cons_zero]; rfl)
    case hq5 => exact fun _ _ _ h => h
    case hw5 => rfl
    case hy5 => (intro wq hSw; (try dsimp only at hSw); go_simp; (try with_reducible rfl))
    (try simp only [Act.put, List.setIfInBounds_toArray, List.set_cons_zero, List.set_cons_succ])
    refine' wpAnyH_take (i := 5) (oi := _) (v := _) ?hi6 (by kernel_rfl) (by kernel_rfl) (by kernel_rfl) ?hq6 (Or.inl ⟨?hw6, ?hy6⟩) (by assumption) ?rest6
    case hi6 => (simp only [List.getElem?_toArray, List.getElem?_cons_succ, List.getElem?_cons_zero]; rfl)
    case hq6 => exact fun _ _ _ h => h
    case hw6 => rfl
    case hy6 => (intro wq hSw; (try dsimp only at hSw); go_simp; (try with_reducible rfl))
    (try simp only [Act.put, List.setIfInBounds_toArray, List.set_cons_zero, List.set_cons_succ])
    refine' wpAnyH_take (i := 6) (oi := _) (v := _) ?hi7 (by kernel_rfl) (by kernel_rfl) (by kernel_rfl) ?hq7 (Or.inl ⟨?hw7, ?hy7⟩) (by assumption) ?rest7
    case hi7 => (simp only [List.getElem?_toArray, List.getElem?_cons_succ, List.getElem?_cons_zero]; rfl)
    case hq7 => exact fun _ _ _ h => h
    case hw7 => rfl
    case hy7 => (intro wq hSw; (try dsimp only at hSw); go_simp; (try with_reducible rfl))
    (try simp only [Act.put, List.setIfInBounds_toArray, List.set_cons_zero, List.set_cons_succ])
    refine' wpAnyH_take (i := 7) (oi := _) (v := _) ?hi8 (by kernel_rfl) (by kernel_rfl) (by kernel_rfl) ?hq8 (Or.inl ⟨?hw8, ?hy8⟩) (by assumption) ?rest8
    case hi8 => (simp only [List.getElem?_toArray, List.getElem?_cons_succ, List.getElem?_cons_zero]; rfl)
    case hq8 => exact fun _ _ _ h => h
    case hw8 => rfl
    case hy8 => (intro wq hSw; (try dsimp only at hSw); go_simp; (try with_reducible rfl))
    (try simp only [Act.put, List.setIfInBounds_toArray, List.set_cons_zero, List.set_cons_succ])
    refine' wpAnyH_take (i := 8) (oi := _) (v := _) ?hi9 (by kernel_rfl) (by kernel_rfl) (by kernel_rfl) ?hq9 (Or.inl ⟨?hw9, ?hy9⟩) (by assumption) ?rest9
    case hi9 => (simp only [List.getElem?_toArray, List.getElem?_cons_succ, List.getElem?_cons_zero]; rfl)
    case hq9 => exact fun _ _ _ h => h
    case hw9 => rfl
    case hy9 => (intro wq hSw; (try dsimp only at hSw); go_simp; (try with_reducible rfl))
    (try simp only [Act.put, List.setIfInBounds_toArray, List.set_cons_zero, List.set_cons_succ])
    refine' wpAnyH_take (i := 9) (oi := _) (v := _) ?hi10 (by kernel_rfl) (by kernel_rfl) (by kernel_rfl) ?hq10 (Or.inl ⟨?hw10, ?hy10⟩) (by assumption) ?rest10
    case hi10 => (simp only [List.getElem?_toArray, List.getElem?_cons_succ, List.getElem?_cons_zero]; rfl)
    case hq10 => exact fun _ _ _ h => h
    case hw10 => rfl
    case hy10 => (intro wq hSw; (try dsimp only at hSw); go_simp; (try with_reducible rfl))
    (try simp only [Act.put, List.setIfInBounds_toArray, List.set_cons_zero, List.set_cons_succ])
    refine wpAnyH_done (by kernel_rfl) ?_ _
    have S1008 := HC.out
    clear HC
    rcases hor with rfl | ⟨hX0, rfl, rfl, rfl, h0, hyl, HYB, HMO, hor⟩
    · simp only [beq_self_eq_true]
      go_upto_region 6 with fail
      have HC := Lib.hid S1008.drew
      clear S1008
      refine wp_region_held_drew (S := (fun w' => w'.cell? ⟨u1003.heap.size, 0, none⟩ = some (.int .i64 0) ∧ w'.cell? ⟨u1003.heap.size, 1, none⟩ = some (.int .i64 Y) ∧ w'.cell? ⟨u1003.heap.size, 2, none⟩ = some (.int .i64 Z) ∧ w'.cell? ⟨u1003.heap.size, 3, none⟩ = some (.slice A1003 ys.length c1003) ∧ w'.cell? ⟨u1.heap.size, 0, none⟩ = some (.int .i64 W) ∧ w'.cell? ⟨u1.heap.size, 1, none⟩ = some (.int .i64 H) ∧ w'.cell? ⟨u1.heap.size, 2, none⟩ = some (.int .i64 P) ∧ w'.cell? ⟨u1.heap.size, 3, none⟩ = some (.slice A xs.length c))) (by kernel_rfl) (by exact ⟨cell_of_row _ _ 0 _ _ _ ((HC.out).2.2 ⟨u1003.heap.size, 25, #[.int .i64 0, .int .i64 Y, .int .i64 Z, .slice A1003 ys.length c1003]⟩ (by simp)), cell_of_row _ _ 1 _ _ _ ((HC.out).2.2 ⟨u1003.heap.size, 25, #[.int .i64 0, .int .i64 Y, .int .i64 Z, .slice A1003 ys.length c1003]⟩ (by simp)), cell_of_row _ _ 2 _ _ _ ((HC.out).2.2 ⟨u1003.heap.size, 25, #[.int .i64 0, .int .i64 Y, .int .i64 Z, .slice A1003 ys.length c1003]⟩ (by simp)), cell_of_row _ _ 3 _ _ _ ((HC.out).2.2 ⟨u1003.heap.size, 25, #[.int .i64 0, .int .i64 Y, .int .i64 Z, .slice A1003 ys.length c1003]⟩ (by simp)), cell_of_row _ _ 0 _ _ _ ((HC.out).2.2 ⟨u1.heap.size, 25, #[.int .i64 W, .int .i64 H, .int .i64 P, .slice A xs.length c]⟩ (by simp)), cell_of_row _ _ 1 _ _ _ ((HC.out).2.2 ⟨u1.heap.size, 25, #[.int .i64 W, .int .i64 H, .int .i64 P, .slice A xs.length c]⟩ (by simp)), cell_of_row _ _ 2 _ _ _ ((HC.out).2.2 ⟨u1.heap.size, 25, #[.int .i64 W, .int .i64 H, .int .i64 P, .slice A xs.length c]⟩ (by simp)), cell_of_row _ _ 3 _ _ _ ((HC.out).2.2 ⟨u1.heap.size, 25, #[.int .i64 W, .int .i64 H, .int .i64 P, .slice A xs.length c]⟩ (by simp))⟩) (fun hHeld => ?_)
      refine' wpAnyH_take (i := 0) (oi := _) (v := _) ?hi11 (by kernel_rfl) (by kernel_rfl) (by kernel_rfl) ?hq11 (Or.inl ⟨?hw11, ?hy11⟩) (by assumption) ?rest11
      case hi11 => (simp only [List.getElem?_toArray, List.getElem?_cons_succ, List.getElem?_cons_zero]; rfl)
      case hq11 => exact fun _ _ _ h => h
      case hw11 => rfl
      case hy11 => (intro wq hSw; (try dsimp only at hSw); go_simp; (try with_reducible rfl))
      (try simp only [Act.put, List.setIfInBounds_toArray, List.set_cons_zero, List.set_cons_succ])
      refine' wpAnyH_take (i := 1) (oi := _) (v := _) ?hi12 (by kernel_rfl) (by kernel_rfl) (by kernel_rfl) ?hq12 (Or.inl ⟨?hw12, ?hy12⟩) (by assumption) ?rest12
      case hi12 => (simp only [List.getElem?_toArray, List.getElem?_cons_succ, List.getElem?_cons_zero]; rfl)
      case hq12 => exact fun _ _ _ h => h
      case hw12 => rfl
      case hy12 => (intro wq hSw; (try dsimp only at hSw); go_simp; (try with_reducible rfl))
      (try simp only [Act.put, List.setIfInBounds_toArray, List.set_cons_zero, List.set_cons_succ])
      refine wpAnyH_ready (rs := [2]) (by kernel_rfl) (by simp) ?_
      refine' AllReadyH.cons (o := _) ?hi13 (fun K hK => ?rest13) AllReadyH.nil
      case hi13 => (simp only [List.getElem?_toArray, List.getElem?_cons_succ, List.getElem?_cons_zero]; rfl)
      go_simp
      go_at_call 25
      refine (ImC0.use HQ A c _ ((HC.out).rds (A := A) (xs := xs) (by simp)) hxc).mono ?_
      rintro e u1009 ⟨A1009, c1009, rfl, hc1009, hr1009, hB1009⟩
      have HD := Lib.hid ((HC.out.call hB1009).add hr1009)
      clear hr1009 hB1009 HC
      have HC := HD
      clear HD
      go_wp2_with fail
      refine hK.out _ _ (by (try dsimp only); exact ⟨cell_of_row _ _ 0 _ _ _ ((HC.out).2.2 ⟨u1003.heap.size, 25, #[.int .i64 0, .int .i64 Y, .int .i64 Z, .slice A1003 ys.length c1003]⟩ (by simp)), cell_of_row _ _ 1 _ _ _ ((HC.out).2.2 ⟨u1003.heap.size, 25, #[.int .i64 0, .int .i64 Y, .int .i64 Z, .slice A1003 ys.length c1003]⟩ (by simp)), cell_of_row _ _ 2 _ _ _ ((HC.out).2.2 ⟨u1003.heap.size, 25, #[.int .i64 0, .int .i64 Y, .int .i64 Z, .slice A1003 ys.length c1003]⟩ (by simp)), cell_of_row _ _ 3 _ _ _ ((HC.out).2.2 ⟨u1003.heap.size, 25, #[.int .i64 0, .int .i64 Y, .int .i64 Z, .slice A1003 ys.length c1003]⟩ (by simp)), cell_of_row _ _ 0 _ _ _ ((HC.out).2.2 ⟨u1.heap.size, 25, #[.int .i64 W, .int .i64 H, .int .i64 P, .slice A xs.length c]⟩ (by simp)), cell_of_row _ _ 1 _ _ _ ((HC.out).2.2 ⟨u1.heap.size, 25, #[.int .i64 W, .int .i64 H, .int .i64 P, .slice A xs.length c]⟩ (by simp)), cell_of_row _ _ 2 _ _ _ ((HC.out).2.2 ⟨u1.heap.size, 25, #[.int .i64 W, .int .i64 H, .int .i64 P, .slice A xs.length c]⟩ (by simp)), cell_of_row _ _ 3 _ _ _ ((HC.out).2.2 ⟨u1.heap.size, 25, #[.int .i64 W, .int .i64 H, .int .i64 P, .slice A xs.length c]⟩ (by simp))⟩) (fun hHeld => ?_)
      clear hK K
      (try simp only [Act.put, List.setIfInBounds_toArray, List.set_cons_zero, List.set_cons_succ])
      refine wpAnyH_ready (rs := [3]) (by kernel_rfl) (by simp) ?_
      refine' AllReadyH.cons (o := _) ?hi14 (fun K hK => ?rest14) AllReadyH.nil
      case hi14 => (simp only [List.getElem?_toArray, List.getElem?_cons_succ, List.getElem?_cons_zero]; rfl)
      go_simp
      go_at_call 18
      refine (lEqIm 0 Y Z ys A1003 A1009 c1003 c1009 _ ((HC.out).rds (A := A1003) (xs := ys) (by simp)) ((HC.out).rds (A := A1009) (xs := ys) (by simp)) (by omega)).mono ?_
      rintro e u1010 ⟨rfl, hB1010⟩
      have HD := Lib.hid (HC.out.call hB1010)
      clear hB1010 HC
      have HC := HD
      clear HD
      go_wp2_with fail
      refine hK.out _ _ (by (try dsimp only); exact ⟨cell_of_row _ _ 0 _ _ _ ((HC.out).2.2 ⟨u1003.heap.size, 25, #[.int .i64 0, .int .i64 Y, .int .i64 Z, .slice A1003 ys.length c1003]⟩ (by simp)), cell_of_row _ _ 1 _ _ _ ((HC.out).2.2 ⟨u1003.heap.size, 25, #[.int .i64 0, .int .i64 Y, .int .i64 Z, .slice A1003 ys.length c1003]⟩ (by simp)), cell_of_row _ _ 2 _ _ _ ((HC.out).2.2 ⟨u1003.heap.size, 25, #[.int .i64 0, .int .i64 Y, .int .i64 Z, .slice A1003 ys.length c1003]⟩ (by simp)), cell_of_row _ _ 3 _ _ _ ((HC.out).2.2 ⟨u1003.heap.size, 25, #[.int .i64 0, .int .i64 Y, .int .i64 Z, .slice A1003 ys.length c1003]⟩ (by simp)), cell_of_row _ _ 0 _ _ _ ((HC.out).2.2 ⟨u1.heap.size, 25, #[.int .i64 W, .int .i64 H, .int .i64 P, .slice A xs.length c]⟩ (by simp)), cell_of_row _ _ 1 _ _ _ ((HC.out).2.2 ⟨u1.heap.size, 25, #[.int .i64 W, .int .i64 H, .int .i64 P, .slice A xs.length c]⟩ (by simp)), cell_of_row _ _ 2 _ _ _ ((HC.out).2.2 ⟨u1.heap.size, 25, #[.int .i64 W, .int .i64 H, .int .i64 P, .slice A xs.length c]⟩ (by simp)), cell_of_row _ _ 3 _ _ _ ((HC.out).2.2 ⟨u1.heap.size, 25, #[.int .i64 W, .int .i64 H, .int .i64 P, .slice A xs.length c]⟩ (by simp))⟩) (fun hHeld => ?_)
      clear hK K
      (try simp only [Act.put, List.setIfInBounds_toArray, List.set_cons_zero, List.set_cons_succ])
      refine' wpAnyH_take (i := 4) (oi := _) (v := _) ?hi15 (by kernel_rfl) (by kernel_rfl) (by kernel_rfl) ?hq15 (Or.inl ⟨?hw15, ?hy15⟩) (by assumption) ?rest15
      case hi15 => (simp only [List.getElem?_toArray, List.getElem?_cons_succ, List.getElem?_cons_zero]; rfl)
      case hq15 => exact fun _ _ _ h => h
      case hw15 => rfl
      case hy15 => (intro wq hSw; (try dsimp only at hSw); go_simp; (try with_reducible rfl))
      (try simp only [Act.put, List.setIfInBounds_toArray, List.set_cons_zero, List.set_cons_succ])
      refine wpAnyH_done (by kernel_rfl) ?_ _
      have S1011 := HC.out
      clear HC
      go_wp2
      go_ret
      exact ⟨rfl, S1011.1⟩
    · skip
      have HI0 := Lib.hid S1008
      clear S1008
      have H0 := Lib.hid h0
      have HYL := Lib.hid hyl
      have HOR := Lib.hid hor
      clear hor hyl h0
      go_wp2
      have hw0 : (W == 0) = false := beq_eq_false_iff_ne.2 hX0
      rw [hw0]
      clear hw0 hX0
      go_loopw [5, 6, 7, 8] (fun lo hi eq i wr => ∃ k : Nat, k ≤ xs.length ∧ i = .int .i64 k ∧ lo = .int .i64 (lowY ys k) ∧ hi = .int .i64 (higY ys k) ∧ eq = .bool (eqY xs k) ∧ Hid (LSt w wr [(A1006, ys), (A1003, ys), (A, xs)] [⟨u1003.heap.size, 25, #[.int .i64 W, .int .i64 H, .int .i64 P, .slice A1003 ys.length c1003]⟩, ⟨u1.heap.size, 25, #[.int .i64 W, .int .i64 H, .int .i64 P, .slice A xs.length c]⟩])) (fun _ _ _ i _ => xs.length - (intOf i).toNat)
      case atStart => exact ⟨0, Nat.zero_le _, rfl, rfl, rfl, rfl, HI0⟩
      case round =>
        clear HI0
        obtain ⟨k, hk, rfl, rfl, rfl, rfl, hI⟩ := hrel
        have FM := hI.out.2.2 ⟨u1.heap.size, 25, #[.int .i64 W, .int .i64 H, .int .i64 P, .slice A xs.length c]⟩ (by simp)
        have FO := hI.out.2.2 ⟨u1003.heap.size, 25, #[.int .i64 W, .int .i64 H, .int .i64 P, .slice A1003 ys.length c1003]⟩ (by simp)
        have ml := FM.lt
        have ol := FO.lt
        have m0 : wr.cell? ⟨u1.heap.size, 0, none⟩ = some (.int .i64 W) := cell_of_row _ _ 0 _ _ _ FM
        have m1 : wr.cell? ⟨u1.heap.size, 1, none⟩ = some (.int .i64 H) := cell_of_row _ _ 1 _ _ _ FM
        have m2 : wr.cell? ⟨u1.heap.size, 2, none⟩ = some (.int .i64 P) := cell_of_row _ _ 2 _ _ _ FM
        have m3 : wr.cell? ⟨u1.heap.size, 3, none⟩ = some (.slice A xs.length c) := cell_of_row _ _ 3 _ _ _ FM
        have o0 : wr.cell? ⟨u1003.heap.size, 0, none⟩ = some (.int .i64 W) := cell_of_row _ _ 0 _ _ _ FO
        have o1 : wr.cell? ⟨u1003.heap.size, 1, none⟩ = some (.int .i64 H) := cell_of_row _ _ 1 _ _ _ FO
        have o2 : wr.cell? ⟨u1003.heap.size, 2, none⟩ = some (.int .i64 P) := cell_of_row _ _ 2 _ _ _ FO
        have o3 : wr.cell? ⟨u1003.heap.size, 3, none⟩ = some (.slice A1003 ys.length c1003) := cell_of_row _ _ 3 _ _ _ FO
        have HN := Lib.hid hI.out
        clear FM FO
        by_cases hlt : k < xs.length
        · have hly : k < ys.length := by have := HYL.out; omega
          have hly0 : 0 < ys.length := by omega
          have hlx0 : 0 < xs.length := by omega
          obtain ⟨b1, f1, hA1, hb1, hc1⟩ := (hI.out.rds (A := A) (xs := xs) (by simp)).cells_ hlt
          obtain ⟨b2, f2, hA2, hb2, hc2⟩ := (hI.out.rds (A := A1003) (xs := ys) (by simp)).cells_ hly
          subst hA1
          subst hA2
          have c1 : wr.cell? ⟨b1, f1 + k, none⟩ = _ := hc1 k hlt
          have c2 : wr.cell? ⟨b2, f2 + k, none⟩ = _ := hc2 k hly
          have c3 := hc1 0 hlx0
          have c4 := hc2 0 hly0
          rw [Nat.add_zero] at c3 c4
          have hmo := HMO.out k hlt
          have HE1 : Hid (lowY ys (k + 1) = min (lowY ys k) (ys.getD k 0)) := Lib.hid rfl
          have HE2 : Hid (higY ys (k + 1) = max (higY ys k) (ys.getD k 0)) := Lib.hid rfl
          have HE3 : Hid (eqY xs (k + 1) = (eqY xs k && decide (xs.getD k 0 = xs.getD 0 0))) := Lib.hid rfl
          have q1 : (k : Int) < (xs.length : Int) := by omega
          have q2 : (k : Int) < (ys.length : Int) := by omega
          have q3 : (0 : Int) < (xs.length : Int) := by omega
          have q4 : (0 : Int) < (ys.length : Int) := by omega
          clear hc1 hc2 hI
          generalize xs.getD k 0 = x at *
          generalize xs.getD 0 0 = x0 at *
          generalize ys.getD k 0 = y at *
          generalize ys.getD 0 0 = y0 at *
          generalize lowY ys k = T at *
          generalize higY ys k = V at *
          generalize eqY xs k = E at *
          obtain ⟨hmo1, hmo2, hmo3⟩ := hmo
          rcases Int.lt_trichotomy x x0 with hx1 | hx1 | hx1
          · have g1 : decide (x < x0) = true := decide_eq_true hx1
            have g2 : decide (y > y0) = false := decide_eq_false (by have := hmo1 hx1; omega)
            have g2' : decide (y0 < y) = false := decide_eq_false (by have := hmo1 hx1; omega)
            have g3 : decide (x > x0) = false := decide_eq_false (by omega)
            have g3' : decide (x0 < x) = false := decide_eq_false (by omega)
            have g4 : (x == x0) = false := beq_eq_false_iff_ne.2 (by omega)
            have HE4 := Lib.hid (HE3.out.trans (by rw [decide_eq_false (show ¬ x = x0 by omega), Bool.and_false]))
            clear hmo1 hmo2 hmo3 HE3
            go_upto_region 14 with fail
            have ht1 : (if y < T then y else T) = min T y := by split <;> omega
            rw [ht1]
            clear ht1
            generalize min T y = T2 at *
            go_upto_region 15 with fail
            have ht2 : (if V < y then y else V) = max V y := by split <;> omega
            rw [ht2]
            clear ht2
            generalize max V y = V2 at *
            cases E
            all_goals
              go_quiet (fail)
              go_wp2
              go_quiet (fail)
              go_wp2
              go_roundw
              case rel => exact ⟨k + 1, by omega, by go_num, by rw [HE1.out], by rw [HE2.out], by rw [HE4.out], (by first | exact Lib.hid ((HN.out.drewN _).drewN _) | exact Lib.hid (HN.out.drewN _))⟩
              case measure => simp [intOf]; omega
          · have g1 : decide (x < x0) = false := decide_eq_false (by omega)
            have g3 : decide (x > x0) = false := decide_eq_false (by omega)
            have g3' : decide (x0 < x) = false := decide_eq_false (by omega)
            have g4 : (x == x0) = true := by rw [hx1]; simp
            have g5 : (y != y0) = false := by rw [hmo3 hx1]; simp
            have g5' : (y == y0) = true := by rw [hmo3 hx1]; simp
            have HE4 := Lib.hid (HE3.out.trans (by rw [decide_eq_true hx1, Bool.and_true]))
            clear hx1
            clear hmo1 hmo2 hmo3 HE3
            go_upto_region 14 with fail
            have ht1 : (if y < T then y else T) = min T y := by split <;> omega
            rw [ht1]
            clear ht1
            generalize min T y = T2 at *
            go_upto_region 15 with fail
            have ht2 : (if V < y then y else V) = max V y := by split <;> omega
            rw [ht2]
            clear ht2
            generalize max V y = V2 at *
            cases E
            all_goals
              go_quiet (fail)
              go_wp2
              go_quiet (fail)
              go_wp2
              go_roundw
              case rel => exact ⟨k + 1, by omega, by go_num, by rw [HE1.out], by rw [HE2.out], by rw [HE4.out], (by first | exact Lib.hid ((HN.out.drewN _).drewN _) | exact Lib.hid (HN.out.drewN _))⟩
              case measure => simp [intOf]; omega
          · have g1 : decide (x < x0) = false := decide_eq_false (by omega)
            have g2 : decide (y < y0) = false := decide_eq_false (by have := hmo2 hx1; omega)
            have g3 : decide (x > x0) = true := decide_eq_true hx1
            have g3' : decide (x0 < x) = true := decide_eq_true hx1
            have g4 : (x == x0) = false := beq_eq_false_iff_ne.2 (by omega)
            have HE4 := Lib.hid (HE3.out.trans (by rw [decide_eq_false (show ¬ x = x0 by omega), Bool.and_false]))
            clear hmo1 hmo2 hmo3 HE3
            go_upto_region 14 with fail
            have ht1 : (if y < T then y else T) = min T y := by split <;> omega
            rw [ht1]
            clear ht1
            generalize min T y = T2 at *
            go_upto_region 15 with fail
            have ht2 : (if V < y then y else V) = max V y := by split <;> omega
            rw [ht2]
            clear ht2
            generalize max V y = V2 at *
            cases E
            all_goals
              go_quiet (fail)
              go_wp2
              go_quiet (fail)
              go_wp2
              go_roundw
              case rel => exact ⟨k + 1, by omega, by go_num, by rw [HE1.out], by rw [HE2.out], by rw [HE4.out], (by first | exact Lib.hid ((HN.out.drewN _).drewN _) | exact Lib.hid (HN.out.drewN _))⟩
              case measure => simp [intOf]; omega
        · have hkn : k = xs.length := by omega
          have SX := hI.out
          have hlt2 : ¬ (k : Int) < (xs.length : Int) := by omega
          rcases HOR.out with ⟨HE, rfl⟩ | ⟨HE, HL, HH⟩
          · have he : eqY xs k = true := by rw [hkn]; exact HE.out
            rw [he]
            generalize lowY xs k = T at *
            generalize higY xs k = V at *
            clear HE hI HN hkn he HOR HMO HYB
            go_wp2_with fail
            go_wp2_with fail
            refine (lEqIm W H P xs A1003 A c1003 c _ ((SX).rds (A := A1003) (xs := xs) (by simp)) ((SX).rds (A := A) (xs := xs) (by simp)) (by omega)).mono ?_
            rintro e u1009 ⟨rfl, hB1009⟩
            have S1009 := SX.call hB1009
            clear ml m0 m1 m2 m3
            clear ol o0 o1 o2 o3
            clear hB1009 SX
            go_wp2
            go_ret
            exact ⟨rfl, S1009.1⟩
          · have he : eqY xs k = false := by rw [hkn]; exact HE.out
            have hl0 : lowY ys k = 0 := by rw [hkn]; exact HL.out
            have hh0 : higY ys k = 255 := by rw [hkn]; exact HH.out
            rw [he, hl0, hh0]
            clear HE HL HH hI HN hkn he hl0 hh0 HOR HMO HYB
            go_wp2
            go_ret
            exact ⟨rfl, SX.1⟩

/-! ### From the walk to the statement. -/
theorem own : ownKnob Try.prog.godebug = none := by kernel_rfl
theorem laidOut : laidOutB Try.prog = true := by kernel_rfl
set_option maxRecDepth 100000 in
theorem lifted (os : Os) (started : os.Started) (H : Type) (enc : TypeId × Value → H) :
    ReturnsInHanded {} Try.checked os 6 .any (Rows.fnEqualizeImageSpec.pre6 enc Try.prog Try.f6 Rows.fnEqualizeImageRow.domain false) (Rows.fnEqualizeImageSpec.post enc Try.prog Try.f6 false true false false) := by
  refine returnsInHanded_of_change (C := Try.checked) own started (by kernel_rfl) Try.func6
    (ChangeSpec.witness6 (enc := enc) (C := Try.checked) false ⟨#[], #[.slice none 0 0], []⟩ 8 (by kernel_rfl) (by kernel_rfl) (by kernel_rfl) (by kernel_rfl)) ?_
  intro W base args ds gs before hval0 hW hcnd _
  have hval : ∀ (j : Nat) t v, Try.f6.params[j]? = some t → args[j]? = some v → Value.okWide Try.prog W .any base t v := hval0
  have hW' := hW
  obtain ⟨p, q, hA0, hV, rfl, hfz, hnd⟩ := hW
  have hA : DataW.TrodAll enc Try.prog W 0 (fun _ => true) true Try.f6.params.toList args.toList ds p := hA0
  rw [Try.params6] at hA hval
  obtain ⟨v0, vs0, d0, ds0, p0, q0, hargs, rfl, rfl, h0, r0⟩ := trodAll_cons hA
  obtain ⟨rfl, rfl, rfl⟩ := trodAll_nil r0
  obtain rfl : args = #[v0] := by cases args; simp_all
  obtain ⟨rfl, rfl⟩ := trodVars_none hV
  obtain ⟨a0, len0, cap0, rfl⟩ := okWide_slice Try.underlying22 (hval 0 22 v0 rfl rfl)
  have k0 := h0
  have lt0 : ∀ x ∈ p0, x.block < W.heap.size := by obtain ⟨m, hm⟩ := k0; exact DataW.trod_lt m _ _ _ hm
  obtain ⟨z0, hl0, hc0, w0⟩ : ∃ zs : List Int, len0 = zs.length ∧ zs.length ≤ cap0 ∧ Rdw .u8 W W.heap.size a0 zs := by
    obtain ⟨fuel, hf⟩ := h0
    rcases open_ints Try.underlying22 Try.underlying5 (by kernel_rfl) hf with ⟨hcs, _⟩ | ⟨x, l, c, zs, hcs, _, hl, hm, hz, _, hcell, hwz⟩
    · simp [Value.cells] at hcs
      obtain ⟨rfl, rfl, rfl⟩ := hcs
      exact ⟨[], rfl, Nat.le_refl _, Rdw.nil⟩
    · simp [Value.cells] at hcs
      obtain ⟨rfl, rfl, rfl⟩ := hcs
      exact ⟨zs.take len0, by simp at hz ⊢; omega, by simp at hz ⊢; omega, Rdw.of_row hl hm (by simpa using hz) hcell hwz⟩
  subst hl0
  clear hA0 hval0
  refine (walk W a0 cap0 z0 hc0 w0).mono fun e W' ⟨he, bel⟩ => ?_
  subst he
  exact ⟨_, rfl, _, _, _, [], _, [], hW', trodAll_mk1 (shut_bool Try.underlying4 _), (trodAll_cons_mk (Below.trod laidOut (by kernel_rfl) (of_decide_eq_true (by kernel_rfl)) k0 bel lt0) trodAll_mk0), rfl, bel.frame _, fun h => by cases h⟩

theorem over : Rows.fnEqualizeImageRow.holds Try.pinned (OpenSpec.ofChange Rows.fnEqualizeImageSpec) :=
  OpenClaim.holds_of_wide 6 Try.f6 rfl rfl rfl rfl rfl rfl rfl ⟨rfl, rfl, rfl, rfl, rfl⟩ rfl rfl rfl rfl rfl (by kernel_rfl) Try.func6 (by kernel_rfl)
    (of_decide_eq_true (by kernel_rfl)) (by unfold Func.isWrapper; first | (rw [if_pos (by decide +kernel)]; kernel_rfl) | (rw [if_neg (by decide +kernel)]; exact ⟨rfl, rfl⟩))
    (fun os started H enc _ => lifted os started H enc)

theorem proved : Rows.FnEqualizeImageSaid := over
end Go.Proofs.Ytebfaomlljekiaa.fnEqualizeImage
