/- Whatever the code: MapImage of the drawn image and list answers what the model answers, and where it answers an image, MapImage with all numbers in reverse is InvertImage. -/
import Derived.Test.YtebfaomlljekiaaRows
import Derived.WalkKit
import Derived.ProofKit
import Derived.OpenShut
import Derived.ShutString
import Derived.ChangeOld
import Derived.Below
import Derived.Test.YtebfaomlljekiaaImgMp
import Derived.Test.YtebfaomlljekiaaDrawMap
import Derived.Deep.QuietTactic
import Derived.BigQuiet
namespace Go.Proofs.Ytebfaomlljekiaa.fnMapImageInvert
open Go.ChangeShapes Go.WideShapes Go.ChangeAt Go.RowKit
open Go.ChangeMaps (open_string shut_string)
set_option linter.unusedVariables false

set_option linter.unusedSimpArgs false
set_option maxRecDepth 20000
set_option maxHeartbeats 16000000 in
theorem walk (w : World) (a0 : Option Addr) (cap0 : Nat) (z0 : List Int) (hc0 : z0.length ≤ cap0) (w0 : Rdw .u8 w w.heap.size a0 z0) :
    Calls Try.prog 4 #[.slice a0 z0.length cap0] w fun e w' => e = .returned (.bool true) ∧ Below w.heap.size w w' := by
  have hm := w0.2.1
  unfold maxLen at hm
  by_cases hlen : 1048576 < z0.length
  · go_enter Try.func4, Try.ntmps4
    go_wp2
    go_ret
    exact ⟨rfl, Below.refl _ _⟩
  · go_enter Try.func4, Try.ntmps4
    go_wp2_with fail
    refine (drawMap_any a0 cap0 z0 w hc0 w0).mono ?_
    rintro e u1 ⟨W, H, P, A, c, xs, A', c', q, rfl, hx, hxc, hr, hq, hqc, hr', hbel⟩
    have S1 : LSt w u1 [(A', q), (A, xs)] [] := ((LSt.start hbel).add hr).add hr'
    obtain ⟨X, Y, Z, ys, ok, hys, HI, HQ, hor⟩ := mpi_law W H P xs q hx hq
    clear w0 hr hr' hbel hm
    have S1001 : LSt w (u1.alloc (.cells #[.int .i64 W, .int .i64 H, .int .i64 P, .slice A xs.length c] 25)) [(A', q), (A, xs)] [⟨u1.heap.size, 25, #[.int .i64 W, .int .i64 H, .int .i64 P, .slice A xs.length c]⟩] := LSt.box2 S1 25 #[.int .i64 W, .int .i64 H, .int .i64 P, .slice A xs.length c] u1.heap.size (by simp)
    go_wp2_with fail
    clear S1
    generalize u1.alloc (.cells #[.int .i64 W, .int .i64 H, .int .i64 P, .slice A xs.length c] 25) = u1002 at *
    refine (MpC.use HI A c A' c' _ ((S1001).rds (A := A) (xs := xs) (by simp)) hxc ((S1001).rds (A := A') (xs := q) (by simp)) hqc).mono ?_
    rintro e u1003 ⟨A1003, c1003, rfl, hc1003, hr1003, hB1003⟩
    have S1003 := (S1001.call hB1003).add hr1003
    clear hr1003 hB1003 S1001
    have Fmx := S1003.2.2 ⟨u1.heap.size, 25, #[.int .i64 W, .int .i64 H, .int .i64 P, .slice A xs.length c]⟩ (by simp)
    have ml : u1.heap.size < u1003.heap.size := Fmx.lt
    have m0 : u1003.cell? ⟨u1.heap.size, 0, none⟩ = some (.int .i64 W) := cell_of_row _ _ 0 _ _ _ Fmx
    have m1 : u1003.cell? ⟨u1.heap.size, 1, none⟩ = some (.int .i64 H) := cell_of_row _ _ 1 _ _ _ Fmx
    have m2 : u1003.cell? ⟨u1.heap.size, 2, none⟩ = some (.int .i64 P) := cell_of_row _ _ 2 _ _ _ Fmx
    have m3 : u1003.cell? ⟨u1.heap.size, 3, none⟩ = some (.slice A xs.length c) := cell_of_row _ _ 3 _ _ _ Fmx
    clear Fmx
    have S1004 : LSt w (u1003.alloc (.cells #[.int .i64 X, .int .i64 Y, .int .i64 Z, .slice A1003 ys.length c1003] 25)) [(A1003, ys), (A', q), (A, xs)] [⟨u1003.heap.size, 25, #[.int .i64 X, .int .i64 Y, .int .i64 Z, .slice A1003 ys.length c1003]⟩, ⟨u1.heap.size, 25, #[.int .i64 W, .int .i64 H, .int .i64 P, .slice A xs.length c]⟩] := LSt.box2 S1003 25 #[.int .i64 X, .int .i64 Y, .int .i64 Z, .slice A1003 ys.length c1003] u1003.heap.size (by simp)
    go_wp2_with fail
    clear ml m0 m1 m2 m3
    clear S1003
    generalize u1003.alloc (.cells #[.int .i64 X, .int .i64 Y, .int .i64 Z, .slice A1003 ys.length c1003] 25) = u1005 at *
    refine (MpC.use HQ A c A' c' _ ((S1004).rds (A := A) (xs := xs) (by simp)) hxc ((S1004).rds (A := A') (xs := q) (by simp)) hqc).mono ?_
    rintro e u1006 ⟨A1006, c1006, rfl, hc1006, hr1006, hB1006⟩
    have S1006 := (S1004.call hB1006).add hr1006
    clear hr1006 hB1006 S1004
    have Fox := S1006.2.2 ⟨u1003.heap.size, 25, #[.int .i64 X, .int .i64 Y, .int .i64 Z, .slice A1003 ys.length c1003]⟩ (by simp)
    have ol : u1003.heap.size < u1006.heap.size := Fox.lt
    have o0 : u1006.cell? ⟨u1003.heap.size, 0, none⟩ = some (.int .i64 X) := cell_of_row _ _ 0 _ _ _ Fox
    have o1 : u1006.cell? ⟨u1003.heap.size, 1, none⟩ = some (.int .i64 Y) := cell_of_row _ _ 1 _ _ _ Fox
    have o2 : u1006.cell? ⟨u1003.heap.size, 2, none⟩ = some (.int .i64 Z) := cell_of_row _ _ 2 _ _ _ Fox
    have o3 : u1006.cell? ⟨u1003.heap.size, 3, none⟩ = some (.slice A1003 ys.length c1003) := cell_of_row _ _ 3 _ _ _ Fox
    clear Fox
    have S1007 : LSt w (u1006.alloc (.cells #[.int .i64 X, .int .i64 Y, .int .i64 Z, .slice A1006 ys.length c1006] 25)) [(A1006, ys), (A1003, ys), (A', q), (A, xs)] [⟨u1006.heap.size, 25, #[.int .i64 X, .int .i64 Y, .int .i64 Z, .slice A1006 ys.length c1006]⟩, ⟨u1003.heap.size, 25, #[.int .i64 X, .int .i64 Y, .int .i64 Z, .slice A1003 ys.length c1003]⟩, ⟨u1.heap.size, 25, #[.int .i64 W, .int .i64 H, .int .i64 P, .slice A xs.length c]⟩] := LSt.box2 S1006 25 #[.int .i64 X, .int .i64 Y, .int .i64 Z, .slice A1006 ys.length c1006] u1006.heap.size (by simp)
    go_wp2_with fail
    clear ol o0 o1 o2 o3
    clear S1006
    generalize u1006.alloc (.cells #[.int .i64 X, .int .i64 Y, .int .i64 Z, .slice A1006 ys.length c1006] 25) = u1008 at *
    refine (lEqIm X Y Z ys A1003 A1006 c1003 c1006 _ ((S1007).rds (A := A1003) (xs := ys) (by simp)) ((S1007).rds (A := A1006) (xs := ys) (by simp)) (by omega)).mono ?_
    rintro e u1009 ⟨rfl, hB1009⟩
    have S1009 := S1007.call hB1009
    clear hB1009 S1007
    rcases hor with rfl | ⟨rfl, zs, hzs, HM, HV⟩
    · skip
      have Fox := S1009.2.2 ⟨u1003.heap.size, 25, #[.int .i64 X, .int .i64 Y, .int .i64 Z, .slice A1003 ys.length c1003]⟩ (by simp)
      have ol : u1003.heap.size < u1009.heap.size := Fox.lt
      have o0 : u1009.cell? ⟨u1003.heap.size, 0, none⟩ = some (.int .i64 X) := cell_of_row _ _ 0 _ _ _ Fox
      have o1 : u1009.cell? ⟨u1003.heap.size, 1, none⟩ = some (.int .i64 Y) := cell_of_row _ _ 1 _ _ _ Fox
      have o2 : u1009.cell? ⟨u1003.heap.size, 2, none⟩ = some (.int .i64 Z) := cell_of_row _ _ 2 _ _ _ Fox
      have o3 : u1009.cell? ⟨u1003.heap.size, 3, none⟩ = some (.slice A1003 ys.length c1003) := cell_of_row _ _ 3 _ _ _ Fox
      clear Fox
      have Fjx := S1009.2.2 ⟨u1006.heap.size, 25, #[.int .i64 X, .int .i64 Y, .int .i64 Z, .slice A1006 ys.length c1006]⟩ (by simp)
      have jl : u1006.heap.size < u1009.heap.size := Fjx.lt
      have j0 : u1009.cell? ⟨u1006.heap.size, 0, none⟩ = some (.int .i64 X) := cell_of_row _ _ 0 _ _ _ Fjx
      have j1 : u1009.cell? ⟨u1006.heap.size, 1, none⟩ = some (.int .i64 Y) := cell_of_row _ _ 1 _ _ _ Fjx
      have j2 : u1009.cell? ⟨u1006.heap.size, 2, none⟩ = some (.int .i64 Z) := cell_of_row _ _ 2 _ _ _ Fjx
      have j3 : u1009.cell? ⟨u1006.heap.size, 3, none⟩ = some (.slice A1006 ys.length c1006) := cell_of_row _ _ 3 _ _ _ Fjx
      clear Fjx
      go_wp2_with fail
      refine (lEqIm X Y Z ys A1003 A1006 c1003 c1006 _ ((S1009).rds (A := A1003) (xs := ys) (by simp)) ((S1009).rds (A := A1006) (xs := ys) (by simp)) (by omega)).mono ?_
      rintro e u1010 ⟨rfl, hB1010⟩
      have S1010 := S1009.call hB1010
      clear ol o0 o1 o2 o3
      clear jl j0 j1 j2 j3
      clear hB1010 S1009
      go_wp2
      go_ret
      exact ⟨rfl, S1010.1⟩
    · skip
      have HS0 := Lib.hid S1009
      clear S1009
      obtain ⟨base, hbase⟩ : ∃ b, b = u1009.heap.size := ⟨_, rfl⟩
      have HO0 : Hid (Own (u1009.alloc (.cells #[] 3)) base (.slice (some ⟨base, 0, none⟩) 0 0) (fnL rvF 0) ∧ Below base u1009 (u1009.alloc (.cells #[] 3))) := Lib.hid ⟨by rw [hbase]; exact own_none u1009, by rw [hbase]; exact (Below.refl _ _).alloc (Nat.le_refl _) _⟩
      have HBase := Lib.hid hbase
      go_wp2
      rw [← HBase.out]
      clear hbase
      generalize u1009.alloc (.cells #[] 3) = u2000 at *
      go_loopw [9, 10] (fun v i wr => ∃ k : Nat, k ≤ 256 ∧ i = .int .i64 (255 - (k : Int)) ∧ Hid (Own wr base v (fnL rvF k) ∧ Below base u1009 wr)) (fun _ i _ => (intOf i + 1).toNat)
      case atStart => exact ⟨0, by omega, rfl, HO0⟩
      case round =>
        clear HO0
        obtain ⟨k, hk, rfl, hI⟩ := hrel
        obtain ⟨hO, hB⟩ := hI.out
        by_cases hlt : k < 256
        · obtain ⟨bs, hbs⟩ : ∃ bs, bs = fnL rvF k := ⟨_, rfl⟩
          have HBL : Hid (bs.length = k) := Lib.hid (by rw [hbs, fnL_len])
          have hbl : bs.length ≤ 256 := by have := HBL.out; omega
          have HNX : Hid (bs ++ [255 - (k : Int)] = fnL rvF (k + 1)) := Lib.hid (by rw [hbs, fnL_next]; rfl)
          rw [← hbs] at hO
          obtain ⟨A1, c1, rfl, hc1⟩ := hO.slice
          have HO2 := Lib.hid (hO.alloc (.cells #[.int .i64 (255 - (k : Int))] 3))
          have hsz := hB.size
          have hbz : base ≤ wr.heap.size := by have := HBase.out; omega
          have HB2 := Lib.hid (hB.alloc hbz (.cells #[.int .i64 (255 - (k : Int))] 3))
          have HQ1 := Lib.hid (rds_one wr (255 - (k : Int)))
          have q1 : (0 : Int) ≤ 255 - (k : Int) := by omega
          have q2 : IntKind.i64.wrap (255 - (k : Int) - 1) = 255 - ((k + 1 : Nat) : Int) := by rw [IntWalk.i64_in _ (by omega)]; omega
          have q3 : IntKind.i64.wrap (255 - (k : Int) - 1) = 255 - (k : Int) - 1 := IntWalk.i64_in _ (by omega)
          clear hO hB hI hbs hsz q2
          go_wp2_with (at_builtin; refine wpList_app rfl (.tmp 59) (.tmp 61) rfl base (.slice A1 bs.length c1) bs rfl HO2.out (some ⟨wr.heap.size, 0, none⟩) 1 1 _ [255 - (k : Int)] rfl rfl HQ1.out (by simp; omega) (by simp; omega) ?_; intro v3 w3 hO3 hG3)
          have HN : Hid (Own w3 base v3 (fnL rvF (k + 1)) ∧ Below base u1009 w3) := Lib.hid ⟨by rw [← HNX.out]; exact hO3, HB2.out.grown hG3 (by simp; omega) (fun j hj => (HO2.out.lt j hj).1)⟩
          clear hO3 hG3 HO2 HB2 HQ1
          go_wp2
          go_roundw
          case rel => exact ⟨k + 1, by omega, by first | go_num | (congr 1; omega) | (congr 1; simp; omega), HN⟩
          case measure => simp [intOf]; omega
        · have hk' : k = 256 := by omega
          rw [hk'] at hO
          obtain ⟨bs, hbs⟩ : ∃ bs, bs = fnL rvF 256 := ⟨_, rfl⟩
          have HBL : Hid (bs.length = 256) := Lib.hid (by rw [hbs, fnL_len])
          rw [← hbs] at hO HM
          obtain ⟨A1, c1, rfl, hc1⟩ := hO.slice
          have S2001 := (HS0.out.call (by rw [← HBase.out]; exact hB)).add hO.rds.2
          have hkn : ¬ (0 : Int) ≤ 255 - (k : Int) := by omega
          have hkm : 255 - (k : Int) < 0 := by omega
          clear hO hB hI hbs HS0 hk'
          have Fmx := S2001.2.2 ⟨u1.heap.size, 25, #[.int .i64 W, .int .i64 H, .int .i64 P, .slice A xs.length c]⟩ (by simp)
          have ml : u1.heap.size < wr.heap.size := Fmx.lt
          have m0 : wr.cell? ⟨u1.heap.size, 0, none⟩ = some (.int .i64 W) := cell_of_row _ _ 0 _ _ _ Fmx
          have m1 : wr.cell? ⟨u1.heap.size, 1, none⟩ = some (.int .i64 H) := cell_of_row _ _ 1 _ _ _ Fmx
          have m2 : wr.cell? ⟨u1.heap.size, 2, none⟩ = some (.int .i64 P) := cell_of_row _ _ 2 _ _ _ Fmx
          have m3 : wr.cell? ⟨u1.heap.size, 3, none⟩ = some (.slice A xs.length c) := cell_of_row _ _ 3 _ _ _ Fmx
          clear Fmx
          go_wp2_with fail
          refine (MpC.use HM A c A1 c1 _ ((S2001).rds (A := A) (xs := xs) (by simp)) hxc ((S2001).rds (A := A1) (xs := bs) (by simp)) hc1).mono ?_
          rintro e u1010 ⟨A1010, c1010, rfl, hc1010, hr1010, hB1010⟩
          have S1010 := (S2001.call hB1010).add hr1010
          clear ml m0 m1 m2 m3
          clear hr1010 hB1010 S2001
          have S1011 : LSt w (u1010.alloc (.cells #[.int .i64 W, .int .i64 H, .int .i64 P, .slice A1010 zs.length c1010] 25)) [(A1010, zs), (A1, bs), (A1006, ys), (A1003, ys), (A', q), (A, xs)] [⟨u1010.heap.size, 25, #[.int .i64 W, .int .i64 H, .int .i64 P, .slice A1010 zs.length c1010]⟩, ⟨u1006.heap.size, 25, #[.int .i64 X, .int .i64 Y, .int .i64 Z, .slice A1006 ys.length c1006]⟩, ⟨u1003.heap.size, 25, #[.int .i64 X, .int .i64 Y, .int .i64 Z, .slice A1003 ys.length c1003]⟩, ⟨u1.heap.size, 25, #[.int .i64 W, .int .i64 H, .int .i64 P, .slice A xs.length c]⟩] := LSt.box2 S1010 25 #[.int .i64 W, .int .i64 H, .int .i64 P, .slice A1010 zs.length c1010] u1010.heap.size (by simp)
          go_upto_region 14 with fail
          clear S1010
          generalize u1010.alloc (.cells #[.int .i64 W, .int .i64 H, .int .i64 P, .slice A1010 zs.length c1010] 25) = u1012 at *
          have HC := Lib.hid S1011.drew
          clear S1011
          refine wp_region_held_drew (S := (fun w' => w'.cell? ⟨u1010.heap.size, 0, none⟩ = some (.int .i64 W) ∧ w'.cell? ⟨u1010.heap.size, 1, none⟩ = some (.int .i64 H) ∧ w'.cell? ⟨u1010.heap.size, 2, none⟩ = some (.int .i64 P) ∧ w'.cell? ⟨u1010.heap.size, 3, none⟩ = some (.slice A1010 zs.length c1010) ∧ w'.cell? ⟨u1.heap.size, 0, none⟩ = some (.int .i64 W) ∧ w'.cell? ⟨u1.heap.size, 1, none⟩ = some (.int .i64 H) ∧ w'.cell? ⟨u1.heap.size, 2, none⟩ = some (.int .i64 P) ∧ w'.cell? ⟨u1.heap.size, 3, none⟩ = some (.slice A xs.length c))) (by kernel_rfl) (by exact ⟨cell_of_row _ _ 0 _ _ _ ((HC.out).2.2 ⟨u1010.heap.size, 25, #[.int .i64 W, .int .i64 H, .int .i64 P, .slice A1010 zs.length c1010]⟩ (by simp)), cell_of_row _ _ 1 _ _ _ ((HC.out).2.2 ⟨u1010.heap.size, 25, #[.int .i64 W, .int .i64 H, .int .i64 P, .slice A1010 zs.length c1010]⟩ (by simp)), cell_of_row _ _ 2 _ _ _ ((HC.out).2.2 ⟨u1010.heap.size, 25, #[.int .i64 W, .int .i64 H, .int .i64 P, .slice A1010 zs.length c1010]⟩ (by simp)), cell_of_row _ _ 3 _ _ _ ((HC.out).2.2 ⟨u1010.heap.size, 25, #[.int .i64 W, .int .i64 H, .int .i64 P, .slice A1010 zs.length c1010]⟩ (by simp)), cell_of_row _ _ 0 _ _ _ ((HC.out).2.2 ⟨u1.heap.size, 25, #[.int .i64 W, .int .i64 H, .int .i64 P, .slice A xs.length c]⟩ (by simp)), cell_of_row _ _ 1 _ _ _ ((HC.out).2.2 ⟨u1.heap.size, 25, #[.int .i64 W, .int .i64 H, .int .i64 P, .slice A xs.length c]⟩ (by simp)), cell_of_row _ _ 2 _ _ _ ((HC.out).2.2 ⟨u1.heap.size, 25, #[.int .i64 W, .int .i64 H, .int .i64 P, .slice A xs.length c]⟩ (by simp)), cell_of_row _ _ 3 _ _ _ ((HC.out).2.2 ⟨u1.heap.size, 25, #[.int .i64 W, .int .i64 H, .int .i64 P, .slice A xs.length c]⟩ (by simp))⟩) (fun hHeld => ?_)
          refine' wpAnyH_take (i := 0) (oi := _) (v := _) ?hi1 (by kernel_rfl) (by kernel_rfl) (by kernel_rfl) ?hq1 (Or.inl ⟨?hw1, ?hy1⟩) (by assumption) ?rest1
          case hi1 => (simp only [List.getElem?_toArray, List.getElem?_cons_succ, List.getElem?_cons_zero]; rfl)
          case hq1 => exact fun _ _ _ h => h
          case hw1 => rfl
          case hy1 => (intro wq hSw; (try dsimp only at hSw); go_simp; (try with_reducible rfl))
          (try simp only [Act.put, List.setIfInBounds_toArray, List.set_cons_zero, List.set_cons_succ])
          refine' wpAnyH_take (i := 1) (oi := _) (v := _) ?hi2 (by kernel_rfl) (by kernel_rfl) (by kernel_rfl) ?hq2 (Or.inl ⟨?hw2, ?hy2⟩) (by assumption) ?rest2
          case hi2 => (simp only [List.getElem?_toArray, List.getElem?_cons_succ, List.getElem?_cons_zero]; rfl)
          case hq2 => exact fun _ _ _ h => h
          case hw2 => rfl
          case hy2 => (intro wq hSw; (try dsimp only at hSw); go_simp; (try with_reducible rfl))
          (try simp only [Act.put, List.setIfInBounds_toArray, List.set_cons_zero, List.set_cons_succ])
          refine' wpAnyH_take (i := 2) (oi := _) (v := _) ?hi3 (by kernel_rfl) (by kernel_rfl) (by kernel_rfl) ?hq3 (Or.inl ⟨?hw3, ?hy3⟩) (by assumption) ?rest3
          case hi3 => (simp only [List.getElem?_toArray, List.getElem?_cons_succ, List.getElem?_cons_zero]; rfl)
          case hq3 => exact fun _ _ _ h => h
          case hw3 => rfl
          case hy3 => (intro wq hSw; (try dsimp only at hSw); go_simp; (try with_reducible rfl))
          (try simp only [Act.put, List.setIfInBounds_toArray, List.set_cons_zero, List.set_cons_succ])
          refine' wpAnyH_take (i := 3) (oi := _) (v := _) ?hi4 (by kernel_rfl) (by kernel_rfl) (by kernel_rfl) ?hq4 (Or.inl ⟨?hw4, ?hy4⟩) (by assumption) ?rest4
          case hi4 => (simp only [List.getElem?_toArray, List.getElem?_cons_succ, List.getElem?_cons_zero]; rfl)
          case hq4 => exact fun _ _ _ h => h
          case hw4 => rfl
          case hy4 => (intro wq hSw; (try dsimp only at hSw); go_simp; (try with_reducible rfl))
          (try simp only [Act.put, List.setIfInBounds_toArray, List.set_cons_zero, List.set_cons_succ])
          refine wpAnyH_ready (rs := [4]) (by kernel_rfl) (by simp) ?_
          refine' AllReadyH.cons (o := _) ?hi5 (fun K hK => ?rest5) AllReadyH.nil
          case hi5 => (simp only [List.getElem?_toArray, List.getElem?_cons_succ, List.getElem?_cons_zero]; rfl)
          go_simp
          go_at_call 19
          refine (ImC0.use HV A c _ ((HC.out).rds (A := A) (xs := xs) (by simp)) hxc).mono ?_
          rintro e u1013 ⟨A1013, c1013, rfl, hc1013, hr1013, hB1013⟩
          have HD := Lib.hid ((HC.out.call hB1013).add hr1013)
          clear hr1013 hB1013 HC
          have HC := HD
          clear HD
          go_wp2_with fail
          refine hK.out _ _ (by (try dsimp only); exact ⟨cell_of_row _ _ 0 _ _ _ ((HC.out).2.2 ⟨u1010.heap.size, 25, #[.int .i64 W, .int .i64 H, .int .i64 P, .slice A1010 zs.length c1010]⟩ (by simp)), cell_of_row _ _ 1 _ _ _ ((HC.out).2.2 ⟨u1010.heap.size, 25, #[.int .i64 W, .int .i64 H, .int .i64 P, .slice A1010 zs.length c1010]⟩ (by simp)), cell_of_row _ _ 2 _ _ _ ((HC.out).2.2 ⟨u1010.heap.size, 25, #[.int .i64 W, .int .i64 H, .int .i64 P, .slice A1010 zs.length c1010]⟩ (by simp)), cell_of_row _ _ 3 _ _ _ ((HC.out).2.2 ⟨u1010.heap.size, 25, #[.int .i64 W, .int .i64 H, .int .i64 P, .slice A1010 zs.length c1010]⟩ (by simp)), cell_of_row _ _ 0 _ _ _ ((HC.out).2.2 ⟨u1.heap.size, 25, #[.int .i64 W, .int .i64 H, .int .i64 P, .slice A xs.length c]⟩ (by simp)), cell_of_row _ _ 1 _ _ _ ((HC.out).2.2 ⟨u1.heap.size, 25, #[.int .i64 W, .int .i64 H, .int .i64 P, .slice A xs.length c]⟩ (by simp)), cell_of_row _ _ 2 _ _ _ ((HC.out).2.2 ⟨u1.heap.size, 25, #[.int .i64 W, .int .i64 H, .int .i64 P, .slice A xs.length c]⟩ (by simp)), cell_of_row _ _ 3 _ _ _ ((HC.out).2.2 ⟨u1.heap.size, 25, #[.int .i64 W, .int .i64 H, .int .i64 P, .slice A xs.length c]⟩ (by simp))⟩) (fun hHeld => ?_)
          clear hK K
          (try simp only [Act.put, List.setIfInBounds_toArray, List.set_cons_zero, List.set_cons_succ])
          refine wpAnyH_ready (rs := [5]) (by kernel_rfl) (by simp) ?_
          refine' AllReadyH.cons (o := _) ?hi6 (fun K hK => ?rest6) AllReadyH.nil
          case hi6 => (simp only [List.getElem?_toArray, List.getElem?_cons_succ, List.getElem?_cons_zero]; rfl)
          go_simp
          go_at_call 18
          refine (lEqIm W H P zs A1010 A1013 c1010 c1013 _ ((HC.out).rds (A := A1010) (xs := zs) (by simp)) ((HC.out).rds (A := A1013) (xs := zs) (by simp)) (by omega)).mono ?_
          rintro e u1014 ⟨rfl, hB1014⟩
          have HD := Lib.hid (HC.out.call hB1014)
          clear hB1014 HC
          have HC := HD
          clear HD
          go_wp2_with fail
          refine hK.out _ _ (by (try dsimp only); exact ⟨cell_of_row _ _ 0 _ _ _ ((HC.out).2.2 ⟨u1010.heap.size, 25, #[.int .i64 W, .int .i64 H, .int .i64 P, .slice A1010 zs.length c1010]⟩ (by simp)), cell_of_row _ _ 1 _ _ _ ((HC.out).2.2 ⟨u1010.heap.size, 25, #[.int .i64 W, .int .i64 H, .int .i64 P, .slice A1010 zs.length c1010]⟩ (by simp)), cell_of_row _ _ 2 _ _ _ ((HC.out).2.2 ⟨u1010.heap.size, 25, #[.int .i64 W, .int .i64 H, .int .i64 P, .slice A1010 zs.length c1010]⟩ (by simp)), cell_of_row _ _ 3 _ _ _ ((HC.out).2.2 ⟨u1010.heap.size, 25, #[.int .i64 W, .int .i64 H, .int .i64 P, .slice A1010 zs.length c1010]⟩ (by simp)), cell_of_row _ _ 0 _ _ _ ((HC.out).2.2 ⟨u1.heap.size, 25, #[.int .i64 W, .int .i64 H, .int .i64 P, .slice A xs.length c]⟩ (by simp)), cell_of_row _ _ 1 _ _ _ ((HC.out).2.2 ⟨u1.heap.size, 25, #[.int .i64 W, .int .i64 H, .int .i64 P, .slice A xs.length c]⟩ (by simp)), cell_of_row _ _ 2 _ _ _ ((HC.out).2.2 ⟨u1.heap.size, 25, #[.int .i64 W, .int .i64 H, .int .i64 P, .slice A xs.length c]⟩ (by simp)), cell_of_row _ _ 3 _ _ _ ((HC.out).2.2 ⟨u1.heap.size, 25, #[.int .i64 W, .int .i64 H, .int .i64 P, .slice A xs.length c]⟩ (by simp))⟩) (fun hHeld => ?_)
          clear hK K
          (try simp only [Act.put, List.setIfInBounds_toArray, List.set_cons_zero, List.set_cons_succ])
          refine' wpAnyH_take (i := 6) (oi := _) (v := _) ?hi7 (by kernel_rfl) (by kernel_rfl) (by kernel_rfl) ?hq7 (Or.inl ⟨?hw7, ?hy7⟩) (by assumption) ?rest7
          case hi7 => (simp only [List.getElem?_toArray, List.getElem?_cons_succ, List.getElem?_cons_zero]; rfl)
          case hq7 => exact fun _ _ _ h => h
          case hw7 => rfl
          case hy7 => (intro wq hSw; (try dsimp only at hSw); go_simp; (try with_reducible rfl))
          (try simp only [Act.put, List.setIfInBounds_toArray, List.set_cons_zero, List.set_cons_succ])
          refine' wpAnyH_take (i := 7) (oi := _) (v := _) ?hi8 (by kernel_rfl) (by kernel_rfl) (by kernel_rfl) ?hq8 (Or.inl ⟨?hw8, ?hy8⟩) (by assumption) ?rest8
          case hi8 => (simp only [List.getElem?_toArray, List.getElem?_cons_succ, List.getElem?_cons_zero]; rfl)
          case hq8 => exact fun _ _ _ h => h
          case hw8 => rfl
          case hy8 => (intro wq hSw; (try dsimp only at hSw); go_simp; (try with_reducible rfl))
          (try simp only [Act.put, List.setIfInBounds_toArray, List.set_cons_zero, List.set_cons_succ])
          refine wpAnyH_done (by kernel_rfl) ?_ _
          have S1015 := HC.out
          clear HC
          go_wp2
          go_ret
          exact ⟨rfl, S1015.1⟩

/-! ### From the walk to the statement. -/
theorem own : ownKnob Try.prog.godebug = none := by kernel_rfl
theorem laidOut : laidOutB Try.prog = true := by kernel_rfl
set_option maxRecDepth 100000 in
theorem lifted (os : Os) (started : os.Started) (H : Type) (enc : TypeId × Value → H) :
    ReturnsInHanded {} Try.checked os 4 .any (Rows.fnMapImageInvertSpec.pre6 enc Try.prog Try.f4 Rows.fnMapImageInvertRow.domain false) (Rows.fnMapImageInvertSpec.post enc Try.prog Try.f4 false true false false) := by
  refine returnsInHanded_of_change (C := Try.checked) own started (by kernel_rfl) Try.func4
    (ChangeSpec.witness6 (enc := enc) (C := Try.checked) false ⟨#[], #[.slice none 0 0], []⟩ 8 (by kernel_rfl) (by kernel_rfl) (by kernel_rfl) (by kernel_rfl)) ?_
  intro W base args ds gs before hval0 hW hcnd _
  have hval : ∀ (j : Nat) t v, Try.f4.params[j]? = some t → args[j]? = some v → Value.okWide Try.prog W .any base t v := hval0
  have hW' := hW
  obtain ⟨p, q, hA0, hV, rfl, hfz, hnd⟩ := hW
  have hA : DataW.TrodAll enc Try.prog W 0 (fun _ => true) true Try.f4.params.toList args.toList ds p := hA0
  rw [Try.params4] at hA hval
  obtain ⟨v0, vs0, d0, ds0, p0, q0, hargs, rfl, rfl, h0, r0⟩ := trodAll_cons hA
  obtain ⟨rfl, rfl, rfl⟩ := trodAll_nil r0
  obtain rfl : args = #[v0] := by cases args; simp_all
  obtain ⟨rfl, rfl⟩ := trodVars_none hV
  obtain ⟨a0, len0, cap0, rfl⟩ := okWide_slice Try.underlying22 (hval 0 22 v0 rfl rfl)
  have k0 := h0
  have lt0 : ∀ x ∈ p0, x.block < W.heap.size := by obtain ⟨m, hm⟩ := k0; exact DataW.trod_lt m _ _ _ hm
  obtain ⟨z0, hl0, hc0, w0⟩ : ∃ zs : List Int, len0 = zs.length ∧ zs.length ≤ cap0 ∧ Rdw .u8 W W.heap.size a0 zs := by
    obtain ⟨fuel, hf⟩ := h0
    rcases open_ints Try.underlying22 Try.underlying5 (by kernel_rfl) hf with ⟨hcs, _⟩ | ⟨x, l, c, zs, hcs, _, hl, hm, hz, _, hcell, hwz⟩
    · simp [Value.cells] at hcs
      obtain ⟨rfl, rfl, rfl⟩ := hcs
      exact ⟨[], rfl, Nat.le_refl _, Rdw.nil⟩
    · simp [Value.cells] at hcs
      obtain ⟨rfl, rfl, rfl⟩ := hcs
      exact ⟨zs.take len0, by simp at hz ⊢; omega, by simp at hz ⊢; omega, Rdw.of_row hl hm (by simpa using hz) hcell hwz⟩
  subst hl0
  clear hA0 hval0
  refine (walk W a0 cap0 z0 hc0 w0).mono fun e W' ⟨he, bel⟩ => ?_
  subst he
  exact ⟨_, rfl, _, _, _, [], _, [], hW', trodAll_mk1 (shut_bool Try.underlying4 _), (trodAll_cons_mk (Below.trod laidOut (by kernel_rfl) (of_decide_eq_true (by kernel_rfl)) k0 bel lt0) trodAll_mk0), rfl, bel.frame _, fun h => by cases h⟩

theorem over : Rows.fnMapImageInvertRow.holds Try.pinned (OpenSpec.ofChange Rows.fnMapImageInvertSpec) :=
  OpenClaim.holds_of_wide 4 Try.f4 rfl rfl rfl rfl rfl rfl rfl ⟨rfl, rfl, rfl, rfl, rfl⟩ rfl rfl rfl rfl rfl (by kernel_rfl) Try.func4 (by kernel_rfl)
    (of_decide_eq_true (by kernel_rfl)) (by unfold Func.isWrapper; first | (rw [if_pos (by decide +kernel)]; kernel_rfl) | (rw [if_neg (by decide +kernel)]; exact ⟨rfl, rfl⟩))
    (fun os started H enc _ => lifted os started H enc)

theorem proved : Rows.FnMapImageInvertSaid := over
end Go.Proofs.Ytebfaomlljekiaa.fnMapImageInvert
