/- Whatever the code: MapImage of the drawn image and list answers what the model answers, and where it answers an image, the list of all numbers in order changes nothing, and mapping twice is mapping by the composed list. -/
import Derived.Test.YtebfaomlljekiaaRows
import Derived.WalkKit
import Derived.ProofKit
import Derived.OpenShut
import Derived.ShutString
import Derived.ChangeOld
import Derived.Below
import Derived.Test.YtebfaomlljekiaaImgMp
import Derived.Test.YtebfaomlljekiaaDrawMap
import Derived.Test.YtebfaomlljekiaaDrawRows
import Derived.Deep.QuietTactic
import Derived.BigQuiet
namespace Go.Proofs.Ytebfaomlljekiaa.fnMapImage
open Go.ChangeShapes Go.WideShapes Go.ChangeAt Go.RowKit
open Go.ChangeMaps (open_string shut_string)
set_option linter.unusedVariables false

set_option linter.unusedSimpArgs false
set_option maxRecDepth 20000
set_option maxHeartbeats 16000000 in
theorem walk (w : World) (a0 : Option Addr) (cap0 : Nat) (z0 : List Int) (hc0 : z0.length ≤ cap0) (w0 : Rdw .u8 w w.heap.size a0 z0) :
    Calls Try.prog 3 #[.slice a0 z0.length cap0] w fun e w' => e = .returned (.bool true) ∧ Below w.heap.size w w' := by
  have hm := w0.2.1
  unfold maxLen at hm
  by_cases hlen : 1048576 < z0.length
  · go_enter Try.func3, Try.ntmps3
    go_wp2
    go_ret
    exact ⟨rfl, Below.refl _ _⟩
  · go_enter Try.func3, Try.ntmps3
    go_wp2_with fail
    refine (drawMap_any a0 cap0 z0 w hc0 w0).mono ?_
    rintro e u1 ⟨W, H, P, A, c, xs, A', c', q, rfl, hx, hxc, hr, hq, hqc, hr', hbel⟩
    have S1 : LSt w u1 [(A', q), (A, xs)] [] := ((LSt.start hbel).add hr).add hr'
    obtain ⟨X, Y, Z, ys, ok, hys, HI, HQ, hor⟩ := map_law W H P xs q hx hq
    clear w0 hr hr' hbel hm
    have S1001 : LSt w (u1.alloc (.cells #[.int .i64 W, .int .i64 H, .int .i64 P, .slice A xs.length c] 25)) [(A', q), (A, xs)] [⟨u1.heap.size, 25, #[.int .i64 W, .int .i64 H, .int .i64 P, .slice A xs.length c]⟩] := LSt.box2 S1 25 #[.int .i64 W, .int .i64 H, .int .i64 P, .slice A xs.length c] u1.heap.size (by simp)
    go_wp2_with fail
    clear S1
    generalize u1.alloc (.cells #[.int .i64 W, .int .i64 H, .int .i64 P, .slice A xs.length c] 25) = u1002 at *
    refine (MpC.use HI A c A' c' _ ((S1001).rds (A := A) (xs := xs) (by simp)) hxc ((S1001).rds (A := A') (xs := q) (by simp)) hqc).mono ?_
    rintro e u1003 ⟨A1003, c1003, rfl, hc1003, hr1003, hB1003⟩
    have S1003 := (S1001.call hB1003).add hr1003
    clear hr1003 hB1003 S1001
    have Fmx := S1003.2.2 ⟨u1.heap.size, 25, #[.int .i64 W, .int .i64 H, .int .i64 P, .slice A xs.length c]⟩ (by simp)
    have ml : u1.heap.size < u1003.heap.size := Fmx.lt
    have m0 : u1003.cell? ⟨u1.heap.size, 0, none⟩ = some (.int .i64 W) := cell_of_row _ _ 0 _ _ _ Fmx
    have m1 : u1003.cell? ⟨u1.heap.size, 1, none⟩ = some (.int .i64 H) := cell_of_row _ _ 1 _ _ _ Fmx
    have m2 : u1003.cell? ⟨u1.heap.size, 2, none⟩ = some (.int .i64 P) := cell_of_row _ _ 2 _ _ _ Fmx
    have m3 : u1003.cell? ⟨u1.heap.size, 3, none⟩ = some (.slice A xs.length c) := cell_of_row _ _ 3 _ _ _ Fmx
    clear Fmx
    have S1004 : LSt w (u1003.alloc (.cells #[.int .i64 X, .int .i64 Y, .int .i64 Z, .slice A1003 ys.length c1003] 25)) [(A1003, ys), (A', q), (A, xs)] [⟨u1003.heap.size, 25, #[.int .i64 X, .int .i64 Y, .int .i64 Z, .slice A1003 ys.length c1003]⟩, ⟨u1.heap.size, 25, #[.int .i64 W, .int .i64 H, .int .i64 P, .slice A xs.length c]⟩] := LSt.box2 S1003 25 #[.int .i64 X, .int .i64 Y, .int .i64 Z, .slice A1003 ys.length c1003] u1003.heap.size (by simp)
    go_wp2_with fail
    clear ml m0 m1 m2 m3
    clear S1003
    generalize u1003.alloc (.cells #[.int .i64 X, .int .i64 Y, .int .i64 Z, .slice A1003 ys.length c1003] 25) = u1005 at *
    refine (MpC.use HQ A c A' c' _ ((S1004).rds (A := A) (xs := xs) (by simp)) hxc ((S1004).rds (A := A') (xs := q) (by simp)) hqc).mono ?_
    rintro e u1006 ⟨A1006, c1006, rfl, hc1006, hr1006, hB1006⟩
    have S1006 := (S1004.call hB1006).add hr1006
    clear hr1006 hB1006 S1004
    have Fox := S1006.2.2 ⟨u1003.heap.size, 25, #[.int .i64 X, .int .i64 Y, .int .i64 Z, .slice A1003 ys.length c1003]⟩ (by simp)
    have ol : u1003.heap.size < u1006.heap.size := Fox.lt
    have o0 : u1006.cell? ⟨u1003.heap.size, 0, none⟩ = some (.int .i64 X) := cell_of_row _ _ 0 _ _ _ Fox
    have o1 : u1006.cell? ⟨u1003.heap.size, 1, none⟩ = some (.int .i64 Y) := cell_of_row _ _ 1 _ _ _ Fox
    have o2 : u1006.cell? ⟨u1003.heap.size, 2, none⟩ = some (.int .i64 Z) := cell_of_row _ _ 2 _ _ _ Fox
    have o3 : u1006.cell? ⟨u1003.heap.size, 3, none⟩ = some (.slice A1003 ys.length c1003) := cell_of_row _ _ 3 _ _ _ Fox
    clear Fox
    have S1007 : LSt w (u1006.alloc (.cells #[.int .i64 X, .int .i64 Y, .int .i64 Z, .slice A1006 ys.length c1006] 25)) [(A1006, ys), (A1003, ys), (A', q), (A, xs)] [⟨u1006.heap.size, 25, #[.int .i64 X, .int .i64 Y, .int .i64 Z, .slice A1006 ys.length c1006]⟩, ⟨u1003.heap.size, 25, #[.int .i64 X, .int .i64 Y, .int .i64 Z, .slice A1003 ys.length c1003]⟩, ⟨u1.heap.size, 25, #[.int .i64 W, .int .i64 H, .int .i64 P, .slice A xs.length c]⟩] := LSt.box2 S1006 25 #[.int .i64 X, .int .i64 Y, .int .i64 Z, .slice A1006 ys.length c1006] u1006.heap.size (by simp)
    go_wp2_with fail
    clear ol o0 o1 o2 o3
    clear S1006
    generalize u1006.alloc (.cells #[.int .i64 X, .int .i64 Y, .int .i64 Z, .slice A1006 ys.length c1006] 25) = u1008 at *
    refine (lEqIm X Y Z ys A1003 A1006 c1003 c1006 _ ((S1007).rds (A := A1003) (xs := ys) (by simp)) ((S1007).rds (A := A1006) (xs := ys) (by simp)) (by omega)).mono ?_
    rintro e u1009 ⟨rfl, hB1009⟩
    have S1009 := S1007.call hB1009
    clear hB1009 S1007
    rcases hor with rfl | ⟨rfl, h256, HBY, zs, hzs, HM1, HM2, HM3⟩
    · skip
      have Fox := S1009.2.2 ⟨u1003.heap.size, 25, #[.int .i64 X, .int .i64 Y, .int .i64 Z, .slice A1003 ys.length c1003]⟩ (by simp)
      have ol : u1003.heap.size < u1009.heap.size := Fox.lt
      have o0 : u1009.cell? ⟨u1003.heap.size, 0, none⟩ = some (.int .i64 X) := cell_of_row _ _ 0 _ _ _ Fox
      have o1 : u1009.cell? ⟨u1003.heap.size, 1, none⟩ = some (.int .i64 Y) := cell_of_row _ _ 1 _ _ _ Fox
      have o2 : u1009.cell? ⟨u1003.heap.size, 2, none⟩ = some (.int .i64 Z) := cell_of_row _ _ 2 _ _ _ Fox
      have o3 : u1009.cell? ⟨u1003.heap.size, 3, none⟩ = some (.slice A1003 ys.length c1003) := cell_of_row _ _ 3 _ _ _ Fox
      clear Fox
      have Fjx := S1009.2.2 ⟨u1006.heap.size, 25, #[.int .i64 X, .int .i64 Y, .int .i64 Z, .slice A1006 ys.length c1006]⟩ (by simp)
      have jl : u1006.heap.size < u1009.heap.size := Fjx.lt
      have j0 : u1009.cell? ⟨u1006.heap.size, 0, none⟩ = some (.int .i64 X) := cell_of_row _ _ 0 _ _ _ Fjx
      have j1 : u1009.cell? ⟨u1006.heap.size, 1, none⟩ = some (.int .i64 Y) := cell_of_row _ _ 1 _ _ _ Fjx
      have j2 : u1009.cell? ⟨u1006.heap.size, 2, none⟩ = some (.int .i64 Z) := cell_of_row _ _ 2 _ _ _ Fjx
      have j3 : u1009.cell? ⟨u1006.heap.size, 3, none⟩ = some (.slice A1006 ys.length c1006) := cell_of_row _ _ 3 _ _ _ Fjx
      clear Fjx
      go_wp2_with fail
      refine (lEqIm X Y Z ys A1003 A1006 c1003 c1006 _ ((S1009).rds (A := A1003) (xs := ys) (by simp)) ((S1009).rds (A := A1006) (xs := ys) (by simp)) (by omega)).mono ?_
      rintro e u1010 ⟨rfl, hB1010⟩
      have S1010 := S1009.call hB1010
      clear ol o0 o1 o2 o3
      clear jl j0 j1 j2 j3
      clear hB1010 S1009
      go_wp2
      go_ret
      exact ⟨rfl, S1010.1⟩
    · skip
      have HS0 := Lib.hid S1009
      clear S1009
      have H256 := Lib.hid h256
      obtain ⟨base, hbase⟩ : ∃ b, b = u1009.heap.size := ⟨_, rfl⟩
      obtain ⟨u2000, hu2⟩ : ∃ u2, u2 = (u1009.alloc (.cells #[] 3)).alloc (.cells #[] 3) := ⟨_, rfl⟩
      have HI0 : Hid (Own u2000 base (.slice (some ⟨base, 0, none⟩) 0 0) (fnL idF 0) ∧ Own u2000 base (.slice (some ⟨base + 1, 0, none⟩) 0 0) (fnL (twF q) 0) ∧ Dj (.slice (some ⟨base, 0, none⟩) 0 0) (.slice (some ⟨base + 1, 0, none⟩) 0 0) ∧ Below base u1009 u2000) := Lib.hid (by
        rw [hbase, hu2]
        refine ⟨(own_none u1009).alloc _, ?_, ?_, ((Below.refl _ _).alloc (Nat.le_refl _) _).alloc (by simp) _⟩
        · have := own_none (u1009.alloc (.cells #[] 3))
          simp at this
          exact this.base_le (by omega)
        · intro k h1 h2
          simp [Value.ownBlock] at h1 h2
          omega)
      have HBase := Lib.hid hbase
      have HU2 := Lib.hid hu2
      clear hbase hu2 h256
      go_wp2
      rw [← HU2.out, ← HBase.out]
      clear HU2
      go_loopw [9, 10, 11] (fun v v' i wr => ∃ k : Nat, k ≤ 256 ∧ i = .int .i64 (k : Int) ∧ Hid (Own wr base v (fnL idF k) ∧ Own wr base v' (fnL (twF q) k) ∧ Dj v v' ∧ Below base u1009 wr)) (fun _ _ i _ => 256 - (intOf i).toNat)
      case atStart => exact ⟨0, by omega, rfl, HI0⟩
      case round =>
        clear HI0
        obtain ⟨k, hk, rfl, hI⟩ := hrel
        obtain ⟨hO, hP, hD, hB⟩ := hI.out
        have hsz := hB.size
        have hbz : base ≤ wr.heap.size := by have := HBase.out; omega
        by_cases hlt : k < 256
        · obtain ⟨bs, hbs⟩ : ∃ bs, bs = fnL idF k := ⟨_, rfl⟩
          obtain ⟨ts, hts⟩ : ∃ ts, ts = fnL (twF q) k := ⟨_, rfl⟩
          have hbl : bs.length ≤ 256 := by rw [hbs, fnL_len]; omega
          have htl : ts.length ≤ 256 := by rw [hts, fnL_len]; omega
          have HNB : Hid (bs ++ [(k : Int)] = fnL idF (k + 1)) := Lib.hid (by rw [hbs, fnL_next]; rfl)
          have HNT : Hid (ts ++ [twF q k] = fnL (twF q) (k + 1)) := Lib.hid (by rw [hts, fnL_next])
          rw [← hbs] at hO
          rw [← hts] at hP
          obtain ⟨A1, c1, rfl, hc1⟩ := hO.slice
          obtain ⟨A2, c2, rfl, hc2⟩ := hP.slice
          clear hI hbs hts
          go_wp2_with (at_builtin; refine wpList_app2 rfl (.tmp 65) (.tmp 67) rfl base (.slice A1 bs.length c1) bs rfl (hO.alloc _) (some ⟨wr.heap.size, 0, none⟩) 1 1 _ [(k : Int)] rfl rfl (rds_one wr _) (by simp; omega) (by simp; omega) ?_; intro v6 w6 hO6 hG6 hD6)
          obtain ⟨hP6, hDj6⟩ := app_other hP hD hO hG6 hD6
          have hB6 : Below base u1009 w6 := (hB.alloc hbz _).grown hG6 (by simp; omega) (fun j hj => (hO.lt j hj).1)
          have hz6 : base ≤ w6.heap.size := by have := hB6.size; have := HBase.out; omega
          obtain ⟨A6, c6, rfl, _⟩ := hO6.slice
          generalize (bs ++ [(k : Int)]).length = nb at *
          have S6 := HS0.out.call (by rw [← HBase.out]; exact hB6)
          obtain ⟨b, off, rfl, hb, hc⟩ := (S6.rds (A := A') (xs := q) (by simp)).cells_ (j := k) (by have := H256.out; omega)
          have hyk := HBY.out _ (getD_mem' (ls := q) (n := k) (by have := H256.out; omega))
          obtain ⟨n, hn⟩ : ∃ n : Nat, q.getD k 0 = n := ⟨(q.getD k 0).toNat, by omega⟩
          have hck := hc k (by have := H256.out; omega)
          have hcn := hc n (by have := H256.out; omega)
          rw [hn] at hck hyk
          rw [show twF q k = q.getD n 0 from by unfold twF; rw [hn]; rfl] at HNT
          have hq1 : (k : Int) < (q.length : Int) := by have := H256.out; omega
          have hq2 : (n : Int) < (q.length : Int) := by have := H256.out; omega
          have hq3 : k < q.length := by have := H256.out; omega
          have hq4 : n < q.length := by have := H256.out; omega
          have HO6 := Lib.hid hO6
          have HP6 := Lib.hid hP6
          have HD6 := Lib.hid hDj6
          have HB6 := Lib.hid hB6
          clear hO hP hD hB hG6 hD6 hO6 hP6 hDj6 hB6 S6 hc hn hsz hbz
          generalize q.getD n 0 = z at *
          go_wp2_with fail
          go_simp
          go_at_K
          go_wp2_with (at_builtin; refine wpList_app2 rfl (.tmp 69) (.tmp 77) rfl base (.slice A2 ts.length c2) ts rfl (HP6.out.alloc _) (some ⟨w6.heap.size, 0, none⟩) 1 1 _ [z] rfl rfl (rds_one w6 _) (by simp; omega) (by simp; omega) ?_; intro v7 w7 hO7 hG7 hD7)
          obtain ⟨hP7, hDj7⟩ := app_other HO6.out HD6.out.symm HP6.out hG7 hD7
          have hB7 : Below base u1009 w7 := (HB6.out.alloc hz6 _).grown hG7 (by simp; omega) (fun j hj => (HP6.out.lt j hj).1)
          have HN : Hid (Own w7 base (.slice A6 nb c6) (fnL idF (k + 1)) ∧ Own w7 base v7 (fnL (twF q) (k + 1)) ∧ Dj (.slice A6 nb c6) v7 ∧ Below base u1009 w7) := Lib.hid ⟨by rw [← HNB.out]; exact hP7, by rw [← HNT.out]; exact hO7, hDj7.symm, hB7⟩
          clear hO7 hG7 hD7 hP7 hDj7 hB7 HO6 HP6 HD6 HB6 hck hcn
          go_wp2
          go_roundw
          case rel => exact ⟨k + 1, by omega, by go_num, HN⟩
          case measure => simp [intOf]; omega
        · have hk' : k = 256 := by omega
          rw [hk'] at hO hP
          obtain ⟨bs, hbs⟩ : ∃ bs, bs = fnL idF 256 := ⟨_, rfl⟩
          obtain ⟨ts, hts⟩ : ∃ ts, ts = fnL (twF q) 256 := ⟨_, rfl⟩
          rw [← hbs] at hO HM1
          rw [← hts] at hP HM3
          obtain ⟨A1, c1, rfl, hc1⟩ := hO.slice
          obtain ⟨A2, c2, rfl, hc2⟩ := hP.slice
          have S2001 := ((HS0.out.call (by rw [← HBase.out]; exact hB)).add hO.rds.2).add hP.rds.2
          clear hO hP hD hB hI hbs hts HS0 hk' hsz hbz
          have Fmx := S2001.2.2 ⟨u1.heap.size, 25, #[.int .i64 W, .int .i64 H, .int .i64 P, .slice A xs.length c]⟩ (by simp)
          have ml : u1.heap.size < wr.heap.size := Fmx.lt
          have m0 : wr.cell? ⟨u1.heap.size, 0, none⟩ = some (.int .i64 W) := cell_of_row _ _ 0 _ _ _ Fmx
          have m1 : wr.cell? ⟨u1.heap.size, 1, none⟩ = some (.int .i64 H) := cell_of_row _ _ 1 _ _ _ Fmx
          have m2 : wr.cell? ⟨u1.heap.size, 2, none⟩ = some (.int .i64 P) := cell_of_row _ _ 2 _ _ _ Fmx
          have m3 : wr.cell? ⟨u1.heap.size, 3, none⟩ = some (.slice A xs.length c) := cell_of_row _ _ 3 _ _ _ Fmx
          clear Fmx
          go_wp2_with fail
          refine (MpC.use HM1 A c A1 c1 _ ((S2001).rds (A := A) (xs := xs) (by simp)) hxc ((S2001).rds (A := A1) (xs := bs) (by simp)) hc1).mono ?_
          rintro e u1010 ⟨A1010, c1010, rfl, hc1010, hr1010, hB1010⟩
          have S1010 := (S2001.call hB1010).add hr1010
          clear ml m0 m1 m2 m3
          clear hr1010 hB1010 S2001
          have Fmx := S1010.2.2 ⟨u1.heap.size, 25, #[.int .i64 W, .int .i64 H, .int .i64 P, .slice A xs.length c]⟩ (by simp)
          have ml : u1.heap.size < u1010.heap.size := Fmx.lt
          have m0 : u1010.cell? ⟨u1.heap.size, 0, none⟩ = some (.int .i64 W) := cell_of_row _ _ 0 _ _ _ Fmx
          have m1 : u1010.cell? ⟨u1.heap.size, 1, none⟩ = some (.int .i64 H) := cell_of_row _ _ 1 _ _ _ Fmx
          have m2 : u1010.cell? ⟨u1.heap.size, 2, none⟩ = some (.int .i64 P) := cell_of_row _ _ 2 _ _ _ Fmx
          have m3 : u1010.cell? ⟨u1.heap.size, 3, none⟩ = some (.slice A xs.length c) := cell_of_row _ _ 3 _ _ _ Fmx
          clear Fmx
          have Fox := S1010.2.2 ⟨u1003.heap.size, 25, #[.int .i64 X, .int .i64 Y, .int .i64 Z, .slice A1003 ys.length c1003]⟩ (by simp)
          have ol : u1003.heap.size < u1010.heap.size := Fox.lt
          have o0 : u1010.cell? ⟨u1003.heap.size, 0, none⟩ = some (.int .i64 X) := cell_of_row _ _ 0 _ _ _ Fox
          have o1 : u1010.cell? ⟨u1003.heap.size, 1, none⟩ = some (.int .i64 Y) := cell_of_row _ _ 1 _ _ _ Fox
          have o2 : u1010.cell? ⟨u1003.heap.size, 2, none⟩ = some (.int .i64 Z) := cell_of_row _ _ 2 _ _ _ Fox
          have o3 : u1010.cell? ⟨u1003.heap.size, 3, none⟩ = some (.slice A1003 ys.length c1003) := cell_of_row _ _ 3 _ _ _ Fox
          clear Fox
          have S1011 : LSt w (u1010.alloc (.cells #[.int .i64 W, .int .i64 H, .int .i64 P, .slice A1010 xs.length c1010] 25)) [(A1010, xs), (A2, ts), (A1, bs), (A1006, ys), (A1003, ys), (A', q), (A, xs)] [⟨u1010.heap.size, 25, #[.int .i64 W, .int .i64 H, .int .i64 P, .slice A1010 xs.length c1010]⟩, ⟨u1006.heap.size, 25, #[.int .i64 X, .int .i64 Y, .int .i64 Z, .slice A1006 ys.length c1006]⟩, ⟨u1003.heap.size, 25, #[.int .i64 X, .int .i64 Y, .int .i64 Z, .slice A1003 ys.length c1003]⟩, ⟨u1.heap.size, 25, #[.int .i64 W, .int .i64 H, .int .i64 P, .slice A xs.length c]⟩] := LSt.box2 S1010 25 #[.int .i64 W, .int .i64 H, .int .i64 P, .slice A1010 xs.length c1010] u1010.heap.size (by simp)
          go_wp2_with fail
          clear ml m0 m1 m2 m3
          clear ol o0 o1 o2 o3
          clear S1010
          generalize u1010.alloc (.cells #[.int .i64 W, .int .i64 H, .int .i64 P, .slice A1010 xs.length c1010] 25) = u1012 at *
          refine (MpC.use HM2 A1003 c1003 A' c' _ ((S1011).rds (A := A1003) (xs := ys) (by simp)) hc1003 ((S1011).rds (A := A') (xs := q) (by simp)) hqc).mono ?_
          rintro e u1013 ⟨A1013, c1013, rfl, hc1013, hr1013, hB1013⟩
          have S1013 := (S1011.call hB1013).add hr1013
          clear hr1013 hB1013 S1011
          have Fmx := S1013.2.2 ⟨u1.heap.size, 25, #[.int .i64 W, .int .i64 H, .int .i64 P, .slice A xs.length c]⟩ (by simp)
          have ml : u1.heap.size < u1013.heap.size := Fmx.lt
          have m0 : u1013.cell? ⟨u1.heap.size, 0, none⟩ = some (.int .i64 W) := cell_of_row _ _ 0 _ _ _ Fmx
          have m1 : u1013.cell? ⟨u1.heap.size, 1, none⟩ = some (.int .i64 H) := cell_of_row _ _ 1 _ _ _ Fmx
          have m2 : u1013.cell? ⟨u1.heap.size, 2, none⟩ = some (.int .i64 P) := cell_of_row _ _ 2 _ _ _ Fmx
          have m3 : u1013.cell? ⟨u1.heap.size, 3, none⟩ = some (.slice A xs.length c) := cell_of_row _ _ 3 _ _ _ Fmx
          clear Fmx
          have S1014 : LSt w (u1013.alloc (.cells #[.int .i64 W, .int .i64 H, .int .i64 P, .slice A1013 zs.length c1013] 25)) [(A1013, zs), (A1010, xs), (A2, ts), (A1, bs), (A1006, ys), (A1003, ys), (A', q), (A, xs)] [⟨u1013.heap.size, 25, #[.int .i64 W, .int .i64 H, .int .i64 P, .slice A1013 zs.length c1013]⟩, ⟨u1010.heap.size, 25, #[.int .i64 W, .int .i64 H, .int .i64 P, .slice A1010 xs.length c1010]⟩, ⟨u1006.heap.size, 25, #[.int .i64 X, .int .i64 Y, .int .i64 Z, .slice A1006 ys.length c1006]⟩, ⟨u1003.heap.size, 25, #[.int .i64 X, .int .i64 Y, .int .i64 Z, .slice A1003 ys.length c1003]⟩, ⟨u1.heap.size, 25, #[.int .i64 W, .int .i64 H, .int .i64 P, .slice A xs.length c]⟩] := LSt.box2 S1013 25 #[.int .i64 W, .int .i64 H, .int .i64 P, .slice A1013 zs.length c1013] u1013.heap.size (by simp)
          go_wp2_with fail
          clear ml m0 m1 m2 m3
          clear S1013
          generalize u1013.alloc (.cells #[.int .i64 W, .int .i64 H, .int .i64 P, .slice A1013 zs.length c1013] 25) = u1015 at *
          refine (MpC.use HM3 A c A2 c2 _ ((S1014).rds (A := A) (xs := xs) (by simp)) hxc ((S1014).rds (A := A2) (xs := ts) (by simp)) hc2).mono ?_
          rintro e u1016 ⟨A1016, c1016, rfl, hc1016, hr1016, hB1016⟩
          have S1016 := (S1014.call hB1016).add hr1016
          clear hr1016 hB1016 S1014
          have Fmx := S1016.2.2 ⟨u1.heap.size, 25, #[.int .i64 W, .int .i64 H, .int .i64 P, .slice A xs.length c]⟩ (by simp)
          have ml : u1.heap.size < u1016.heap.size := Fmx.lt
          have m0 : u1016.cell? ⟨u1.heap.size, 0, none⟩ = some (.int .i64 W) := cell_of_row _ _ 0 _ _ _ Fmx
          have m1 : u1016.cell? ⟨u1.heap.size, 1, none⟩ = some (.int .i64 H) := cell_of_row _ _ 1 _ _ _ Fmx
          have m2 : u1016.cell? ⟨u1.heap.size, 2, none⟩ = some (.int .i64 P) := cell_of_row _ _ 2 _ _ _ Fmx
          have m3 : u1016.cell? ⟨u1.heap.size, 3, none⟩ = some (.slice A xs.length c) := cell_of_row _ _ 3 _ _ _ Fmx
          clear Fmx
          have Fax := S1016.2.2 ⟨u1010.heap.size, 25, #[.int .i64 W, .int .i64 H, .int .i64 P, .slice A1010 xs.length c1010]⟩ (by simp)
          have al : u1010.heap.size < u1016.heap.size := Fax.lt
          have a0 : u1016.cell? ⟨u1010.heap.size, 0, none⟩ = some (.int .i64 W) := cell_of_row _ _ 0 _ _ _ Fax
          have a1 : u1016.cell? ⟨u1010.heap.size, 1, none⟩ = some (.int .i64 H) := cell_of_row _ _ 1 _ _ _ Fax
          have a2 : u1016.cell? ⟨u1010.heap.size, 2, none⟩ = some (.int .i64 P) := cell_of_row _ _ 2 _ _ _ Fax
          have a3 : u1016.cell? ⟨u1010.heap.size, 3, none⟩ = some (.slice A1010 xs.length c1010) := cell_of_row _ _ 3 _ _ _ Fax
          clear Fax
          have Fbx := S1016.2.2 ⟨u1013.heap.size, 25, #[.int .i64 W, .int .i64 H, .int .i64 P, .slice A1013 zs.length c1013]⟩ (by simp)
          have bl : u1013.heap.size < u1016.heap.size := Fbx.lt
          have b0 : u1016.cell? ⟨u1013.heap.size, 0, none⟩ = some (.int .i64 W) := cell_of_row _ _ 0 _ _ _ Fbx
          have b1 : u1016.cell? ⟨u1013.heap.size, 1, none⟩ = some (.int .i64 H) := cell_of_row _ _ 1 _ _ _ Fbx
          have b2 : u1016.cell? ⟨u1013.heap.size, 2, none⟩ = some (.int .i64 P) := cell_of_row _ _ 2 _ _ _ Fbx
          have b3 : u1016.cell? ⟨u1013.heap.size, 3, none⟩ = some (.slice A1013 zs.length c1013) := cell_of_row _ _ 3 _ _ _ Fbx
          clear Fbx
          have S1017 : LSt w (u1016.alloc (.cells #[.int .i64 W, .int .i64 H, .int .i64 P, .slice A1016 zs.length c1016] 25)) [(A1016, zs), (A1013, zs), (A1010, xs), (A2, ts), (A1, bs), (A1006, ys), (A1003, ys), (A', q), (A, xs)] [⟨u1016.heap.size, 25, #[.int .i64 W, .int .i64 H, .int .i64 P, .slice A1016 zs.length c1016]⟩, ⟨u1013.heap.size, 25, #[.int .i64 W, .int .i64 H, .int .i64 P, .slice A1013 zs.length c1013]⟩, ⟨u1010.heap.size, 25, #[.int .i64 W, .int .i64 H, .int .i64 P, .slice A1010 xs.length c1010]⟩, ⟨u1006.heap.size, 25, #[.int .i64 X, .int .i64 Y, .int .i64 Z, .slice A1006 ys.length c1006]⟩, ⟨u1003.heap.size, 25, #[.int .i64 X, .int .i64 Y, .int .i64 Z, .slice A1003 ys.length c1003]⟩, ⟨u1.heap.size, 25, #[.int .i64 W, .int .i64 H, .int .i64 P, .slice A xs.length c]⟩] := LSt.box2 S1016 25 #[.int .i64 W, .int .i64 H, .int .i64 P, .slice A1016 zs.length c1016] u1016.heap.size (by simp)
          go_wp2_with fail
          clear ml m0 m1 m2 m3
          clear al a0 a1 a2 a3
          clear bl b0 b1 b2 b3
          clear S1016
          generalize u1016.alloc (.cells #[.int .i64 W, .int .i64 H, .int .i64 P, .slice A1016 zs.length c1016] 25) = u1018 at *
          refine (lEqIm W H P xs A1010 A c1010 c _ ((S1017).rds (A := A1010) (xs := xs) (by simp)) ((S1017).rds (A := A) (xs := xs) (by simp)) (by omega)).mono ?_
          rintro e u1019 ⟨rfl, hB1019⟩
          have S1019 := S1017.call hB1019
          clear hB1019 S1017
          have Fbx := S1019.2.2 ⟨u1013.heap.size, 25, #[.int .i64 W, .int .i64 H, .int .i64 P, .slice A1013 zs.length c1013]⟩ (by simp)
          have bl : u1013.heap.size < u1019.heap.size := Fbx.lt
          have b0 : u1019.cell? ⟨u1013.heap.size, 0, none⟩ = some (.int .i64 W) := cell_of_row _ _ 0 _ _ _ Fbx
          have b1 : u1019.cell? ⟨u1013.heap.size, 1, none⟩ = some (.int .i64 H) := cell_of_row _ _ 1 _ _ _ Fbx
          have b2 : u1019.cell? ⟨u1013.heap.size, 2, none⟩ = some (.int .i64 P) := cell_of_row _ _ 2 _ _ _ Fbx
          have b3 : u1019.cell? ⟨u1013.heap.size, 3, none⟩ = some (.slice A1013 zs.length c1013) := cell_of_row _ _ 3 _ _ _ Fbx
          clear Fbx
          have Fdx := S1019.2.2 ⟨u1016.heap.size, 25, #[.int .i64 W, .int .i64 H, .int .i64 P, .slice A1016 zs.length c1016]⟩ (by simp)
          have dl : u1016.heap.size < u1019.heap.size := Fdx.lt
          have d0 : u1019.cell? ⟨u1016.heap.size, 0, none⟩ = some (.int .i64 W) := cell_of_row _ _ 0 _ _ _ Fdx
          have d1 : u1019.cell? ⟨u1016.heap.size, 1, none⟩ = some (.int .i64 H) := cell_of_row _ _ 1 _ _ _ Fdx
          have d2 : u1019.cell? ⟨u1016.heap.size, 2, none⟩ = some (.int .i64 P) := cell_of_row _ _ 2 _ _ _ Fdx
          have d3 : u1019.cell? ⟨u1016.heap.size, 3, none⟩ = some (.slice A1016 zs.length c1016) := cell_of_row _ _ 3 _ _ _ Fdx
          clear Fdx
          go_wp2_with fail
          refine (lEqIm W H P zs A1013 A1016 c1013 c1016 _ ((S1019).rds (A := A1013) (xs := zs) (by simp)) ((S1019).rds (A := A1016) (xs := zs) (by simp)) (by omega)).mono ?_
          rintro e u1020 ⟨rfl, hB1020⟩
          have S1020 := S1019.call hB1020
          clear bl b0 b1 b2 b3
          clear dl d0 d1 d2 d3
          clear hB1020 S1019
          go_wp2
          go_ret
          exact ⟨rfl, S1020.1⟩

/-! ### From the walk to the statement. -/
theorem own : ownKnob Try.prog.godebug = none := by kernel_rfl
theorem laidOut : laidOutB Try.prog = true := by kernel_rfl
set_option maxRecDepth 100000 in
theorem lifted (os : Os) (started : os.Started) (H : Type) (enc : TypeId × Value → H) :
    ReturnsInHanded {} Try.checked os 3 .any (Rows.fnMapImageSpec.pre6 enc Try.prog Try.f3 Rows.fnMapImageRow.domain false) (Rows.fnMapImageSpec.post enc Try.prog Try.f3 false true false false) := by
  refine returnsInHanded_of_change (C := Try.checked) own started (by kernel_rfl) Try.func3
    (ChangeSpec.witness6 (enc := enc) (C := Try.checked) false ⟨#[], #[.slice none 0 0], []⟩ 8 (by kernel_rfl) (by kernel_rfl) (by kernel_rfl) (by kernel_rfl)) ?_
  intro W base args ds gs before hval0 hW hcnd _
  have hval : ∀ (j : Nat) t v, Try.f3.params[j]? = some t → args[j]? = some v → Value.okWide Try.prog W .any base t v := hval0
  have hW' := hW
  obtain ⟨p, q, hA0, hV, rfl, hfz, hnd⟩ := hW
  have hA : DataW.TrodAll enc Try.prog W 0 (fun _ => true) true Try.f3.params.toList args.toList ds p := hA0
  rw [Try.params3] at hA hval
  obtain ⟨v0, vs0, d0, ds0, p0, q0, hargs, rfl, rfl, h0, r0⟩ := trodAll_cons hA
  obtain ⟨rfl, rfl, rfl⟩ := trodAll_nil r0
  obtain rfl : args = #[v0] := by cases args; simp_all
  obtain ⟨rfl, rfl⟩ := trodVars_none hV
  obtain ⟨a0, len0, cap0, rfl⟩ := okWide_slice Try.underlying22 (hval 0 22 v0 rfl rfl)
  have k0 := h0
  have lt0 : ∀ x ∈ p0, x.block < W.heap.size := by obtain ⟨m, hm⟩ := k0; exact DataW.trod_lt m _ _ _ hm
  obtain ⟨z0, hl0, hc0, w0⟩ : ∃ zs : List Int, len0 = zs.length ∧ zs.length ≤ cap0 ∧ Rdw .u8 W W.heap.size a0 zs := by
    obtain ⟨fuel, hf⟩ := h0
    rcases open_ints Try.underlying22 Try.underlying5 (by kernel_rfl) hf with ⟨hcs, _⟩ | ⟨x, l, c, zs, hcs, _, hl, hm, hz, _, hcell, hwz⟩
    · simp [Value.cells] at hcs
      obtain ⟨rfl, rfl, rfl⟩ := hcs
      exact ⟨[], rfl, Nat.le_refl _, Rdw.nil⟩
    · simp [Value.cells] at hcs
      obtain ⟨rfl, rfl, rfl⟩ := hcs
      exact ⟨zs.take len0, by simp at hz ⊢; omega, by simp at hz ⊢; omega, Rdw.of_row hl hm (by simpa using hz) hcell hwz⟩
  subst hl0
  clear hA0 hval0
  refine (walk W a0 cap0 z0 hc0 w0).mono fun e W' ⟨he, bel⟩ => ?_
  subst he
  exact ⟨_, rfl, _, _, _, [], _, [], hW', trodAll_mk1 (shut_bool Try.underlying4 _), (trodAll_cons_mk (Below.trod laidOut (by kernel_rfl) (of_decide_eq_true (by kernel_rfl)) k0 bel lt0) trodAll_mk0), rfl, bel.frame _, fun h => by cases h⟩

theorem over : Rows.fnMapImageRow.holds Try.pinned (OpenSpec.ofChange Rows.fnMapImageSpec) :=
  OpenClaim.holds_of_wide 3 Try.f3 rfl rfl rfl rfl rfl rfl rfl ⟨rfl, rfl, rfl, rfl, rfl⟩ rfl rfl rfl rfl rfl (by kernel_rfl) Try.func3 (by kernel_rfl)
    (of_decide_eq_true (by kernel_rfl)) (by unfold Func.isWrapper; first | (rw [if_pos (by decide +kernel)]; kernel_rfl) | (rw [if_neg (by decide +kernel)]; exact ⟨rfl, rfl⟩))
    (fun os started H enc _ => lifted os started H enc)

theorem proved : Rows.FnMapImageSaid := over
end Go.Proofs.Ytebfaomlljekiaa.fnMapImage
