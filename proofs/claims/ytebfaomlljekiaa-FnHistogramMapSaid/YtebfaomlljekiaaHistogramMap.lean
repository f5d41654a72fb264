/- Whatever the code: MapImage of the drawn image and list answers what the model answers, and the histogram of a mapped image with one plane has at each number the counts of all numbers that become it. -/
import Derived.Test.YtebfaomlljekiaaRows
import Derived.WalkKit
import Derived.ProofKit
import Derived.OpenShut
import Derived.ShutString
import Derived.ChangeOld
import Derived.Below
import Derived.Test.YtebfaomlljekiaaGryL
import Derived.Test.YtebfaomlljekiaaDrawMap
import Derived.Deep.QuietTactic
import Derived.BigQuiet
namespace Go.Proofs.Ytebfaomlljekiaa.fnHistogramMap
open Go.ChangeShapes Go.WideShapes Go.ChangeAt Go.RowKit
open Go.ChangeMaps (open_string shut_string)
set_option linter.unusedVariables false

set_option linter.unusedSimpArgs false
set_option maxRecDepth 20000
set_option maxHeartbeats 16000000 in
theorem walk (w : World) (a0 : Option Addr) (cap0 : Nat) (z0 : List Int) (hc0 : z0.length ≤ cap0) (w0 : Rdw .u8 w w.heap.size a0 z0) :
    Calls Try.prog 5 #[.slice a0 z0.length cap0] w fun e w' => e = .returned (.bool true) ∧ Below w.heap.size w w' := by
  have hm := w0.2.1
  unfold maxLen at hm
  by_cases hlen : 1048576 < z0.length
  · go_enter Try.func5, Try.ntmps5
    go_wp2
    go_ret
    exact ⟨rfl, Below.refl _ _⟩
  · go_enter Try.func5, Try.ntmps5
    go_wp2_with fail
    refine (drawMap_any a0 cap0 z0 w hc0 w0).mono ?_
    rintro e u1 ⟨W, H, P, A, c, xs, A', c', q, rfl, hx, hxc, hr, hq, hqc, hr', hbel⟩
    have S1 : LSt w u1 [(A', q), (A, xs)] [] := ((LSt.start hbel).add hr).add hr'
    obtain ⟨X, Y, Z, ys, ok, hys, HI, HQ, hor⟩ := hmp_law W H P xs q hx hq
    clear w0 hr hr' hbel hm
    have S1001 : LSt w (u1.alloc (.cells #[.int .i64 W, .int .i64 H, .int .i64 P, .slice A xs.length c] 25)) [(A', q), (A, xs)] [⟨u1.heap.size, 25, #[.int .i64 W, .int .i64 H, .int .i64 P, .slice A xs.length c]⟩] := LSt.box2 S1 25 #[.int .i64 W, .int .i64 H, .int .i64 P, .slice A xs.length c] u1.heap.size (by simp)
    go_wp2_with fail
    clear S1
    generalize u1.alloc (.cells #[.int .i64 W, .int .i64 H, .int .i64 P, .slice A xs.length c] 25) = u1002 at *
    refine (MpC.use HI A c A' c' _ ((S1001).rds (A := A) (xs := xs) (by simp)) hxc ((S1001).rds (A := A') (xs := q) (by simp)) hqc).mono ?_
    rintro e u1003 ⟨A1003, c1003, rfl, hc1003, hr1003, hB1003⟩
    have S1003 := (S1001.call hB1003).add hr1003
    clear hr1003 hB1003 S1001
    have Fmx := S1003.2.2 ⟨u1.heap.size, 25, #[.int .i64 W, .int .i64 H, .int .i64 P, .slice A xs.length c]⟩ (by simp)
    have ml : u1.heap.size < u1003.heap.size := Fmx.lt
    have m0 : u1003.cell? ⟨u1.heap.size, 0, none⟩ = some (.int .i64 W) := cell_of_row _ _ 0 _ _ _ Fmx
    have m1 : u1003.cell? ⟨u1.heap.size, 1, none⟩ = some (.int .i64 H) := cell_of_row _ _ 1 _ _ _ Fmx
    have m2 : u1003.cell? ⟨u1.heap.size, 2, none⟩ = some (.int .i64 P) := cell_of_row _ _ 2 _ _ _ Fmx
    have m3 : u1003.cell? ⟨u1.heap.size, 3, none⟩ = some (.slice A xs.length c) := cell_of_row _ _ 3 _ _ _ Fmx
    clear Fmx
    have S1004 : LSt w (u1003.alloc (.cells #[.int .i64 X, .int .i64 Y, .int .i64 Z, .slice A1003 ys.length c1003] 25)) [(A1003, ys), (A', q), (A, xs)] [⟨u1003.heap.size, 25, #[.int .i64 X, .int .i64 Y, .int .i64 Z, .slice A1003 ys.length c1003]⟩, ⟨u1.heap.size, 25, #[.int .i64 W, .int .i64 H, .int .i64 P, .slice A xs.length c]⟩] := LSt.box2 S1003 25 #[.int .i64 X, .int .i64 Y, .int .i64 Z, .slice A1003 ys.length c1003] u1003.heap.size (by simp)
    go_wp2_with fail
    clear ml m0 m1 m2 m3
    clear S1003
    generalize u1003.alloc (.cells #[.int .i64 X, .int .i64 Y, .int .i64 Z, .slice A1003 ys.length c1003] 25) = u1005 at *
    refine (MpC.use HQ A c A' c' _ ((S1004).rds (A := A) (xs := xs) (by simp)) hxc ((S1004).rds (A := A') (xs := q) (by simp)) hqc).mono ?_
    rintro e u1006 ⟨A1006, c1006, rfl, hc1006, hr1006, hB1006⟩
    have S1006 := (S1004.call hB1006).add hr1006
    clear hr1006 hB1006 S1004
    have Fox := S1006.2.2 ⟨u1003.heap.size, 25, #[.int .i64 X, .int .i64 Y, .int .i64 Z, .slice A1003 ys.length c1003]⟩ (by simp)
    have ol : u1003.heap.size < u1006.heap.size := Fox.lt
    have o0 : u1006.cell? ⟨u1003.heap.size, 0, none⟩ = some (.int .i64 X) := cell_of_row _ _ 0 _ _ _ Fox
    have o1 : u1006.cell? ⟨u1003.heap.size, 1, none⟩ = some (.int .i64 Y) := cell_of_row _ _ 1 _ _ _ Fox
    have o2 : u1006.cell? ⟨u1003.heap.size, 2, none⟩ = some (.int .i64 Z) := cell_of_row _ _ 2 _ _ _ Fox
    have o3 : u1006.cell? ⟨u1003.heap.size, 3, none⟩ = some (.slice A1003 ys.length c1003) := cell_of_row _ _ 3 _ _ _ Fox
    clear Fox
    have S1007 : LSt w (u1006.alloc (.cells #[.int .i64 X, .int .i64 Y, .int .i64 Z, .slice A1006 ys.length c1006] 25)) [(A1006, ys), (A1003, ys), (A', q), (A, xs)] [⟨u1006.heap.size, 25, #[.int .i64 X, .int .i64 Y, .int .i64 Z, .slice A1006 ys.length c1006]⟩, ⟨u1003.heap.size, 25, #[.int .i64 X, .int .i64 Y, .int .i64 Z, .slice A1003 ys.length c1003]⟩, ⟨u1.heap.size, 25, #[.int .i64 W, .int .i64 H, .int .i64 P, .slice A xs.length c]⟩] := LSt.box2 S1006 25 #[.int .i64 X, .int .i64 Y, .int .i64 Z, .slice A1006 ys.length c1006] u1006.heap.size (by simp)
    go_wp2_with fail
    clear ol o0 o1 o2 o3
    clear S1006
    generalize u1006.alloc (.cells #[.int .i64 X, .int .i64 Y, .int .i64 Z, .slice A1006 ys.length c1006] 25) = u1008 at *
    refine (lEqIm X Y Z ys A1003 A1006 c1003 c1006 _ ((S1007).rds (A := A1003) (xs := ys) (by simp)) ((S1007).rds (A := A1006) (xs := ys) (by simp)) (by omega)).mono ?_
    rintro e u1009 ⟨rfl, hB1009⟩
    have S1009 := S1007.call hB1009
    clear hB1009 S1007
    rcases hor with rfl | ⟨rfl, HGf | ⟨HGt, h256, HBY, cs, hcs, HH, HH2, HMB, HCB⟩⟩
    · skip
      have Fox := S1009.2.2 ⟨u1003.heap.size, 25, #[.int .i64 X, .int .i64 Y, .int .i64 Z, .slice A1003 ys.length c1003]⟩ (by simp)
      have ol : u1003.heap.size < u1009.heap.size := Fox.lt
      have o0 : u1009.cell? ⟨u1003.heap.size, 0, none⟩ = some (.int .i64 X) := cell_of_row _ _ 0 _ _ _ Fox
      have o1 : u1009.cell? ⟨u1003.heap.size, 1, none⟩ = some (.int .i64 Y) := cell_of_row _ _ 1 _ _ _ Fox
      have o2 : u1009.cell? ⟨u1003.heap.size, 2, none⟩ = some (.int .i64 Z) := cell_of_row _ _ 2 _ _ _ Fox
      have o3 : u1009.cell? ⟨u1003.heap.size, 3, none⟩ = some (.slice A1003 ys.length c1003) := cell_of_row _ _ 3 _ _ _ Fox
      clear Fox
      have Fjx := S1009.2.2 ⟨u1006.heap.size, 25, #[.int .i64 X, .int .i64 Y, .int .i64 Z, .slice A1006 ys.length c1006]⟩ (by simp)
      have jl : u1006.heap.size < u1009.heap.size := Fjx.lt
      have j0 : u1009.cell? ⟨u1006.heap.size, 0, none⟩ = some (.int .i64 X) := cell_of_row _ _ 0 _ _ _ Fjx
      have j1 : u1009.cell? ⟨u1006.heap.size, 1, none⟩ = some (.int .i64 Y) := cell_of_row _ _ 1 _ _ _ Fjx
      have j2 : u1009.cell? ⟨u1006.heap.size, 2, none⟩ = some (.int .i64 Z) := cell_of_row _ _ 2 _ _ _ Fjx
      have j3 : u1009.cell? ⟨u1006.heap.size, 3, none⟩ = some (.slice A1006 ys.length c1006) := cell_of_row _ _ 3 _ _ _ Fjx
      clear Fjx
      go_wp2_with fail
      refine (lEqIm X Y Z ys A1003 A1006 c1003 c1006 _ ((S1009).rds (A := A1003) (xs := ys) (by simp)) ((S1009).rds (A := A1006) (xs := ys) (by simp)) (by omega)).mono ?_
      rintro e u1010 ⟨rfl, hB1010⟩
      have S1010 := S1009.call hB1010
      clear ol o0 o1 o2 o3
      clear jl j0 j1 j2 j3
      clear hB1010 S1009
      go_wp2
      go_ret
      exact ⟨rfl, S1010.1⟩
    · skip
      have Fmx := S1009.2.2 ⟨u1.heap.size, 25, #[.int .i64 W, .int .i64 H, .int .i64 P, .slice A xs.length c]⟩ (by simp)
      have ml : u1.heap.size < u1009.heap.size := Fmx.lt
      have m0 : u1009.cell? ⟨u1.heap.size, 0, none⟩ = some (.int .i64 W) := cell_of_row _ _ 0 _ _ _ Fmx
      have m1 : u1009.cell? ⟨u1.heap.size, 1, none⟩ = some (.int .i64 H) := cell_of_row _ _ 1 _ _ _ Fmx
      have m2 : u1009.cell? ⟨u1.heap.size, 2, none⟩ = some (.int .i64 P) := cell_of_row _ _ 2 _ _ _ Fmx
      have m3 : u1009.cell? ⟨u1.heap.size, 3, none⟩ = some (.slice A xs.length c) := cell_of_row _ _ 3 _ _ _ Fmx
      clear Fmx
      go_wp2_with fail
      refine (OkC.use HGf A c _ ((S1009).rds (A := A) (xs := xs) (by simp)) hxc).mono ?_
      rintro e u1010 ⟨rfl, hB1010⟩
      have S1010 := S1009.call hB1010
      clear ml m0 m1 m2 m3
      clear hB1010 S1009
      have Fox := S1010.2.2 ⟨u1003.heap.size, 25, #[.int .i64 X, .int .i64 Y, .int .i64 Z, .slice A1003 ys.length c1003]⟩ (by simp)
      have ol : u1003.heap.size < u1010.heap.size := Fox.lt
      have o0 : u1010.cell? ⟨u1003.heap.size, 0, none⟩ = some (.int .i64 X) := cell_of_row _ _ 0 _ _ _ Fox
      have o1 : u1010.cell? ⟨u1003.heap.size, 1, none⟩ = some (.int .i64 Y) := cell_of_row _ _ 1 _ _ _ Fox
      have o2 : u1010.cell? ⟨u1003.heap.size, 2, none⟩ = some (.int .i64 Z) := cell_of_row _ _ 2 _ _ _ Fox
      have o3 : u1010.cell? ⟨u1003.heap.size, 3, none⟩ = some (.slice A1003 ys.length c1003) := cell_of_row _ _ 3 _ _ _ Fox
      clear Fox
      have Fjx := S1010.2.2 ⟨u1006.heap.size, 25, #[.int .i64 X, .int .i64 Y, .int .i64 Z, .slice A1006 ys.length c1006]⟩ (by simp)
      have jl : u1006.heap.size < u1010.heap.size := Fjx.lt
      have j0 : u1010.cell? ⟨u1006.heap.size, 0, none⟩ = some (.int .i64 X) := cell_of_row _ _ 0 _ _ _ Fjx
      have j1 : u1010.cell? ⟨u1006.heap.size, 1, none⟩ = some (.int .i64 Y) := cell_of_row _ _ 1 _ _ _ Fjx
      have j2 : u1010.cell? ⟨u1006.heap.size, 2, none⟩ = some (.int .i64 Z) := cell_of_row _ _ 2 _ _ _ Fjx
      have j3 : u1010.cell? ⟨u1006.heap.size, 3, none⟩ = some (.slice A1006 ys.length c1006) := cell_of_row _ _ 3 _ _ _ Fjx
      clear Fjx
      go_wp2_with fail
      refine (lEqIm X Y Z ys A1003 A1006 c1003 c1006 _ ((S1010).rds (A := A1003) (xs := ys) (by simp)) ((S1010).rds (A := A1006) (xs := ys) (by simp)) (by omega)).mono ?_
      rintro e u1011 ⟨rfl, hB1011⟩
      have S1011 := S1010.call hB1011
      clear ol o0 o1 o2 o3
      clear jl j0 j1 j2 j3
      clear hB1011 S1010
      go_wp2
      go_ret
      exact ⟨rfl, S1011.1⟩
    · skip
      have Fmx := S1009.2.2 ⟨u1.heap.size, 25, #[.int .i64 W, .int .i64 H, .int .i64 P, .slice A xs.length c]⟩ (by simp)
      have ml : u1.heap.size < u1009.heap.size := Fmx.lt
      have m0 : u1009.cell? ⟨u1.heap.size, 0, none⟩ = some (.int .i64 W) := cell_of_row _ _ 0 _ _ _ Fmx
      have m1 : u1009.cell? ⟨u1.heap.size, 1, none⟩ = some (.int .i64 H) := cell_of_row _ _ 1 _ _ _ Fmx
      have m2 : u1009.cell? ⟨u1.heap.size, 2, none⟩ = some (.int .i64 P) := cell_of_row _ _ 2 _ _ _ Fmx
      have m3 : u1009.cell? ⟨u1.heap.size, 3, none⟩ = some (.slice A xs.length c) := cell_of_row _ _ 3 _ _ _ Fmx
      clear Fmx
      go_wp2_with fail
      refine (OkC.use HGt A c _ ((S1009).rds (A := A) (xs := xs) (by simp)) hxc).mono ?_
      rintro e u1010 ⟨rfl, hB1010⟩
      have S1010 := S1009.call hB1010
      clear ml m0 m1 m2 m3
      clear hB1010 S1009
      have Fmx := S1010.2.2 ⟨u1.heap.size, 25, #[.int .i64 W, .int .i64 H, .int .i64 P, .slice A xs.length c]⟩ (by simp)
      have ml : u1.heap.size < u1010.heap.size := Fmx.lt
      have m0 : u1010.cell? ⟨u1.heap.size, 0, none⟩ = some (.int .i64 W) := cell_of_row _ _ 0 _ _ _ Fmx
      have m1 : u1010.cell? ⟨u1.heap.size, 1, none⟩ = some (.int .i64 H) := cell_of_row _ _ 1 _ _ _ Fmx
      have m2 : u1010.cell? ⟨u1.heap.size, 2, none⟩ = some (.int .i64 P) := cell_of_row _ _ 2 _ _ _ Fmx
      have m3 : u1010.cell? ⟨u1.heap.size, 3, none⟩ = some (.slice A xs.length c) := cell_of_row _ _ 3 _ _ _ Fmx
      clear Fmx
      go_wp2_with fail
      refine (HiC.use HH A c _ ((S1010).rds (A := A) (xs := xs) (by simp)) hxc).mono ?_
      rintro e u1011 ⟨A1011, c1011, rfl, hc1011, hr1011, hB1011⟩
      have S1011 := (S1010.call hB1011).add hr1011
      clear ml m0 m1 m2 m3
      clear hr1011 hB1011 S1010
      have HS0 := Lib.hid S1011
      clear S1011
      have H256 := Lib.hid h256
      have HCS := Lib.hid hcs
      obtain ⟨base, hbase⟩ : ∃ b, b = u1011.heap.size := ⟨_, rfl⟩
      obtain ⟨Z0, hZ0⟩ : ∃ Z0, Z0 = row (zeros 256) := ⟨_, rfl⟩
      have hmk : ∀ W : World, (Instr.makeSlice 23 (.int .i64 256) (.int .i64 256)).run Try.prog W = .ok (.slice (some ⟨W.heap.size, 0, none⟩) 256 256) (W.alloc (.cells Z0 3)) := fun W => by rw [hZ0]; exact make_ints 256 (by omega) W
      obtain ⟨u2000, hu2⟩ : ∃ u2, u2 = u1011.alloc (.cells Z0 3) := ⟨_, rfl⟩
      have HI0 : Hid (Blk u2000 base (mvL q cs 0) ∧ Below base u1011 u2000) := Lib.hid ⟨by rw [hbase, hu2, hZ0]; exact Blk.new u1011 (zeros 256), by rw [hbase, hu2]; exact (Below.refl _ _).alloc (Nat.le_refl _) _⟩
      have HBase := Lib.hid hbase
      have HU2 := Lib.hid hu2
      clear hbase hu2 hZ0 h256 hcs
      go_wp2
      rw [← HU2.out, ← HBase.out]
      clear HU2 hmk
      go_loopw [11] (fun i wr => ∃ k : Nat, k ≤ 256 ∧ i = .int .i64 (k : Int) ∧ Hid (Blk wr base (mvL q cs k) ∧ Below base u1011 wr)) (fun i _ => 256 - (intOf i).toNat)
      case atStart => exact ⟨0, by omega, rfl, HI0⟩
      case round =>
        clear HI0
        obtain ⟨k, hk, rfl, hI⟩ := hrel
        obtain ⟨hO, hB⟩ := hI.out
        have hsz := hB.size
        have hbz : base ≤ wr.heap.size := by have := HBase.out; omega
        have hcl : (cs.length : Int) = 256 := by have := HCS.out; omega
        by_cases hlt : k < 256
        · have S6 := HS0.out.call (by rw [← HBase.out]; exact hB)
          obtain ⟨b, off, hA1, hb, hc⟩ := (HS0.out.rds (A := A') (xs := q) (by simp)).cells_ (j := k) (by have := H256.out; omega)
          obtain ⟨b2, off2, hA2, hb2, hc2⟩ := (HS0.out.rds (A := A1011) (xs := cs) (by simp)).cells_ (j := k) (by have := HCS.out; omega)
          subst hA1
          subst hA2
          have hyk := HBY.out _ (getD_mem' (ls := q) (n := k) (by have := H256.out; omega))
          obtain ⟨n, hn⟩ : ∃ n : Nat, q.getD k 0 = n := ⟨(q.getD k 0).toNat, by omega⟩
          have hck := (hB.cell (p := ⟨b, off + k, none⟩) (by show b < base; have := HBase.out; omega)).trans (hc k (by have := H256.out; omega))
          have hc2k := (hB.cell (p := ⟨b2, off2 + k, none⟩) (by show b2 < base; have := HBase.out; omega)).trans (hc2 k (by have := HCS.out; omega))
          rw [hn] at hck hyk
          have hn6 : n < 256 := by omega
          have hn7 : (n : Int) < 256 := by omega
          have hcw := hO.cell (i := n) (by rw [mvL_len]; exact hn6)
          have hfw := hO.frozen n
          have hput := hO.put n ((mvL q cs k).getD n 0 + cs.getD k 0)
          have e : (mvL q cs k).set n ((mvL q cs k).getD n 0 + cs.getD k 0) = mvL q cs (k + 1) := by show _ = (mvL q cs k).set (q.getD k 0).toNat ((mvL q cs k).getD (q.getD k 0).toNat 0 + cs.getD k 0); rw [hn]; rfl
          rw [e] at hput
          have HN : Hid (Blk ((wr.setCell ⟨base, n, none⟩ (.int .i64 ((mvL q cs k).getD n 0 + cs.getD k 0))).drew) base (mvL q cs (k + 1)) ∧ Below base u1011 ((wr.setCell ⟨base, n, none⟩ (.int .i64 ((mvL q cs k).getD n 0 + cs.getD k 0))).drew)) := Lib.hid ⟨hput, ((hB.setCell (p := ⟨base, n, none⟩) (Nat.le_refl _) _).drew)⟩
          have hb3 := HMB.out k n hk hn6
          have hb4 := HCB.out k
          have hq3 : k < q.length := by have := H256.out; omega
          have hq4 : k < cs.length := by have := HCS.out; omega
          have hne1 : ¬ b = base := by have := HBase.out; omega
          have hne2 : ¬ b2 = base := by have := HBase.out; omega
          have hbs : base < wr.heap.size := hO.lt
          clear hO hB hI hc hc2 hput e S6 hn
          generalize (mvL q cs k).getD n 0 = y at *
          generalize cs.getD k 0 = z at *
          have hw1 : IntKind.i64.wrap (y + z) = y + z := IntWalk.i64_in _ (by omega)
          go_wp2
          go_region
          all_goals
            (try go_wp2)
            go_roundw
            case rel => exact ⟨k + 1, by omega, by go_num, HN⟩
            case measure => simp [intOf]; omega
        · have hk' : k = 256 := by omega
          rw [hk'] at hO
          obtain ⟨ms, hms⟩ : ∃ ms, ms = mvL q cs 256 := ⟨_, rfl⟩
          have HML : Hid (ms.length = 256) := Lib.hid (by rw [hms, mvL_len])
          rw [← hms] at hO HH2
          have hO' := hO.own (base := base) (Nat.le_refl _) (by have := HML.out; unfold maxLen; omega)
          have hr2 : Rds .i64 wr wr.heap.size (some ⟨base, 0, none⟩) ms := hO'.rds.2
          have S2001 := (HS0.out.call (by rw [← HBase.out]; exact hB)).add hr2
          clear hO hO' hB hI hms HS0 hk' hsz hbz hr2
          have Fox := S2001.2.2 ⟨u1003.heap.size, 25, #[.int .i64 X, .int .i64 Y, .int .i64 Z, .slice A1003 ys.length c1003]⟩ (by simp)
          have ol : u1003.heap.size < wr.heap.size := Fox.lt
          have o0 : wr.cell? ⟨u1003.heap.size, 0, none⟩ = some (.int .i64 X) := cell_of_row _ _ 0 _ _ _ Fox
          have o1 : wr.cell? ⟨u1003.heap.size, 1, none⟩ = some (.int .i64 Y) := cell_of_row _ _ 1 _ _ _ Fox
          have o2 : wr.cell? ⟨u1003.heap.size, 2, none⟩ = some (.int .i64 Z) := cell_of_row _ _ 2 _ _ _ Fox
          have o3 : wr.cell? ⟨u1003.heap.size, 3, none⟩ = some (.slice A1003 ys.length c1003) := cell_of_row _ _ 3 _ _ _ Fox
          clear Fox
          go_wp2_with fail
          refine (HiC.use HH2 A1003 c1003 _ ((S2001).rds (A := A1003) (xs := ys) (by simp)) hc1003).mono ?_
          rintro e u1012 ⟨A1012, c1012, rfl, hc1012, hr1012, hB1012⟩
          have S1012 := (S2001.call hB1012).add hr1012
          clear ol o0 o1 o2 o3
          clear hr1012 hB1012 S2001
          go_wp2_with fail
          refine (lEqInts_atN A1012 (some ⟨base, 0, none⟩) c1012 256 _ 256 ms _ rfl HML.out.symm ((S1012).rds (A := A1012) (xs := ms) (by simp)) ((S1012).rds (A := (some ⟨base, 0, none⟩)) (xs := ms) (by simp)) (by have := HML.out; omega)).mono ?_
          rintro e u1013 ⟨rfl, hB1013⟩
          have S1013 := S1012.call hB1013
          clear hB1013 S1012
          go_wp2
          go_ret
          exact ⟨rfl, S1013.1⟩

/-! ### From the walk to the statement. -/
theorem own : ownKnob Try.prog.godebug = none := by kernel_rfl
theorem laidOut : laidOutB Try.prog = true := by kernel_rfl
set_option maxRecDepth 100000 in
theorem lifted (os : Os) (started : os.Started) (H : Type) (enc : TypeId × Value → H) :
    ReturnsInHanded {} Try.checked os 5 .any (Rows.fnHistogramMapSpec.pre6 enc Try.prog Try.f5 Rows.fnHistogramMapRow.domain false) (Rows.fnHistogramMapSpec.post enc Try.prog Try.f5 false true false false) := by
  refine returnsInHanded_of_change (C := Try.checked) own started (by kernel_rfl) Try.func5
    (ChangeSpec.witness6 (enc := enc) (C := Try.checked) false ⟨#[], #[.slice none 0 0], []⟩ 8 (by kernel_rfl) (by kernel_rfl) (by kernel_rfl) (by kernel_rfl)) ?_
  intro W base args ds gs before hval0 hW hcnd _
  have hval : ∀ (j : Nat) t v, Try.f5.params[j]? = some t → args[j]? = some v → Value.okWide Try.prog W .any base t v := hval0
  have hW' := hW
  obtain ⟨p, q, hA0, hV, rfl, hfz, hnd⟩ := hW
  have hA : DataW.TrodAll enc Try.prog W 0 (fun _ => true) true Try.f5.params.toList args.toList ds p := hA0
  rw [Try.params5] at hA hval
  obtain ⟨v0, vs0, d0, ds0, p0, q0, hargs, rfl, rfl, h0, r0⟩ := trodAll_cons hA
  obtain ⟨rfl, rfl, rfl⟩ := trodAll_nil r0
  obtain rfl : args = #[v0] := by cases args; simp_all
  obtain ⟨rfl, rfl⟩ := trodVars_none hV
  obtain ⟨a0, len0, cap0, rfl⟩ := okWide_slice Try.underlying22 (hval 0 22 v0 rfl rfl)
  have k0 := h0
  have lt0 : ∀ x ∈ p0, x.block < W.heap.size := by obtain ⟨m, hm⟩ := k0; exact DataW.trod_lt m _ _ _ hm
  obtain ⟨z0, hl0, hc0, w0⟩ : ∃ zs : List Int, len0 = zs.length ∧ zs.length ≤ cap0 ∧ Rdw .u8 W W.heap.size a0 zs := by
    obtain ⟨fuel, hf⟩ := h0
    rcases open_ints Try.underlying22 Try.underlying5 (by kernel_rfl) hf with ⟨hcs, _⟩ | ⟨x, l, c, zs, hcs, _, hl, hm, hz, _, hcell, hwz⟩
    · simp [Value.cells] at hcs
      obtain ⟨rfl, rfl, rfl⟩ := hcs
      exact ⟨[], rfl, Nat.le_refl _, Rdw.nil⟩
    · simp [Value.cells] at hcs
      obtain ⟨rfl, rfl, rfl⟩ := hcs
      exact ⟨zs.take len0, by simp at hz ⊢; omega, by simp at hz ⊢; omega, Rdw.of_row hl hm (by simpa using hz) hcell hwz⟩
  subst hl0
  clear hA0 hval0
  refine (walk W a0 cap0 z0 hc0 w0).mono fun e W' ⟨he, bel⟩ => ?_
  subst he
  exact ⟨_, rfl, _, _, _, [], _, [], hW', trodAll_mk1 (shut_bool Try.underlying4 _), (trodAll_cons_mk (Below.trod laidOut (by kernel_rfl) (of_decide_eq_true (by kernel_rfl)) k0 bel lt0) trodAll_mk0), rfl, bel.frame _, fun h => by cases h⟩

theorem over : Rows.fnHistogramMapRow.holds Try.pinned (OpenSpec.ofChange Rows.fnHistogramMapSpec) :=
  OpenClaim.holds_of_wide 5 Try.f5 rfl rfl rfl rfl rfl rfl rfl ⟨rfl, rfl, rfl, rfl, rfl⟩ rfl rfl rfl rfl rfl (by kernel_rfl) Try.func5 (by kernel_rfl)
    (of_decide_eq_true (by kernel_rfl)) (by unfold Func.isWrapper; first | (rw [if_pos (by decide +kernel)]; kernel_rfl) | (rw [if_neg (by decide +kernel)]; exact ⟨rfl, rfl⟩))
    (fun os started H enc _ => lifted os started H enc)

theorem proved : Rows.FnHistogramMapSaid := over
end Go.Proofs.Ytebfaomlljekiaa.fnHistogramMap
