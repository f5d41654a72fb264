/- MapImage of the program answers what the model answers, for every image and every list; it writes into no argument, and its answer owns its memory. -/
import Derived.Test.YtpjljhboodbmeaaRows
import Derived.WalkKit
import Derived.ProofKit
import Derived.OpenShut
import Derived.ShutString
import Derived.ChangeOld
import Derived.Below
import Derived.Lib.SmallJoins
import Derived.Test.YtpjljhboodbmeaaGen
import Derived.Test.YtpjljhboodbmeaaSz
import Derived.Deep.Cut
import Derived.Deep.RegionHeld3
import Derived.Test.YtpjljhboodbmeaaMapS
import Derived.Test.YtpjljhboodbmeaaIStL
namespace Go.Proofs.Ytpjljhboodbmeaa.fnExactMapImage
open Go.ChangeShapes Go.WideShapes Go.ChangeAt Go.RowKit
open Go.ChangeMaps (open_string shut_string)
set_option linter.unusedVariables false

theorem mp_len (W H P : Int) (xs ls : List Int) (h : xs.length ≤ 1048576) : (cond (mpOk W H P xs ls) (mpL ls xs) []).length ≤ 2000000 := by
  cases mpOk W H P xs ls
  · simp
  · show (mpL ls xs).length ≤ 2000000
    unfold mpL
    rw [List.length_map]
    omega
def FC (f : FuncId) (W0 H0 P0 : Int) (z0 : List Int) (z1 : List Int) (R1 R2 R3 : Int) (RX : List Int) (o1 : Bool) : Prop :=
  ∀ (A0 : Option Addr) (c0 : Nat) (A1 : Option Addr) (c1 : Nat) (w : World), Rds .i64 w w.heap.size A0 z0 → z0.length ≤ c0 → Rds .i64 w w.heap.size A1 z1 → z1.length ≤ c1 → Calls Try.prog f #[.agg #[.int .i64 W0, .int .i64 H0, .int .i64 P0, .slice A0 z0.length c0], .slice A1 z1.length c1] w fun e w' => ∃ v, e = .returned (.tuple #[.agg #[.int .i64 R1, .int .i64 R2, .int .i64 R3, v], .bool o1]) ∧ Own w' w.heap.size v RX ∧ Below w.heap.size w w'
set_option maxHeartbeats 16000000 in
set_option maxRecDepth 8000 in
theorem walk (w : World) (W0 H0 P0 : Int) (a0 : Option Addr) (cap0 : Nat) (z0 : List Int) (hc0 : z0.length ≤ cap0) (w0 : Rdw .i64 w w.heap.size a0 z0) (a1 : Option Addr) (cap1 : Nat) (z1 : List Int) (hc1 : z1.length ≤ cap1) (w1 : Rdw .i64 w w.heap.size a1 z1) :
    Calls Try.prog 3 #[.agg #[.int .i64 W0, .int .i64 H0, .int .i64 P0, .slice a0 z0.length cap0], .slice a1 z1.length cap1] w fun e w' => e = .returned (.bool true) ∧ Below w.heap.size w w' := by
  have hm0 := w0.2.1
  unfold maxLen at hm0
  have HR0 := Lib.hid w0.1
  clear w0
  have hm1 := w1.2.1
  unfold maxLen at hm1
  have HR1 := Lib.hid w1.1
  clear w1
  have S0 : GS w (w.alloc (.cells #[.int .i64 W0, .int .i64 H0, .int .i64 P0, .slice a0 z0.length cap0] 24)) [] [⟨w.heap.size, 24, #[.int .i64 W0, .int .i64 H0, .int .i64 P0, .slice a0 z0.length cap0]⟩] := GS.box' (GS.start w) 24 #[.int .i64 W0, .int .i64 H0, .int .i64 P0, .slice a0 z0.length cap0] w.heap.size (by simp)
  by_cases hq1 : 1048576 < z1.length
  · go_enter Try.func3, Try.ntmps3
    go_wp2
    go_ret
    exact ⟨rfl, S0.below⟩
  go_enter Try.func3, Try.ntmps3
  go_wp2_with fail
  generalize w.alloc (.cells #[.int .i64 W0, .int .i64 H0, .int .i64 P0, .slice a0 z0.length cap0] 24) = u0 at *
  by_cases hs1001 : (1048576 : Int) < (z0.length : Nat)
  · refine (szImage_gt W0 H0 P0 a0 cap0 _ (1048576) _ (by omega) (by omega) hs1001 (by omega)).mono ?_
    rintro e uz ⟨rfl, hBz⟩
    have HSz := Lib.hid (S0.call hBz)
    clear hBz
    go_wp2
    go_ret
    exact ⟨rfl, HSz.out.below⟩
  obtain ⟨K1002, HK1002⟩ : ∃ K : Int, Hid (K = 1048576 - ((z0.length : Nat) : Int)) := ⟨_, Lib.hid rfl⟩
  have hK1002 : 0 ≤ K1002 ∧ K1002 ≤ 1048576 := by have := HK1002.out; omega
  have hb0 : z0.length ≤ 1048576 := by omega
  refine (szImage_le W0 H0 P0 a0 cap0 _ (1048576) _ (by omega) (by omega) (by omega)).mono ?_
  rintro e u1002 ⟨he, hB1002⟩
  rw [← HK1002.out] at he
  subst he
  have S1002 := S0.call hB1002
  clear hB1002
  clear S0
  obtain ⟨R1, R2, R3, RX, o1, hRX, HI, HS⟩ : ∃ (R1 R2 R3 : Int) (RX : List Int) (o1 : Bool), RX.length ≤ 2000000 ∧ Hid (FC 19 W0 H0 P0 z0 z1 R1 R2 R3 RX o1) ∧ Hid (FC 16 W0 H0 P0 z0 z1 R1 R2 R3 RX o1) :=
      ⟨_, _, _, _, _, mp_len W0 H0 P0 z0 z1 (by omega), Lib.hid (fun A c A2 c2 w hx hc hp hpc => i_MapImage W0 H0 P0 A A2 c c2 z0 z1 w hx (by omega) hp (by omega)), Lib.hid (fun A c A2 c2 w hx hc hp hpc => s_MapImage W0 H0 P0 A A2 c c2 z0 z1 w hx (by omega) hp (by omega))⟩
  obtain ⟨b00, b01, b02, b03⟩ := S1002.c4 (g := w.heap.size) (T := 24) (a0 := .int .i64 W0) (a1 := .int .i64 H0) (a2 := .int .i64 P0) (a3 := .slice a0 z0.length cap0) (by simp)
  have b0l := S1002.lt (g := w.heap.size) (T := 24) (cs := #[.int .i64 W0, .int .i64 H0, .int .i64 P0, .slice a0 z0.length cap0]) (by simp)
  go_wp2_with fail
  refine (toImage_any W0 H0 P0 a0 cap0 z0 _ (S1002.arg HR0.out) (by omega)).mono ?_
  rintro e u1003 ⟨v1003, rfl, hO1003, hB1003⟩
  obtain ⟨A1003, c1003, rfl, hc1003⟩ := hO1003.slice
  have S1003 := S1002.add hO1003 hB1003
  clear b00 b01 b02 b03 b0l
  clear hB1003 hO1003
  clear S1002
  go_wp2_with fail
  refine (toIntS_any a1 cap1 z1 _ (S1003.arg HR1.out) (by omega)).mono ?_
  rintro e u1004 ⟨v1004, rfl, hO1004, hB1004⟩
  obtain ⟨A1004, c1004, rfl, hc1004⟩ := hO1004.slice
  have S1004 := S1003.add hO1004 hB1004
  clear hB1004 hO1004
  clear S1003
  go_wp2_with fail
  refine (HS.out A1003 c1003 A1004 c1004 _ (S1004.rds (lo := u1002.heap.size) (hi := u1003.heap.size) (A := A1003) (n := z0.length) (c := c1003) (by simp)) hc1003 (S1004.rds (lo := u1003.heap.size) (hi := u1004.heap.size) (A := A1004) (n := z1.length) (c := c1004) (by simp)) hc1004).mono ?_
  rintro e u1005 ⟨v1005, rfl, hO1005, hB1005⟩
  obtain ⟨A1005, c1005, rfl, hc1005⟩ := hO1005.slice
  have S1005 := S1004.add hO1005 hB1005
  clear hB1005 hO1005
  clear S1004
  obtain ⟨b00, b01, b02, b03⟩ := S1005.c4 (g := w.heap.size) (T := 24) (a0 := .int .i64 W0) (a1 := .int .i64 H0) (a2 := .int .i64 P0) (a3 := .slice a0 z0.length cap0) (by simp)
  have b0l := S1005.lt (g := w.heap.size) (T := 24) (cs := #[.int .i64 W0, .int .i64 H0, .int .i64 P0, .slice a0 z0.length cap0]) (by simp)
  have S1006 : GS w (u1005.alloc (.cells #[.int .i64 R1, .int .i64 R2, .int .i64 R3, .slice A1005 RX.length c1005] 26)) [ri u1004.heap.size u1005.heap.size (.slice A1005 RX.length c1005) RX, ri u1003.heap.size u1004.heap.size (.slice A1004 z1.length c1004) z1, ri u1002.heap.size u1003.heap.size (.slice A1003 z0.length c1003) z0] [⟨u1005.heap.size, 26, #[.int .i64 R1, .int .i64 R2, .int .i64 R3, .slice A1005 RX.length c1005]⟩, ⟨w.heap.size, 24, #[.int .i64 W0, .int .i64 H0, .int .i64 P0, .slice a0 z0.length cap0]⟩] := GS.box S1005 26 #[.int .i64 R1, .int .i64 R2, .int .i64 R3, .slice A1005 RX.length c1005]
  go_wp2_with fail
  clear b00 b01 b02 b03 b0l
  clear S1005
  generalize u1005.alloc (.cells #[.int .i64 R1, .int .i64 R2, .int .i64 R3, .slice A1005 RX.length c1005] 26) = u1006 at *
  refine (toImage_any W0 H0 P0 a0 cap0 z0 _ (S1006.arg HR0.out) (by omega)).mono ?_
  rintro e u1007 ⟨v1007, rfl, hO1007, hB1007⟩
  obtain ⟨A1007, c1007, rfl, hc1007⟩ := hO1007.slice
  have S1007 := S1006.add hO1007 hB1007
  clear hB1007 hO1007
  clear S1006
  have S1008 : GS w (u1007.alloc (.cells #[.int .i64 W0, .int .i64 H0, .int .i64 P0, .slice A1007 z0.length c1007] 26)) [ri u1006.heap.size u1007.heap.size (.slice A1007 z0.length c1007) z0, ri u1004.heap.size u1005.heap.size (.slice A1005 RX.length c1005) RX, ri u1003.heap.size u1004.heap.size (.slice A1004 z1.length c1004) z1, ri u1002.heap.size u1003.heap.size (.slice A1003 z0.length c1003) z0] [⟨u1007.heap.size, 26, #[.int .i64 W0, .int .i64 H0, .int .i64 P0, .slice A1007 z0.length c1007]⟩, ⟨u1005.heap.size, 26, #[.int .i64 R1, .int .i64 R2, .int .i64 R3, .slice A1005 RX.length c1005]⟩, ⟨w.heap.size, 24, #[.int .i64 W0, .int .i64 H0, .int .i64 P0, .slice a0 z0.length cap0]⟩] := GS.box S1007 26 #[.int .i64 W0, .int .i64 H0, .int .i64 P0, .slice A1007 z0.length c1007]
  go_wp2_with fail
  clear S1007
  generalize u1007.alloc (.cells #[.int .i64 W0, .int .i64 H0, .int .i64 P0, .slice A1007 z0.length c1007] 26) = u1008 at *
  refine (toIntS_any a1 cap1 z1 _ (S1008.arg HR1.out) (by omega)).mono ?_
  rintro e u1009 ⟨v1009, rfl, hO1009, hB1009⟩
  obtain ⟨A1009, c1009, rfl, hc1009⟩ := hO1009.slice
  have S1009 := S1008.add hO1009 hB1009
  clear hB1009 hO1009
  clear S1008
  obtain ⟨x00, x01, x02, x03⟩ := S1009.c4 (g := u1007.heap.size) (T := 26) (a0 := .int .i64 W0) (a1 := .int .i64 H0) (a2 := .int .i64 P0) (a3 := .slice A1007 z0.length c1007) (by simp)
  have x0l := S1009.lt (g := u1007.heap.size) (T := 26) (cs := #[.int .i64 W0, .int .i64 H0, .int .i64 P0, .slice A1007 z0.length c1007]) (by simp)
  go_wp2_with fail
  refine (HI.out A1007 c1007 A1009 c1009 _ (S1009.rds (lo := u1006.heap.size) (hi := u1007.heap.size) (A := A1007) (n := z0.length) (c := c1007) (by simp)) hc1007 (S1009.rds (lo := u1008.heap.size) (hi := u1009.heap.size) (A := A1009) (n := z1.length) (c := c1009) (by simp)) hc1009).mono ?_
  rintro e u1010 ⟨v1010, rfl, hO1010, hB1010⟩
  obtain ⟨A1010, c1010, rfl, hc1010⟩ := hO1010.slice
  have S1010 := S1009.add hO1010 hB1010
  clear x00 x01 x02 x03 x0l
  clear hB1010 hO1010
  clear S1009
  obtain ⟨w00, w01, w02, w03⟩ := S1010.c4 (g := u1005.heap.size) (T := 26) (a0 := .int .i64 R1) (a1 := .int .i64 R2) (a2 := .int .i64 R3) (a3 := .slice A1005 RX.length c1005) (by simp)
  have w0l := S1010.lt (g := u1005.heap.size) (T := 26) (cs := #[.int .i64 R1, .int .i64 R2, .int .i64 R3, .slice A1005 RX.length c1005]) (by simp)
  have S1011 : GS w (u1010.alloc (.cells #[.int .i64 R1, .int .i64 R2, .int .i64 R3, .slice A1010 RX.length c1010] 26)) [ri u1009.heap.size u1010.heap.size (.slice A1010 RX.length c1010) RX, ri u1008.heap.size u1009.heap.size (.slice A1009 z1.length c1009) z1, ri u1006.heap.size u1007.heap.size (.slice A1007 z0.length c1007) z0, ri u1004.heap.size u1005.heap.size (.slice A1005 RX.length c1005) RX, ri u1003.heap.size u1004.heap.size (.slice A1004 z1.length c1004) z1, ri u1002.heap.size u1003.heap.size (.slice A1003 z0.length c1003) z0] [⟨u1010.heap.size, 26, #[.int .i64 R1, .int .i64 R2, .int .i64 R3, .slice A1010 RX.length c1010]⟩, ⟨u1007.heap.size, 26, #[.int .i64 W0, .int .i64 H0, .int .i64 P0, .slice A1007 z0.length c1007]⟩, ⟨u1005.heap.size, 26, #[.int .i64 R1, .int .i64 R2, .int .i64 R3, .slice A1005 RX.length c1005]⟩, ⟨w.heap.size, 24, #[.int .i64 W0, .int .i64 H0, .int .i64 P0, .slice a0 z0.length cap0]⟩] := GS.box S1010 26 #[.int .i64 R1, .int .i64 R2, .int .i64 R3, .slice A1010 RX.length c1010]
  go_wp2_with fail
  clear w00 w01 w02 w03 w0l
  clear S1010
  generalize u1010.alloc (.cells #[.int .i64 R1, .int .i64 R2, .int .i64 R3, .slice A1010 RX.length c1010] 26) = u1011 at *
  refine (eqImage_same R1 R2 R3 A1010 A1005 c1010 c1005 _ _ RX _ rfl rfl (S1011.rds (lo := u1009.heap.size) (hi := u1010.heap.size) (A := A1010) (n := RX.length) (c := c1010) (by simp)) (S1011.rds (lo := u1004.heap.size) (hi := u1005.heap.size) (A := A1005) (n := RX.length) (c := c1005) (by simp)) (by omega)).mono ?_
  rintro e u1012 ⟨rfl, hB1012⟩
  have S1012 := S1011.call hB1012
  clear hB1012
  clear S1011
  go_upto_region 13 with fail
  have HC := Lib.hid S1012.drew
  clear S1012
  go_region_held3 (fun w' => (w'.cell? ⟨u1007.heap.size, 0, none⟩ = some (.int .i64 W0) ∧ w'.cell? ⟨u1007.heap.size, 1, none⟩ = some (.int .i64 H0) ∧ w'.cell? ⟨u1007.heap.size, 2, none⟩ = some (.int .i64 P0) ∧ w'.cell? ⟨u1007.heap.size, 3, none⟩ = some (.slice A1007 z0.length c1007)) ∧ (w'.cell? ⟨w.heap.size, 0, none⟩ = some (.int .i64 W0) ∧ w'.cell? ⟨w.heap.size, 1, none⟩ = some (.int .i64 H0) ∧ w'.cell? ⟨w.heap.size, 2, none⟩ = some (.int .i64 P0) ∧ w'.cell? ⟨w.heap.size, 3, none⟩ = some (.slice a0 z0.length cap0))) (first | (with_reducible exact ⟨(HC.out).c4 (T := 26) (by simp), (HC.out).c4 (T := 24) (by simp)⟩) | (exact ⟨(HC.out).c4 (T := 26) (by simp), (HC.out).c4 (T := 24) (by simp)⟩)) (first | (go_at_call 17; (with_reducible refine Calls.mono (toImage_any W0 H0 P0 a0 cap0 z0 _ ?_ ?_) ?_); (exact HC.out.arg HR0.out); omega; rintro e u1014 ⟨v1014, rfl, hO1014, hB1014⟩; obtain ⟨A1014, c1014, rfl, hc1014⟩ := hO1014.slice; (first | (have HD := Lib.hid (GS.add HC.out hO1014 hB1014))); clear hB1014 hO1014; clear HC; have HC := HD; clear HD) | (go_at_call 20; (refine (eqImage_same W0 H0 P0 A1007 A1014 c1007 c1014 _ _ z0 _ rfl rfl (by exact HC.out.rds (lo := u1006.heap.size) (hi := u1007.heap.size) (A := A1007) (n := z0.length) (c := c1007) (by simp)) (by exact HC.out.rds (A := A1014) (n := z0.length) (c := c1014) (by first | exact List.mem_cons_self | exact List.mem_cons_of_mem _ List.mem_cons_self | exact List.mem_cons_of_mem _ (List.mem_cons_of_mem _ List.mem_cons_self) | exact List.mem_cons_of_mem _ (List.mem_cons_of_mem _ (List.mem_cons_of_mem _ List.mem_cons_self)))) (by omega)).mono ?_); rintro e u1015 ⟨rfl, hB1015⟩; (first | (have HD := Lib.hid (GS.call HC.out hB1015))); clear hB1015; clear HC; have HC := HD; clear HD))
  have S1016 := HC.out
  clear HC
  go_wp2_with fail
  refine (toIntS_any a1 cap1 z1 _ (S1016.arg HR1.out) (by omega)).mono ?_
  rintro e u1017 ⟨v1017, rfl, hO1017, hB1017⟩
  obtain ⟨A1017, c1017, rfl, hc1017⟩ := hO1017.slice
  have S1017 := S1016.add hO1017 hB1017
  clear hB1017 hO1017
  clear S1016
  go_wp2_with fail
  refine (eqIntS_same A1009 A1017 c1009 c1017 _ _ z1 _ rfl rfl (S1017.rds (lo := u1008.heap.size) (hi := u1009.heap.size) (A := A1009) (n := z1.length) (c := c1009) (by simp)) (S1017.rds (lo := u1015.heap.size) (hi := u1017.heap.size) (A := A1017) (n := z1.length) (c := c1017) (by simp)) (by omega)).mono ?_
  rintro e u1018 ⟨rfl, hB1018⟩
  have S1018 := S1017.call hB1018
  clear hB1018
  clear S1017
  obtain ⟨x00, x01, x02, x03⟩ := S1018.c4 (g := u1007.heap.size) (T := 26) (a0 := .int .i64 W0) (a1 := .int .i64 H0) (a2 := .int .i64 P0) (a3 := .slice A1007 z0.length c1007) (by simp)
  have x0l := S1018.lt (g := u1007.heap.size) (T := 26) (cs := #[.int .i64 W0, .int .i64 H0, .int .i64 P0, .slice A1007 z0.length c1007]) (by simp)
  go_wp2_with fail
  obtain ⟨K1019, HK1019⟩ : ∃ K : Int, Hid (K = 1 + ((z0.length : Nat) : Int)) := ⟨_, Lib.hid rfl⟩
  have hK1019 : 0 ≤ K1019 ∧ K1019 ≤ 8000001 := by have := HK1019.out; omega
  refine (markImage_any W0 H0 P0 (.slice A1007 z0.length c1007) u1006.heap.size z0 1 _ (S1018.own (lo := u1006.heap.size) (hi := u1007.heap.size) (by simp)) (by omega) (by omega) (by omega)).mono ?_
  rintro e u1019 ⟨he, hO1019, hG1019⟩
  rw [← HK1019.out] at he
  subst he
  have S1019 := GS.mark (L1 := [ri u1015.heap.size u1017.heap.size (.slice A1017 z1.length c1017) z1, ri u1012.drew.heap.size u1014.heap.size (.slice A1014 z0.length c1014) z0, ri u1009.heap.size u1010.heap.size (.slice A1010 RX.length c1010) RX, ri u1008.heap.size u1009.heap.size (.slice A1009 z1.length c1009) z1]) (L2 := [ri u1004.heap.size u1005.heap.size (.slice A1005 RX.length c1005) RX, ri u1003.heap.size u1004.heap.size (.slice A1004 z1.length c1004) z1, ri u1002.heap.size u1003.heap.size (.slice A1003 z0.length c1003) z0]) (lo := u1006.heap.size) (hi := u1007.heap.size) (v := .slice A1007 z0.length c1007) (xs := z0) S1018 hO1019 (by simp [marks]) hG1019
  clear x00 x01 x02 x03 x0l
  clear hO1019 hG1019
  clear S1018
  go_wp2_with fail
  obtain ⟨K1020, HK1020⟩ : ∃ K : Int, Hid (K = K1019 + ((z1.length : Nat) : Int)) := ⟨_, Lib.hid rfl⟩
  have hK1020 : 0 ≤ K1020 ∧ K1020 ≤ 16000001 := by have := HK1020.out; omega
  refine (markIntS_any (.slice A1009 z1.length c1009) u1008.heap.size z1 K1019 _ (S1019.own (lo := u1008.heap.size) (hi := u1009.heap.size) (by simp)) (by omega) (by omega) (by omega)).mono ?_
  rintro e u1020 ⟨he, hO1020, hG1020, _⟩
  rw [← HK1020.out] at he
  subst he
  have S1020 := GS.mark (L1 := [ri u1015.heap.size u1017.heap.size (.slice A1017 z1.length c1017) z1, ri u1012.drew.heap.size u1014.heap.size (.slice A1014 z0.length c1014) z0, ri u1009.heap.size u1010.heap.size (.slice A1010 RX.length c1010) RX]) (L2 := [ri u1006.heap.size u1007.heap.size (.slice A1007 z0.length c1007) (marks 1 (z0.length)), ri u1004.heap.size u1005.heap.size (.slice A1005 RX.length c1005) RX, ri u1003.heap.size u1004.heap.size (.slice A1004 z1.length c1004) z1, ri u1002.heap.size u1003.heap.size (.slice A1003 z0.length c1003) z0]) (lo := u1008.heap.size) (hi := u1009.heap.size) (v := .slice A1009 z1.length c1009) (xs := z1) S1019 hO1020 (by simp [marks]) hG1020
  clear hO1020 hG1020
  clear S1019
  obtain ⟨g00, g01, g02, g03⟩ := S1020.c4 (g := u1010.heap.size) (T := 26) (a0 := .int .i64 R1) (a1 := .int .i64 R2) (a2 := .int .i64 R3) (a3 := .slice A1010 RX.length c1010) (by simp)
  have g0l := S1020.lt (g := u1010.heap.size) (T := 26) (cs := #[.int .i64 R1, .int .i64 R2, .int .i64 R3, .slice A1010 RX.length c1010]) (by simp)
  obtain ⟨w00, w01, w02, w03⟩ := S1020.c4 (g := u1005.heap.size) (T := 26) (a0 := .int .i64 R1) (a1 := .int .i64 R2) (a2 := .int .i64 R3) (a3 := .slice A1005 RX.length c1005) (by simp)
  have w0l := S1020.lt (g := u1005.heap.size) (T := 26) (cs := #[.int .i64 R1, .int .i64 R2, .int .i64 R3, .slice A1005 RX.length c1005]) (by simp)
  go_wp2_with fail
  refine (eqImage_same R1 R2 R3 A1010 A1005 c1010 c1005 _ _ RX _ rfl rfl (S1020.rds (lo := u1009.heap.size) (hi := u1010.heap.size) (A := A1010) (n := RX.length) (c := c1010) (by simp)) (S1020.rds (lo := u1004.heap.size) (hi := u1005.heap.size) (A := A1005) (n := RX.length) (c := c1005) (by simp)) (by omega)).mono ?_
  rintro e u1021 ⟨rfl, hB1021⟩
  have S1021 := S1020.call hB1021
  clear g00 g01 g02 g03 g0l w00 w01 w02 w03 w0l
  clear hB1021
  clear S1020
  obtain ⟨g00, g01, g02, g03⟩ := S1021.c4 (g := u1010.heap.size) (T := 26) (a0 := .int .i64 R1) (a1 := .int .i64 R2) (a2 := .int .i64 R3) (a3 := .slice A1010 RX.length c1010) (by simp)
  have g0l := S1021.lt (g := u1010.heap.size) (T := 26) (cs := #[.int .i64 R1, .int .i64 R2, .int .i64 R3, .slice A1010 RX.length c1010]) (by simp)
  go_wp2_with fail
  obtain ⟨K1022, HK1022⟩ : ∃ K : Int, Hid (K = 1 + ((RX.length : Nat) : Int)) := ⟨_, Lib.hid rfl⟩
  have hK1022 : 0 ≤ K1022 ∧ K1022 ≤ 8000001 := by have := HK1022.out; omega
  refine (markImage_any R1 R2 R3 (.slice A1010 RX.length c1010) u1009.heap.size RX 1 _ (S1021.own (lo := u1009.heap.size) (hi := u1010.heap.size) (by simp)) (by omega) (by omega) (by omega)).mono ?_
  rintro e u1022 ⟨he, hO1022, hG1022⟩
  rw [← HK1022.out] at he
  subst he
  have S1022 := GS.mark (L1 := [ri u1015.heap.size u1017.heap.size (.slice A1017 z1.length c1017) z1, ri u1012.drew.heap.size u1014.heap.size (.slice A1014 z0.length c1014) z0]) (L2 := [ri u1008.heap.size u1009.heap.size (.slice A1009 z1.length c1009) (marks K1019 (z1.length)), ri u1006.heap.size u1007.heap.size (.slice A1007 z0.length c1007) (marks 1 (z0.length)), ri u1004.heap.size u1005.heap.size (.slice A1005 RX.length c1005) RX, ri u1003.heap.size u1004.heap.size (.slice A1004 z1.length c1004) z1, ri u1002.heap.size u1003.heap.size (.slice A1003 z0.length c1003) z0]) (lo := u1009.heap.size) (hi := u1010.heap.size) (v := .slice A1010 RX.length c1010) (xs := RX) S1021 hO1022 (by simp [marks]) hG1022
  clear g00 g01 g02 g03 g0l
  clear hO1022 hG1022
  clear S1021
  obtain ⟨g00, g01, g02, g03⟩ := S1022.c4 (g := u1010.heap.size) (T := 26) (a0 := .int .i64 R1) (a1 := .int .i64 R2) (a2 := .int .i64 R3) (a3 := .slice A1010 RX.length c1010) (by simp)
  have g0l := S1022.lt (g := u1010.heap.size) (T := 26) (cs := #[.int .i64 R1, .int .i64 R2, .int .i64 R3, .slice A1010 RX.length c1010]) (by simp)
  go_wp2_with fail
  refine (heldImage_any R1 R2 R3 A1010 c1010 RX.length 1 _ (S1022.rds (lo := u1009.heap.size) (hi := u1010.heap.size) (A := A1010) (n := RX.length) (c := c1010) (by simp)) (by omega) (by omega) (by omega)).mono ?_
  rintro e u1023 ⟨he, hB1023⟩
  rw [← HK1022.out] at he
  subst he
  have S1023 := S1022.call hB1023
  clear g00 g01 g02 g03 g0l
  clear hB1023
  clear S1022
  obtain ⟨b00, b01, b02, b03⟩ := S1023.c4 (g := w.heap.size) (T := 24) (a0 := .int .i64 W0) (a1 := .int .i64 H0) (a2 := .int .i64 P0) (a3 := .slice a0 z0.length cap0) (by simp)
  have b0l := S1023.lt (g := w.heap.size) (T := 24) (cs := #[.int .i64 W0, .int .i64 H0, .int .i64 P0, .slice a0 z0.length cap0]) (by simp)
  go_wp2_with fail
  refine (toImage_any W0 H0 P0 a0 cap0 z0 _ (S1023.arg HR0.out) (by omega)).mono ?_
  rintro e u1024 ⟨v1024, rfl, hO1024, hB1024⟩
  obtain ⟨A1024, c1024, rfl, hc1024⟩ := hO1024.slice
  have S1024 := S1023.add hO1024 hB1024
  clear b00 b01 b02 b03 b0l
  clear hB1024 hO1024
  clear S1023
  go_wp2_with fail
  refine (toIntS_any a1 cap1 z1 _ (S1024.arg HR1.out) (by omega)).mono ?_
  rintro e u1025 ⟨v1025, rfl, hO1025, hB1025⟩
  obtain ⟨A1025, c1025, rfl, hc1025⟩ := hO1025.slice
  have S1025 := S1024.add hO1025 hB1025
  clear hB1025 hO1025
  clear S1024
  go_wp2_with fail
  refine (HI.out A1024 c1024 A1025 c1025 _ (S1025.rds (lo := u1023.heap.size) (hi := u1024.heap.size) (A := A1024) (n := z0.length) (c := c1024) (by simp)) hc1024 (S1025.rds (lo := u1024.heap.size) (hi := u1025.heap.size) (A := A1025) (n := z1.length) (c := c1025) (by simp)) hc1025).mono ?_
  rintro e u1026 ⟨v1026, rfl, hO1026, hB1026⟩
  obtain ⟨A1026, c1026, rfl, hc1026⟩ := hO1026.slice
  have S1026 := S1025.add hO1026 hB1026
  clear hB1026 hO1026
  clear S1025
  obtain ⟨w00, w01, w02, w03⟩ := S1026.c4 (g := u1005.heap.size) (T := 26) (a0 := .int .i64 R1) (a1 := .int .i64 R2) (a2 := .int .i64 R3) (a3 := .slice A1005 RX.length c1005) (by simp)
  have w0l := S1026.lt (g := u1005.heap.size) (T := 26) (cs := #[.int .i64 R1, .int .i64 R2, .int .i64 R3, .slice A1005 RX.length c1005]) (by simp)
  have S1027 : GS w (u1026.alloc (.cells #[.int .i64 R1, .int .i64 R2, .int .i64 R3, .slice A1026 RX.length c1026] 26)) [ri u1025.heap.size u1026.heap.size (.slice A1026 RX.length c1026) RX, ri u1024.heap.size u1025.heap.size (.slice A1025 z1.length c1025) z1, ri u1023.heap.size u1024.heap.size (.slice A1024 z0.length c1024) z0, ri u1015.heap.size u1017.heap.size (.slice A1017 z1.length c1017) z1, ri u1012.drew.heap.size u1014.heap.size (.slice A1014 z0.length c1014) z0, ri u1009.heap.size u1010.heap.size (.slice A1010 RX.length c1010) (marks 1 (RX.length)), ri u1008.heap.size u1009.heap.size (.slice A1009 z1.length c1009) (marks K1019 (z1.length)), ri u1006.heap.size u1007.heap.size (.slice A1007 z0.length c1007) (marks 1 (z0.length)), ri u1004.heap.size u1005.heap.size (.slice A1005 RX.length c1005) RX, ri u1003.heap.size u1004.heap.size (.slice A1004 z1.length c1004) z1, ri u1002.heap.size u1003.heap.size (.slice A1003 z0.length c1003) z0] [⟨u1026.heap.size, 26, #[.int .i64 R1, .int .i64 R2, .int .i64 R3, .slice A1026 RX.length c1026]⟩, ⟨u1010.heap.size, 26, #[.int .i64 R1, .int .i64 R2, .int .i64 R3, .slice A1010 RX.length c1010]⟩, ⟨u1007.heap.size, 26, #[.int .i64 W0, .int .i64 H0, .int .i64 P0, .slice A1007 z0.length c1007]⟩, ⟨u1005.heap.size, 26, #[.int .i64 R1, .int .i64 R2, .int .i64 R3, .slice A1005 RX.length c1005]⟩, ⟨w.heap.size, 24, #[.int .i64 W0, .int .i64 H0, .int .i64 P0, .slice a0 z0.length cap0]⟩] := GS.box S1026 26 #[.int .i64 R1, .int .i64 R2, .int .i64 R3, .slice A1026 RX.length c1026]
  go_wp2_with fail
  clear w00 w01 w02 w03 w0l
  clear S1026
  generalize u1026.alloc (.cells #[.int .i64 R1, .int .i64 R2, .int .i64 R3, .slice A1026 RX.length c1026] 26) = u1027 at *
  refine (eqImage_same R1 R2 R3 A1026 A1005 c1026 c1005 _ _ RX _ rfl rfl (S1027.rds (lo := u1025.heap.size) (hi := u1026.heap.size) (A := A1026) (n := RX.length) (c := c1026) (by simp)) (S1027.rds (lo := u1004.heap.size) (hi := u1005.heap.size) (A := A1005) (n := RX.length) (c := c1005) (by simp)) (by omega)).mono ?_
  rintro e u1028 ⟨rfl, hB1028⟩
  have S1028 := S1027.call hB1028
  clear hB1028
  clear S1027
  obtain ⟨g00, g01, g02, g03⟩ := S1028.c4 (g := u1010.heap.size) (T := 26) (a0 := .int .i64 R1) (a1 := .int .i64 R2) (a2 := .int .i64 R3) (a3 := .slice A1010 RX.length c1010) (by simp)
  have g0l := S1028.lt (g := u1010.heap.size) (T := 26) (cs := #[.int .i64 R1, .int .i64 R2, .int .i64 R3, .slice A1010 RX.length c1010]) (by simp)
  go_wp2_with fail
  refine (heldImage_any R1 R2 R3 A1010 c1010 RX.length 1 _ (S1028.rds (lo := u1009.heap.size) (hi := u1010.heap.size) (A := A1010) (n := RX.length) (c := c1010) (by simp)) (by omega) (by omega) (by omega)).mono ?_
  rintro e u1029 ⟨he, hB1029⟩
  rw [← HK1022.out] at he
  subst he
  have S1029 := S1028.call hB1029
  clear g00 g01 g02 g03 g0l
  clear hB1029
  clear S1028
  go_wp2
  go_ret
  exact ⟨rfl, S1029.below⟩

/-! ### From the walk to the statement. -/
theorem own : ownKnob Try.prog.godebug = none := by kernel_rfl
theorem laidOut : laidOutB Try.prog = true := by kernel_rfl
set_option maxRecDepth 100000 in
theorem lifted (os : Os) (started : os.Started) (H : Type) (enc : TypeId × Value → H) :
    ReturnsInHanded {} Try.checked os 3 .any (Rows.fnExactMapImageSpec.pre6 enc Try.prog Try.f3 Rows.fnExactMapImageRow.domain false) (Rows.fnExactMapImageSpec.post enc Try.prog Try.f3 false true false false) := by
  refine returnsInHanded_of_change (C := Try.checked) own started (by kernel_rfl) Try.func3
    (ChangeSpec.witness6 (enc := enc) (C := Try.checked) false ⟨#[], #[.agg #[.int .i64 0, .int .i64 0, .int .i64 0, .slice none 0 0], .slice none 0 0], []⟩ 8 (by kernel_rfl) (by kernel_rfl) (by kernel_rfl) (by kernel_rfl)) ?_
  intro W base args ds gs before hval0 hW hcnd _
  have hval : ∀ (j : Nat) t v, Try.f3.params[j]? = some t → args[j]? = some v → Value.okWide Try.prog W .any base t v := hval0
  have hW' := hW
  obtain ⟨p, q, hA0, hV, rfl, hfz, hnd⟩ := hW
  have hA : DataW.TrodAll enc Try.prog W 0 (fun _ => true) true Try.f3.params.toList args.toList ds p := hA0
  rw [Try.params3] at hA hval
  obtain ⟨v0, vs0, d0, ds0, p0, q0, hargs, rfl, rfl, h0, r0⟩ := trodAll_cons hA
  obtain ⟨v1, vs1, d1, ds1, p1, q1, rfl, rfl, rfl, h1, r1⟩ := trodAll_cons r0
  obtain ⟨rfl, rfl, rfl⟩ := trodAll_nil r1
  obtain rfl : args = #[v0, v1] := by cases args; simp_all
  obtain ⟨rfl, rfl⟩ := trodVars_none hV
  have k0 := h0
  have lt0 : ∀ x ∈ p0, x.block < W.heap.size := by obtain ⟨m, hm⟩ := k0; exact DataW.trod_lt m _ _ _ hm
  obtain ⟨x0a, x0b, x0c, x0d, y0a, y0b, y0c, y0d, m0, rfl, rfl, rfl, g0a, g0b, g0c, g0d⟩ := Joins.open_agg4 Try.underlying24 (by kernel_rfl) (by kernel_rfl) (hval 0 24 v0 rfl rfl) h0
  obtain ⟨n0a, e0a, rfl, f0a⟩ := DataW.trod_int Try.underlying3 g0a
  simp at e0a
  subst e0a
  obtain ⟨n0b, e0b, rfl, f0b⟩ := DataW.trod_int Try.underlying3 g0b
  simp at e0b
  subst e0b
  obtain ⟨n0c, e0c, rfl, f0c⟩ := DataW.trod_int Try.underlying3 g0c
  simp at e0c
  subst e0c
  obtain ⟨a0, cap0, z0, hv0, hc0, w0⟩ : ∃ (A : Option Addr) (c : Nat) (zs : List Int), x0d = .slice A zs.length c ∧ zs.length ≤ c ∧ Rdw .i64 W W.heap.size A zs := by
    rcases open_ints Try.underlying22 Try.underlying3 (by kernel_rfl) g0d with ⟨hcs, _⟩ | ⟨x, l, c, zs, hcs, _, hl, hm, hz, _, hcell, hwz⟩
    · simp at hcs
      exact ⟨none, 0, [], hcs, Nat.le_refl _, Rdw.nil⟩
    · simp at hcs
      have hzl : (zs.take l).length = l := by simp at hz ⊢; omega
      exact ⟨some x, c, zs.take l, by rw [hzl]; exact hcs, by rw [hzl]; exact hl, Rdw.of_row hl hm (by simpa using hz) hcell hwz⟩
  subst hv0
  obtain ⟨a1, len1, cap1, rfl⟩ := okWide_slice Try.underlying22 (hval 1 22 v1 rfl rfl)
  have k1 := h1
  have lt1 : ∀ x ∈ p1, x.block < W.heap.size := by obtain ⟨m, hm⟩ := k1; exact DataW.trod_lt m _ _ _ hm
  obtain ⟨z1, hl1, hc1, w1⟩ : ∃ zs : List Int, len1 = zs.length ∧ zs.length ≤ cap1 ∧ Rdw .i64 W W.heap.size a1 zs := by
    obtain ⟨fuel, hf⟩ := h1
    rcases open_ints Try.underlying22 Try.underlying3 (by kernel_rfl) hf with ⟨hcs, _⟩ | ⟨x, l, c, zs, hcs, _, hl, hm, hz, _, hcell, hwz⟩
    · simp [Value.cells] at hcs
      obtain ⟨rfl, rfl, rfl⟩ := hcs
      exact ⟨[], rfl, Nat.le_refl _, Rdw.nil⟩
    · simp [Value.cells] at hcs
      obtain ⟨rfl, rfl, rfl⟩ := hcs
      exact ⟨zs.take len1, by simp at hz ⊢; omega, by simp at hz ⊢; omega, Rdw.of_row hl hm (by simpa using hz) hcell hwz⟩
  subst hl1
  clear hA0 hval0
  refine (walk W n0a n0b n0c a0 cap0 z0 hc0 w0 a1 cap1 z1 hc1 w1).mono fun e W' ⟨he, bel⟩ => ?_
  subst he
  exact ⟨_, rfl, _, _, _, [], _, [], hW', trodAll_mk1 (shut_bool Try.underlying4 _), (trodAll_cons_mk (Below.trod laidOut (by kernel_rfl) (of_decide_eq_true (by kernel_rfl)) k0 bel lt0) (trodAll_cons_mk (Below.trod laidOut (by kernel_rfl) (of_decide_eq_true (by kernel_rfl)) k1 bel lt1) trodAll_mk0)), rfl, bel.frame _, fun h => by cases h⟩

theorem over : Rows.fnExactMapImageRow.holds Try.pinned (OpenSpec.ofChange Rows.fnExactMapImageSpec) :=
  OpenClaim.holds_of_wide 3 Try.f3 rfl rfl rfl rfl rfl rfl rfl ⟨rfl, rfl, rfl, rfl, rfl⟩ rfl rfl rfl rfl rfl (by kernel_rfl) Try.func3 (by kernel_rfl)
    (of_decide_eq_true (by kernel_rfl)) (by unfold Func.isWrapper; first | (rw [if_pos (by decide +kernel)]; kernel_rfl) | (rw [if_neg (by decide +kernel)]; exact ⟨rfl, rfl⟩))
    (fun os started H enc _ => lifted os started H enc)

theorem proved : Rows.FnExactMapImageSaid := over
end Go.Proofs.Ytpjljhboodbmeaa.fnExactMapImage
