/- FillRegion of the program answers what the model answers, for every image, every list of runs and every list of numbers; it writes into no argument, and its answer owns its memory. -/
import Derived.Test.YtebfaomlljekiaaRows
import Derived.WalkKit
import Derived.ProofKit
import Derived.OpenShut
import Derived.ShutString
import Derived.ChangeOld
import Derived.Below
import Derived.Lib.SmallJoins
import Derived.Test.YtebfaomlljekiaaGen
import Derived.Test.YtebfaomlljekiaaSz
import Derived.Deep.Cut
import Derived.Deep.RegionHeld3
import Derived.Test.YtebfaomlljekiaaFrgI
import Derived.Test.YtebfaomlljekiaaFrgS
import Derived.Test.YtebfaomlljekiaaIStL
import Derived.Test.YtebfaomlljekiaaTri2
import Derived.Test.YtebfaomlljekiaaTriO
namespace Go.Proofs.Ytebfaomlljekiaa.fnExactFillRegion
open Go.ChangeShapes Go.WideShapes Go.ChangeAt Go.RowKit
open Go.ChangeMaps (open_string shut_string)
set_option linter.unusedVariables false

theorem frg_len (W H P : Int) (xs q rs : List Int) (n : Nat) : (cond (frgOk W H P xs rs n q) (frgL W.toNat H.toNat P.toNat xs q rs n) []).length ≤ 2000000 := by
  cases h : frgOk W H P xs rs n q
  · simp
  · unfold frgOk at h
    rw [Bool.and_eq_true] at h
    obtain ⟨W, H, P, rfl, rfl, rfl, _, hW, _, hH, _, hP, _⟩ := vim_nat h.1
    have := img_bd (W := W) (H := H) (P := P) (pntF rs n (fun _ _ p => q.getD p 0) (px W P xs)) hW hH hP
    show (img W H P (pntF rs n (fun _ _ p => q.getD p 0) (px W P xs))).length ≤ 2000000
    omega
def FC (f : FuncId) (W0 H0 P0 : Int) (z0 : List Int) (len1 : Nat) (z1 : List Int) (z2 : List Int) (R1 R2 R3 : Int) (RX : List Int) (o1 : Bool) : Prop :=
  ∀ (A0 : Option Addr) (c0 : Nat) (A1 : Option Addr) (c1 : Nat) (A2 : Option Addr) (c2 : Nat) (w : World), Rds .i64 w w.heap.size A0 z0 → z0.length ≤ c0 → Rds .i64 w w.heap.size A1 z1 → len1 ≤ c1 → Rds .i64 w w.heap.size A2 z2 → z2.length ≤ c2 → Calls Try.prog f #[.agg #[.int .i64 W0, .int .i64 H0, .int .i64 P0, .slice A0 z0.length c0], .slice A1 len1 c1, .slice A2 z2.length c2] w fun e w' => ∃ v, e = .returned (.tuple #[.agg #[.int .i64 R1, .int .i64 R2, .int .i64 R3, v], .bool o1]) ∧ Own w' w.heap.size v RX ∧ Below w.heap.size w w'
set_option maxHeartbeats 16000000 in
set_option maxRecDepth 8000 in
theorem walk (w : World) (W0 H0 P0 : Int) (a0 : Option Addr) (cap0 : Nat) (z0 : List Int) (hc0 : z0.length ≤ cap0) (w0 : Rdw .i64 w w.heap.size a0 z0) (a1 : Option Addr) (len1 cap1 : Nat) (z1 : List Int) (hl1 : z1.length = 3 * len1) (hc1 : len1 ≤ cap1) (hm1 : cap1 ≤ maxLen) (w1 : Rds .i64 w w.heap.size a1 z1) (f1 : ∀ n ∈ z1, (Lit.int .i64 n).wf = true) (a2 : Option Addr) (cap2 : Nat) (z2 : List Int) (hc2 : z2.length ≤ cap2) (w2 : Rdw .i64 w w.heap.size a2 z2) :
    Calls Try.prog 10 #[.agg #[.int .i64 W0, .int .i64 H0, .int .i64 P0, .slice a0 z0.length cap0], .slice a1 len1 cap1, .slice a2 z2.length cap2] w fun e w' => e = .returned (.bool true) ∧ Below w.heap.size w w' := by
  unfold maxLen at *
  have hm0 := w0.2.1
  unfold maxLen at hm0
  have HR0 := Lib.hid w0.1
  clear w0
  have HL1 := Lib.hid hl1
  have HR1 := Lib.hid w1
  clear hl1 w1 f1
  have hm2 := w2.2.1
  unfold maxLen at hm2
  have HR2 := Lib.hid w2.1
  clear w2
  have S0 : GS w (w.alloc (.cells #[.int .i64 W0, .int .i64 H0, .int .i64 P0, .slice a0 z0.length cap0] 38)) [] [⟨w.heap.size, 38, #[.int .i64 W0, .int .i64 H0, .int .i64 P0, .slice a0 z0.length cap0]⟩] := GS.box' (GS.start w) 38 #[.int .i64 W0, .int .i64 H0, .int .i64 P0, .slice a0 z0.length cap0] w.heap.size (by simp)
  by_cases hq2 : 1048576 < z2.length
  · go_enter Try.func10, Try.ntmps10
    go_wp2
    go_ret
    exact ⟨rfl, S0.below⟩
  go_enter Try.func10, Try.ntmps10
  go_wp2_with fail
  generalize w.alloc (.cells #[.int .i64 W0, .int .i64 H0, .int .i64 P0, .slice a0 z0.length cap0] 38) = u0 at *
  by_cases hs1001 : (1048576 : Int) < (z0.length : Nat)
  · refine (szImage_gt W0 H0 P0 a0 cap0 _ (1048576) _ (by omega) (by omega) hs1001 (by omega)).mono ?_
    rintro e uz ⟨rfl, hBz⟩
    have HSz := Lib.hid (S0.call hBz)
    clear hBz
    go_wp2
    go_ret
    exact ⟨rfl, HSz.out.below⟩
  obtain ⟨K1002, HK1002⟩ : ∃ K : Int, Hid (K = 1048576 - ((z0.length : Nat) : Int)) := ⟨_, Lib.hid rfl⟩
  have hK1002 : 0 ≤ K1002 ∧ K1002 ≤ 1048576 := by have := HK1002.out; omega
  have hb0 : z0.length ≤ 1048576 := by omega
  refine (szImage_le W0 H0 P0 a0 cap0 _ (1048576) _ (by omega) (by omega) (by omega)).mono ?_
  rintro e u1002 ⟨he, hB1002⟩
  rw [← HK1002.out] at he
  subst he
  have S1002 := S0.call hB1002
  clear hB1002
  clear S0
  go_wp2_with fail
  by_cases hs1003 : (K1002 : Int) < (len1 : Nat)
  · refine (szRunS_gt a1 cap1 _ (K1002) _ (by omega) (by omega) hs1003 (by omega)).mono ?_
    rintro e uz ⟨rfl, hBz⟩
    have HSz := Lib.hid (S1002.call hBz)
    clear hBz
    go_wp2
    go_ret
    exact ⟨rfl, HSz.out.below⟩
  obtain ⟨K1004, HK1004⟩ : ∃ K : Int, Hid (K = K1002 - ((len1 : Nat) : Int)) := ⟨_, Lib.hid rfl⟩
  have hK1004 : 0 ≤ K1004 ∧ K1004 ≤ 1048576 := by have := HK1004.out; omega
  have hb1 : len1 ≤ 1048576 := by omega
  refine (szRunS_le a1 cap1 _ (K1002) _ (by omega) (by omega) (by omega)).mono ?_
  rintro e u1004 ⟨he, hB1004⟩
  rw [← HK1004.out] at he
  subst he
  have S1004 := S1002.call hB1004
  clear hB1004
  clear S1002
  obtain ⟨R1, R2, R3, RX, o1, hRX, HI, HS⟩ : ∃ (R1 R2 R3 : Int) (RX : List Int) (o1 : Bool), RX.length ≤ 2000000 ∧ Hid (FC 47 W0 H0 P0 z0 len1 z1 z2 R1 R2 R3 RX o1) ∧ Hid (FC 44 W0 H0 P0 z0 len1 z1 z2 R1 R2 R3 RX o1) :=
      ⟨_, _, _, _, _, frg_len W0 H0 P0 z0 z2 z1 len1, Lib.hid (fun A c A2 c2 A3 c3 w hx hc hp hpc hr hrc => i_FillRegion W0 H0 P0 A A2 A3 c len1 c2 c3 z0 z1 z2 w hx (by omega) hc hp HL1.out (by omega) hr (by omega)), Lib.hid (fun A c A2 c2 A3 c3 w hx hc hp hpc hr hrc => s_FillRegion W0 H0 P0 A A2 A3 c len1 c2 c3 z0 z1 z2 w hx (by omega) hc hp HL1.out (by omega) hr (by omega))⟩
  obtain ⟨b00, b01, b02, b03⟩ := S1004.c4 (g := w.heap.size) (T := 38) (a0 := .int .i64 W0) (a1 := .int .i64 H0) (a2 := .int .i64 P0) (a3 := .slice a0 z0.length cap0) (by simp)
  have b0l := S1004.lt (g := w.heap.size) (T := 38) (cs := #[.int .i64 W0, .int .i64 H0, .int .i64 P0, .slice a0 z0.length cap0]) (by simp)
  go_wp2_with fail
  refine (toImage_any W0 H0 P0 a0 cap0 z0 _ (S1004.arg HR0.out) (by omega)).mono ?_
  rintro e u1005 ⟨v1005, rfl, hO1005, hB1005⟩
  obtain ⟨A1005, c1005, rfl, hc1005⟩ := hO1005.slice
  have S1005 := S1004.add hO1005 hB1005
  clear b00 b01 b02 b03 b0l
  clear hB1005 hO1005
  clear S1004
  go_wp2_with fail
  refine (toRunS_any a1 len1 cap1 z1 _ HL1.out (S1005.arg HR1.out) (by omega)).mono ?_
  rintro e u1006 ⟨A1006, c1006, rfl, ⟨hc1006, hcx1006⟩, hr1006, hB1006, hf1006, hO1006⟩
  clear hr1006 hf1006 hcx1006
  have S1006 := S1005.addT hO1006 hB1006
  clear hB1006 hO1006
  clear S1005
  go_wp2_with fail
  refine (toIntS_any a2 cap2 z2 _ (S1006.arg HR2.out) (by omega)).mono ?_
  rintro e u1007 ⟨v1007, rfl, hO1007, hB1007⟩
  obtain ⟨A1007, c1007, rfl, hc1007⟩ := hO1007.slice
  have S1007 := S1006.add hO1007 hB1007
  clear hB1007 hO1007
  clear S1006
  go_wp2_with fail
  refine (HS.out A1005 c1005 A1006 c1006 A1007 c1007 _ (S1007.rds (lo := u1004.heap.size) (hi := u1005.heap.size) (A := A1005) (n := z0.length) (c := c1005) (by simp)) hc1005 (S1007.rdsT (lo := u1005.heap.size) (hi := u1006.heap.size) (A := A1006) (E := 117) (C := 3) (n := len1) (m := len1) (c := c1006) (by simp)) hc1006 (S1007.rds (lo := u1006.heap.size) (hi := u1007.heap.size) (A := A1007) (n := z2.length) (c := c1007) (by simp)) hc1007).mono ?_
  rintro e u1008 ⟨v1008, rfl, hO1008, hB1008⟩
  obtain ⟨A1008, c1008, rfl, hc1008⟩ := hO1008.slice
  have S1008 := S1007.add hO1008 hB1008
  clear hB1008 hO1008
  clear S1007
  obtain ⟨b00, b01, b02, b03⟩ := S1008.c4 (g := w.heap.size) (T := 38) (a0 := .int .i64 W0) (a1 := .int .i64 H0) (a2 := .int .i64 P0) (a3 := .slice a0 z0.length cap0) (by simp)
  have b0l := S1008.lt (g := w.heap.size) (T := 38) (cs := #[.int .i64 W0, .int .i64 H0, .int .i64 P0, .slice a0 z0.length cap0]) (by simp)
  have S1009 : GS w (u1008.alloc (.cells #[.int .i64 R1, .int .i64 R2, .int .i64 R3, .slice A1008 RX.length c1008] 25)) [ri u1007.heap.size u1008.heap.size (.slice A1008 RX.length c1008) RX, ri u1006.heap.size u1007.heap.size (.slice A1007 z2.length c1007) z2, rt 117 3 u1005.heap.size u1006.heap.size (.slice A1006 len1 c1006) len1 z1, ri u1004.heap.size u1005.heap.size (.slice A1005 z0.length c1005) z0] [⟨u1008.heap.size, 25, #[.int .i64 R1, .int .i64 R2, .int .i64 R3, .slice A1008 RX.length c1008]⟩, ⟨w.heap.size, 38, #[.int .i64 W0, .int .i64 H0, .int .i64 P0, .slice a0 z0.length cap0]⟩] := GS.box S1008 25 #[.int .i64 R1, .int .i64 R2, .int .i64 R3, .slice A1008 RX.length c1008]
  go_wp2_with fail
  clear b00 b01 b02 b03 b0l
  clear S1008
  generalize u1008.alloc (.cells #[.int .i64 R1, .int .i64 R2, .int .i64 R3, .slice A1008 RX.length c1008] 25) = u1009 at *
  refine (toImage_any W0 H0 P0 a0 cap0 z0 _ (S1009.arg HR0.out) (by omega)).mono ?_
  rintro e u1010 ⟨v1010, rfl, hO1010, hB1010⟩
  obtain ⟨A1010, c1010, rfl, hc1010⟩ := hO1010.slice
  have S1010 := S1009.add hO1010 hB1010
  clear hB1010 hO1010
  clear S1009
  have S1011 : GS w (u1010.alloc (.cells #[.int .i64 W0, .int .i64 H0, .int .i64 P0, .slice A1010 z0.length c1010] 25)) [ri u1009.heap.size u1010.heap.size (.slice A1010 z0.length c1010) z0, ri u1007.heap.size u1008.heap.size (.slice A1008 RX.length c1008) RX, ri u1006.heap.size u1007.heap.size (.slice A1007 z2.length c1007) z2, rt 117 3 u1005.heap.size u1006.heap.size (.slice A1006 len1 c1006) len1 z1, ri u1004.heap.size u1005.heap.size (.slice A1005 z0.length c1005) z0] [⟨u1010.heap.size, 25, #[.int .i64 W0, .int .i64 H0, .int .i64 P0, .slice A1010 z0.length c1010]⟩, ⟨u1008.heap.size, 25, #[.int .i64 R1, .int .i64 R2, .int .i64 R3, .slice A1008 RX.length c1008]⟩, ⟨w.heap.size, 38, #[.int .i64 W0, .int .i64 H0, .int .i64 P0, .slice a0 z0.length cap0]⟩] := GS.box S1010 25 #[.int .i64 W0, .int .i64 H0, .int .i64 P0, .slice A1010 z0.length c1010]
  go_wp2_with fail
  clear S1010
  generalize u1010.alloc (.cells #[.int .i64 W0, .int .i64 H0, .int .i64 P0, .slice A1010 z0.length c1010] 25) = u1011 at *
  refine (toRunS_any a1 len1 cap1 z1 _ HL1.out (S1011.arg HR1.out) (by omega)).mono ?_
  rintro e u1012 ⟨A1012, c1012, rfl, ⟨hc1012, hcx1012⟩, hr1012, hB1012, hf1012, hO1012⟩
  clear hr1012 hf1012 hcx1012
  have S1012 := S1011.addT hO1012 hB1012
  clear hB1012 hO1012
  clear S1011
  go_wp2_with fail
  refine (toIntS_any a2 cap2 z2 _ (S1012.arg HR2.out) (by omega)).mono ?_
  rintro e u1013 ⟨v1013, rfl, hO1013, hB1013⟩
  obtain ⟨A1013, c1013, rfl, hc1013⟩ := hO1013.slice
  have S1013 := S1012.add hO1013 hB1013
  clear hB1013 hO1013
  clear S1012
  obtain ⟨x00, x01, x02, x03⟩ := S1013.c4 (g := u1010.heap.size) (T := 25) (a0 := .int .i64 W0) (a1 := .int .i64 H0) (a2 := .int .i64 P0) (a3 := .slice A1010 z0.length c1010) (by simp)
  have x0l := S1013.lt (g := u1010.heap.size) (T := 25) (cs := #[.int .i64 W0, .int .i64 H0, .int .i64 P0, .slice A1010 z0.length c1010]) (by simp)
  go_wp2_with fail
  refine (HI.out A1010 c1010 A1012 c1012 A1013 c1013 _ (S1013.rds (lo := u1009.heap.size) (hi := u1010.heap.size) (A := A1010) (n := z0.length) (c := c1010) (by simp)) hc1010 (S1013.rdsT (lo := u1011.heap.size) (hi := u1012.heap.size) (A := A1012) (E := 117) (C := 3) (n := len1) (m := len1) (c := c1012) (by simp)) hc1012 (S1013.rds (lo := u1012.heap.size) (hi := u1013.heap.size) (A := A1013) (n := z2.length) (c := c1013) (by simp)) hc1013).mono ?_
  rintro e u1014 ⟨v1014, rfl, hO1014, hB1014⟩
  obtain ⟨A1014, c1014, rfl, hc1014⟩ := hO1014.slice
  have S1014 := S1013.add hO1014 hB1014
  clear x00 x01 x02 x03 x0l
  clear hB1014 hO1014
  clear S1013
  obtain ⟨w00, w01, w02, w03⟩ := S1014.c4 (g := u1008.heap.size) (T := 25) (a0 := .int .i64 R1) (a1 := .int .i64 R2) (a2 := .int .i64 R3) (a3 := .slice A1008 RX.length c1008) (by simp)
  have w0l := S1014.lt (g := u1008.heap.size) (T := 25) (cs := #[.int .i64 R1, .int .i64 R2, .int .i64 R3, .slice A1008 RX.length c1008]) (by simp)
  have S1015 : GS w (u1014.alloc (.cells #[.int .i64 R1, .int .i64 R2, .int .i64 R3, .slice A1014 RX.length c1014] 25)) [ri u1013.heap.size u1014.heap.size (.slice A1014 RX.length c1014) RX, ri u1012.heap.size u1013.heap.size (.slice A1013 z2.length c1013) z2, rt 117 3 u1011.heap.size u1012.heap.size (.slice A1012 len1 c1012) len1 z1, ri u1009.heap.size u1010.heap.size (.slice A1010 z0.length c1010) z0, ri u1007.heap.size u1008.heap.size (.slice A1008 RX.length c1008) RX, ri u1006.heap.size u1007.heap.size (.slice A1007 z2.length c1007) z2, rt 117 3 u1005.heap.size u1006.heap.size (.slice A1006 len1 c1006) len1 z1, ri u1004.heap.size u1005.heap.size (.slice A1005 z0.length c1005) z0] [⟨u1014.heap.size, 25, #[.int .i64 R1, .int .i64 R2, .int .i64 R3, .slice A1014 RX.length c1014]⟩, ⟨u1010.heap.size, 25, #[.int .i64 W0, .int .i64 H0, .int .i64 P0, .slice A1010 z0.length c1010]⟩, ⟨u1008.heap.size, 25, #[.int .i64 R1, .int .i64 R2, .int .i64 R3, .slice A1008 RX.length c1008]⟩, ⟨w.heap.size, 38, #[.int .i64 W0, .int .i64 H0, .int .i64 P0, .slice a0 z0.length cap0]⟩] := GS.box S1014 25 #[.int .i64 R1, .int .i64 R2, .int .i64 R3, .slice A1014 RX.length c1014]
  go_wp2_with fail
  clear w00 w01 w02 w03 w0l
  clear S1014
  generalize u1014.alloc (.cells #[.int .i64 R1, .int .i64 R2, .int .i64 R3, .slice A1014 RX.length c1014] 25) = u1015 at *
  refine (eqImage_same R1 R2 R3 A1014 A1008 c1014 c1008 _ _ RX _ rfl rfl (S1015.rds (lo := u1013.heap.size) (hi := u1014.heap.size) (A := A1014) (n := RX.length) (c := c1014) (by simp)) (S1015.rds (lo := u1007.heap.size) (hi := u1008.heap.size) (A := A1008) (n := RX.length) (c := c1008) (by simp)) (by omega)).mono ?_
  rintro e u1016 ⟨rfl, hB1016⟩
  have S1016 := S1015.call hB1016
  clear hB1016
  clear S1015
  go_upto_region 17 with fail
  have HC := Lib.hid S1016.drew
  clear S1016
  go_region_held3 (fun w' => (w'.cell? ⟨u1010.heap.size, 0, none⟩ = some (.int .i64 W0) ∧ w'.cell? ⟨u1010.heap.size, 1, none⟩ = some (.int .i64 H0) ∧ w'.cell? ⟨u1010.heap.size, 2, none⟩ = some (.int .i64 P0) ∧ w'.cell? ⟨u1010.heap.size, 3, none⟩ = some (.slice A1010 z0.length c1010)) ∧ (w'.cell? ⟨w.heap.size, 0, none⟩ = some (.int .i64 W0) ∧ w'.cell? ⟨w.heap.size, 1, none⟩ = some (.int .i64 H0) ∧ w'.cell? ⟨w.heap.size, 2, none⟩ = some (.int .i64 P0) ∧ w'.cell? ⟨w.heap.size, 3, none⟩ = some (.slice a0 z0.length cap0))) (first | (with_reducible exact ⟨(HC.out).c4 (T := 25) (by simp), (HC.out).c4 (T := 38) (by simp)⟩) | (exact ⟨(HC.out).c4 (T := 25) (by simp), (HC.out).c4 (T := 38) (by simp)⟩)) (first | (go_at_call 31; (with_reducible refine Calls.mono (toImage_any W0 H0 P0 a0 cap0 z0 _ ?_ ?_) ?_); (exact HC.out.arg HR0.out); omega; rintro e u1018 ⟨v1018, rfl, hO1018, hB1018⟩; obtain ⟨A1018, c1018, rfl, hc1018⟩ := hO1018.slice; (first | (have HD := Lib.hid (GS.add HC.out hO1018 hB1018))); clear hB1018 hO1018; clear HC; have HC := HD; clear HD) | (go_at_call 34; (refine (eqImage_same W0 H0 P0 A1010 A1018 c1010 c1018 _ _ z0 _ rfl rfl (by exact HC.out.rds (lo := u1009.heap.size) (hi := u1010.heap.size) (A := A1010) (n := z0.length) (c := c1010) (by simp)) (by exact HC.out.rds (A := A1018) (n := z0.length) (c := c1018) (by first | exact List.mem_cons_self | exact List.mem_cons_of_mem _ List.mem_cons_self | exact List.mem_cons_of_mem _ (List.mem_cons_of_mem _ List.mem_cons_self) | exact List.mem_cons_of_mem _ (List.mem_cons_of_mem _ (List.mem_cons_of_mem _ List.mem_cons_self)))) (by omega)).mono ?_); rintro e u1019 ⟨rfl, hB1019⟩; (first | (have HD := Lib.hid (GS.call HC.out hB1019))); clear hB1019; clear HC; have HC := HD; clear HD))
  have S1020 := HC.out
  clear HC
  go_wp2_with fail
  refine (toRunS_any a1 len1 cap1 z1 _ HL1.out (S1020.arg HR1.out) (by omega)).mono ?_
  rintro e u1021 ⟨A1021, c1021, rfl, ⟨hc1021, hcx1021⟩, hr1021, hB1021, hf1021, hO1021⟩
  clear hr1021 hf1021 hcx1021
  have S1021 := S1020.addT hO1021 hB1021
  clear hB1021 hO1021
  clear S1020
  go_wp2_with fail
  refine (eqRunS_same A1012 A1021 len1 c1012 c1021 z1 _ _ _ HL1.out (S1021.rdsT (lo := u1011.heap.size) (hi := u1012.heap.size) (A := A1012) (E := 117) (C := 3) (n := len1) (m := len1) (c := c1012) (by simp)) (S1021.rdsT (lo := u1019.heap.size) (hi := u1021.heap.size) (A := A1021) (E := 117) (C := 3) (n := len1) (m := len1) (c := c1021) (by simp)) (Nat.le_refl _) (Nat.le_refl _) (by omega)).mono ?_
  rintro e u1022 ⟨rfl, hB1022⟩
  have S1022 := S1021.call hB1022
  clear hB1022
  clear S1021
  go_wp2_with fail
  refine (toIntS_any a2 cap2 z2 _ (S1022.arg HR2.out) (by omega)).mono ?_
  rintro e u1023 ⟨v1023, rfl, hO1023, hB1023⟩
  obtain ⟨A1023, c1023, rfl, hc1023⟩ := hO1023.slice
  have S1023 := S1022.add hO1023 hB1023
  clear hB1023 hO1023
  clear S1022
  go_wp2_with fail
  refine (eqIntS_same A1013 A1023 c1013 c1023 _ _ z2 _ rfl rfl (S1023.rds (lo := u1012.heap.size) (hi := u1013.heap.size) (A := A1013) (n := z2.length) (c := c1013) (by simp)) (S1023.rds (lo := u1022.heap.size) (hi := u1023.heap.size) (A := A1023) (n := z2.length) (c := c1023) (by simp)) (by omega)).mono ?_
  rintro e u1024 ⟨rfl, hB1024⟩
  have S1024 := S1023.call hB1024
  clear hB1024
  clear S1023
  obtain ⟨x00, x01, x02, x03⟩ := S1024.c4 (g := u1010.heap.size) (T := 25) (a0 := .int .i64 W0) (a1 := .int .i64 H0) (a2 := .int .i64 P0) (a3 := .slice A1010 z0.length c1010) (by simp)
  have x0l := S1024.lt (g := u1010.heap.size) (T := 25) (cs := #[.int .i64 W0, .int .i64 H0, .int .i64 P0, .slice A1010 z0.length c1010]) (by simp)
  go_wp2_with fail
  obtain ⟨K1025, HK1025⟩ : ∃ K : Int, Hid (K = 1 + ((z0.length : Nat) : Int)) := ⟨_, Lib.hid rfl⟩
  have hK1025 : 0 ≤ K1025 ∧ K1025 ≤ 8000001 := by have := HK1025.out; omega
  refine (markImage_any W0 H0 P0 (.slice A1010 z0.length c1010) u1009.heap.size z0 1 _ (S1024.own (lo := u1009.heap.size) (hi := u1010.heap.size) (by simp)) (by omega) (by omega) (by omega)).mono ?_
  rintro e u1025 ⟨he, hO1025, hG1025⟩
  rw [← HK1025.out] at he
  subst he
  have S1025 := GS.mark (L1 := [ri u1022.heap.size u1023.heap.size (.slice A1023 z2.length c1023) z2, rt 117 3 u1019.heap.size u1021.heap.size (.slice A1021 len1 c1021) len1 z1, ri u1016.drew.heap.size u1018.heap.size (.slice A1018 z0.length c1018) z0, ri u1013.heap.size u1014.heap.size (.slice A1014 RX.length c1014) RX, ri u1012.heap.size u1013.heap.size (.slice A1013 z2.length c1013) z2, rt 117 3 u1011.heap.size u1012.heap.size (.slice A1012 len1 c1012) len1 z1]) (L2 := [ri u1007.heap.size u1008.heap.size (.slice A1008 RX.length c1008) RX, ri u1006.heap.size u1007.heap.size (.slice A1007 z2.length c1007) z2, rt 117 3 u1005.heap.size u1006.heap.size (.slice A1006 len1 c1006) len1 z1, ri u1004.heap.size u1005.heap.size (.slice A1005 z0.length c1005) z0]) (lo := u1009.heap.size) (hi := u1010.heap.size) (v := .slice A1010 z0.length c1010) (xs := z0) S1024 hO1025 (by simp [marks]) hG1025
  clear x00 x01 x02 x03 x0l
  clear hO1025 hG1025
  clear S1024
  go_wp2_with fail
  obtain ⟨K1026, HK1026⟩ : ∃ K : Int, Hid (K = K1025 + ((len1 * 3 : Nat) : Int)) := ⟨_, Lib.hid rfl⟩
  have hK1026 : 0 ≤ K1026 ∧ K1026 ≤ 16000001 := by have := HK1026.out; omega
  refine (markRunS_any (.slice A1012 len1 c1012) u1011.heap.size len1 z1 K1025 _ (S1025.ownT (lo := u1011.heap.size) (hi := u1012.heap.size) (by simp)) (by omega) (by omega) (by omega)).mono ?_
  rintro e u1026 ⟨he, hO1026, hG1026, _⟩
  rw [← HK1026.out] at he
  subst he
  have S1026 := GS.markT (L1 := [ri u1022.heap.size u1023.heap.size (.slice A1023 z2.length c1023) z2, rt 117 3 u1019.heap.size u1021.heap.size (.slice A1021 len1 c1021) len1 z1, ri u1016.drew.heap.size u1018.heap.size (.slice A1018 z0.length c1018) z0, ri u1013.heap.size u1014.heap.size (.slice A1014 RX.length c1014) RX, ri u1012.heap.size u1013.heap.size (.slice A1013 z2.length c1013) z2]) (L2 := [ri u1009.heap.size u1010.heap.size (.slice A1010 z0.length c1010) (marks 1 (z0.length)), ri u1007.heap.size u1008.heap.size (.slice A1008 RX.length c1008) RX, ri u1006.heap.size u1007.heap.size (.slice A1007 z2.length c1007) z2, rt 117 3 u1005.heap.size u1006.heap.size (.slice A1006 len1 c1006) len1 z1, ri u1004.heap.size u1005.heap.size (.slice A1005 z0.length c1005) z0]) (E := 117) (C := 3) (lo := u1011.heap.size) (hi := u1012.heap.size) (v := .slice A1012 len1 c1012) (n := len1) (xs := z1) (ys := marks K1025 (len1 * 3)) S1025 hO1026 hG1026
  clear hO1026 hG1026
  clear S1025
  go_wp2_with fail
  obtain ⟨K1027, HK1027⟩ : ∃ K : Int, Hid (K = K1026 + ((z2.length : Nat) : Int)) := ⟨_, Lib.hid rfl⟩
  have hK1027 : 0 ≤ K1027 ∧ K1027 ≤ 24000001 := by have := HK1027.out; omega
  refine (markIntS_any (.slice A1013 z2.length c1013) u1012.heap.size z2 K1026 _ (S1026.own (lo := u1012.heap.size) (hi := u1013.heap.size) (by simp)) (by omega) (by omega) (by omega)).mono ?_
  rintro e u1027 ⟨he, hO1027, hG1027, _⟩
  rw [← HK1027.out] at he
  subst he
  have S1027 := GS.mark (L1 := [ri u1022.heap.size u1023.heap.size (.slice A1023 z2.length c1023) z2, rt 117 3 u1019.heap.size u1021.heap.size (.slice A1021 len1 c1021) len1 z1, ri u1016.drew.heap.size u1018.heap.size (.slice A1018 z0.length c1018) z0, ri u1013.heap.size u1014.heap.size (.slice A1014 RX.length c1014) RX]) (L2 := [rt 117 3 u1011.heap.size u1012.heap.size (.slice A1012 len1 c1012) len1 (marks K1025 (len1 * 3)), ri u1009.heap.size u1010.heap.size (.slice A1010 z0.length c1010) (marks 1 (z0.length)), ri u1007.heap.size u1008.heap.size (.slice A1008 RX.length c1008) RX, ri u1006.heap.size u1007.heap.size (.slice A1007 z2.length c1007) z2, rt 117 3 u1005.heap.size u1006.heap.size (.slice A1006 len1 c1006) len1 z1, ri u1004.heap.size u1005.heap.size (.slice A1005 z0.length c1005) z0]) (lo := u1012.heap.size) (hi := u1013.heap.size) (v := .slice A1013 z2.length c1013) (xs := z2) S1026 hO1027 (by simp [marks]) hG1027
  clear hO1027 hG1027
  clear S1026
  obtain ⟨g00, g01, g02, g03⟩ := S1027.c4 (g := u1014.heap.size) (T := 25) (a0 := .int .i64 R1) (a1 := .int .i64 R2) (a2 := .int .i64 R3) (a3 := .slice A1014 RX.length c1014) (by simp)
  have g0l := S1027.lt (g := u1014.heap.size) (T := 25) (cs := #[.int .i64 R1, .int .i64 R2, .int .i64 R3, .slice A1014 RX.length c1014]) (by simp)
  obtain ⟨w00, w01, w02, w03⟩ := S1027.c4 (g := u1008.heap.size) (T := 25) (a0 := .int .i64 R1) (a1 := .int .i64 R2) (a2 := .int .i64 R3) (a3 := .slice A1008 RX.length c1008) (by simp)
  have w0l := S1027.lt (g := u1008.heap.size) (T := 25) (cs := #[.int .i64 R1, .int .i64 R2, .int .i64 R3, .slice A1008 RX.length c1008]) (by simp)
  go_wp2_with fail
  refine (eqImage_same R1 R2 R3 A1014 A1008 c1014 c1008 _ _ RX _ rfl rfl (S1027.rds (lo := u1013.heap.size) (hi := u1014.heap.size) (A := A1014) (n := RX.length) (c := c1014) (by simp)) (S1027.rds (lo := u1007.heap.size) (hi := u1008.heap.size) (A := A1008) (n := RX.length) (c := c1008) (by simp)) (by omega)).mono ?_
  rintro e u1028 ⟨rfl, hB1028⟩
  have S1028 := S1027.call hB1028
  clear g00 g01 g02 g03 g0l w00 w01 w02 w03 w0l
  clear hB1028
  clear S1027
  obtain ⟨g00, g01, g02, g03⟩ := S1028.c4 (g := u1014.heap.size) (T := 25) (a0 := .int .i64 R1) (a1 := .int .i64 R2) (a2 := .int .i64 R3) (a3 := .slice A1014 RX.length c1014) (by simp)
  have g0l := S1028.lt (g := u1014.heap.size) (T := 25) (cs := #[.int .i64 R1, .int .i64 R2, .int .i64 R3, .slice A1014 RX.length c1014]) (by simp)
  go_wp2_with fail
  obtain ⟨K1029, HK1029⟩ : ∃ K : Int, Hid (K = 1 + ((RX.length : Nat) : Int)) := ⟨_, Lib.hid rfl⟩
  have hK1029 : 0 ≤ K1029 ∧ K1029 ≤ 8000001 := by have := HK1029.out; omega
  refine (markImage_any R1 R2 R3 (.slice A1014 RX.length c1014) u1013.heap.size RX 1 _ (S1028.own (lo := u1013.heap.size) (hi := u1014.heap.size) (by simp)) (by omega) (by omega) (by omega)).mono ?_
  rintro e u1029 ⟨he, hO1029, hG1029⟩
  rw [← HK1029.out] at he
  subst he
  have S1029 := GS.mark (L1 := [ri u1022.heap.size u1023.heap.size (.slice A1023 z2.length c1023) z2, rt 117 3 u1019.heap.size u1021.heap.size (.slice A1021 len1 c1021) len1 z1, ri u1016.drew.heap.size u1018.heap.size (.slice A1018 z0.length c1018) z0]) (L2 := [ri u1012.heap.size u1013.heap.size (.slice A1013 z2.length c1013) (marks K1026 (z2.length)), rt 117 3 u1011.heap.size u1012.heap.size (.slice A1012 len1 c1012) len1 (marks K1025 (len1 * 3)), ri u1009.heap.size u1010.heap.size (.slice A1010 z0.length c1010) (marks 1 (z0.length)), ri u1007.heap.size u1008.heap.size (.slice A1008 RX.length c1008) RX, ri u1006.heap.size u1007.heap.size (.slice A1007 z2.length c1007) z2, rt 117 3 u1005.heap.size u1006.heap.size (.slice A1006 len1 c1006) len1 z1, ri u1004.heap.size u1005.heap.size (.slice A1005 z0.length c1005) z0]) (lo := u1013.heap.size) (hi := u1014.heap.size) (v := .slice A1014 RX.length c1014) (xs := RX) S1028 hO1029 (by simp [marks]) hG1029
  clear g00 g01 g02 g03 g0l
  clear hO1029 hG1029
  clear S1028
  obtain ⟨g00, g01, g02, g03⟩ := S1029.c4 (g := u1014.heap.size) (T := 25) (a0 := .int .i64 R1) (a1 := .int .i64 R2) (a2 := .int .i64 R3) (a3 := .slice A1014 RX.length c1014) (by simp)
  have g0l := S1029.lt (g := u1014.heap.size) (T := 25) (cs := #[.int .i64 R1, .int .i64 R2, .int .i64 R3, .slice A1014 RX.length c1014]) (by simp)
  go_wp2_with fail
  refine (heldImage_any R1 R2 R3 A1014 c1014 RX.length 1 _ (S1029.rds (lo := u1013.heap.size) (hi := u1014.heap.size) (A := A1014) (n := RX.length) (c := c1014) (by simp)) (by omega) (by omega) (by omega)).mono ?_
  rintro e u1030 ⟨he, hB1030⟩
  rw [← HK1029.out] at he
  subst he
  have S1030 := S1029.call hB1030
  clear g00 g01 g02 g03 g0l
  clear hB1030
  clear S1029
  obtain ⟨b00, b01, b02, b03⟩ := S1030.c4 (g := w.heap.size) (T := 38) (a0 := .int .i64 W0) (a1 := .int .i64 H0) (a2 := .int .i64 P0) (a3 := .slice a0 z0.length cap0) (by simp)
  have b0l := S1030.lt (g := w.heap.size) (T := 38) (cs := #[.int .i64 W0, .int .i64 H0, .int .i64 P0, .slice a0 z0.length cap0]) (by simp)
  go_wp2_with fail
  refine (toImage_any W0 H0 P0 a0 cap0 z0 _ (S1030.arg HR0.out) (by omega)).mono ?_
  rintro e u1031 ⟨v1031, rfl, hO1031, hB1031⟩
  obtain ⟨A1031, c1031, rfl, hc1031⟩ := hO1031.slice
  have S1031 := S1030.add hO1031 hB1031
  clear b00 b01 b02 b03 b0l
  clear hB1031 hO1031
  clear S1030
  go_wp2_with fail
  refine (toRunS_any a1 len1 cap1 z1 _ HL1.out (S1031.arg HR1.out) (by omega)).mono ?_
  rintro e u1032 ⟨A1032, c1032, rfl, ⟨hc1032, hcx1032⟩, hr1032, hB1032, hf1032, hO1032⟩
  clear hr1032 hf1032 hcx1032
  have S1032 := S1031.addT hO1032 hB1032
  clear hB1032 hO1032
  clear S1031
  go_wp2_with fail
  refine (toIntS_any a2 cap2 z2 _ (S1032.arg HR2.out) (by omega)).mono ?_
  rintro e u1033 ⟨v1033, rfl, hO1033, hB1033⟩
  obtain ⟨A1033, c1033, rfl, hc1033⟩ := hO1033.slice
  have S1033 := S1032.add hO1033 hB1033
  clear hB1033 hO1033
  clear S1032
  go_wp2_with fail
  refine (HI.out A1031 c1031 A1032 c1032 A1033 c1033 _ (S1033.rds (lo := u1030.heap.size) (hi := u1031.heap.size) (A := A1031) (n := z0.length) (c := c1031) (by simp)) hc1031 (S1033.rdsT (lo := u1031.heap.size) (hi := u1032.heap.size) (A := A1032) (E := 117) (C := 3) (n := len1) (m := len1) (c := c1032) (by simp)) hc1032 (S1033.rds (lo := u1032.heap.size) (hi := u1033.heap.size) (A := A1033) (n := z2.length) (c := c1033) (by simp)) hc1033).mono ?_
  rintro e u1034 ⟨v1034, rfl, hO1034, hB1034⟩
  obtain ⟨A1034, c1034, rfl, hc1034⟩ := hO1034.slice
  have S1034 := S1033.add hO1034 hB1034
  clear hB1034 hO1034
  clear S1033
  obtain ⟨w00, w01, w02, w03⟩ := S1034.c4 (g := u1008.heap.size) (T := 25) (a0 := .int .i64 R1) (a1 := .int .i64 R2) (a2 := .int .i64 R3) (a3 := .slice A1008 RX.length c1008) (by simp)
  have w0l := S1034.lt (g := u1008.heap.size) (T := 25) (cs := #[.int .i64 R1, .int .i64 R2, .int .i64 R3, .slice A1008 RX.length c1008]) (by simp)
  have S1035 : GS w (u1034.alloc (.cells #[.int .i64 R1, .int .i64 R2, .int .i64 R3, .slice A1034 RX.length c1034] 25)) [ri u1033.heap.size u1034.heap.size (.slice A1034 RX.length c1034) RX, ri u1032.heap.size u1033.heap.size (.slice A1033 z2.length c1033) z2, rt 117 3 u1031.heap.size u1032.heap.size (.slice A1032 len1 c1032) len1 z1, ri u1030.heap.size u1031.heap.size (.slice A1031 z0.length c1031) z0, ri u1022.heap.size u1023.heap.size (.slice A1023 z2.length c1023) z2, rt 117 3 u1019.heap.size u1021.heap.size (.slice A1021 len1 c1021) len1 z1, ri u1016.drew.heap.size u1018.heap.size (.slice A1018 z0.length c1018) z0, ri u1013.heap.size u1014.heap.size (.slice A1014 RX.length c1014) (marks 1 (RX.length)), ri u1012.heap.size u1013.heap.size (.slice A1013 z2.length c1013) (marks K1026 (z2.length)), rt 117 3 u1011.heap.size u1012.heap.size (.slice A1012 len1 c1012) len1 (marks K1025 (len1 * 3)), ri u1009.heap.size u1010.heap.size (.slice A1010 z0.length c1010) (marks 1 (z0.length)), ri u1007.heap.size u1008.heap.size (.slice A1008 RX.length c1008) RX, ri u1006.heap.size u1007.heap.size (.slice A1007 z2.length c1007) z2, rt 117 3 u1005.heap.size u1006.heap.size (.slice A1006 len1 c1006) len1 z1, ri u1004.heap.size u1005.heap.size (.slice A1005 z0.length c1005) z0] [⟨u1034.heap.size, 25, #[.int .i64 R1, .int .i64 R2, .int .i64 R3, .slice A1034 RX.length c1034]⟩, ⟨u1014.heap.size, 25, #[.int .i64 R1, .int .i64 R2, .int .i64 R3, .slice A1014 RX.length c1014]⟩, ⟨u1010.heap.size, 25, #[.int .i64 W0, .int .i64 H0, .int .i64 P0, .slice A1010 z0.length c1010]⟩, ⟨u1008.heap.size, 25, #[.int .i64 R1, .int .i64 R2, .int .i64 R3, .slice A1008 RX.length c1008]⟩, ⟨w.heap.size, 38, #[.int .i64 W0, .int .i64 H0, .int .i64 P0, .slice a0 z0.length cap0]⟩] := GS.box S1034 25 #[.int .i64 R1, .int .i64 R2, .int .i64 R3, .slice A1034 RX.length c1034]
  go_wp2_with fail
  clear w00 w01 w02 w03 w0l
  clear S1034
  generalize u1034.alloc (.cells #[.int .i64 R1, .int .i64 R2, .int .i64 R3, .slice A1034 RX.length c1034] 25) = u1035 at *
  refine (eqImage_same R1 R2 R3 A1034 A1008 c1034 c1008 _ _ RX _ rfl rfl (S1035.rds (lo := u1033.heap.size) (hi := u1034.heap.size) (A := A1034) (n := RX.length) (c := c1034) (by simp)) (S1035.rds (lo := u1007.heap.size) (hi := u1008.heap.size) (A := A1008) (n := RX.length) (c := c1008) (by simp)) (by omega)).mono ?_
  rintro e u1036 ⟨rfl, hB1036⟩
  have S1036 := S1035.call hB1036
  clear hB1036
  clear S1035
  obtain ⟨g00, g01, g02, g03⟩ := S1036.c4 (g := u1014.heap.size) (T := 25) (a0 := .int .i64 R1) (a1 := .int .i64 R2) (a2 := .int .i64 R3) (a3 := .slice A1014 RX.length c1014) (by simp)
  have g0l := S1036.lt (g := u1014.heap.size) (T := 25) (cs := #[.int .i64 R1, .int .i64 R2, .int .i64 R3, .slice A1014 RX.length c1014]) (by simp)
  go_wp2_with fail
  refine (heldImage_any R1 R2 R3 A1014 c1014 RX.length 1 _ (S1036.rds (lo := u1013.heap.size) (hi := u1014.heap.size) (A := A1014) (n := RX.length) (c := c1014) (by simp)) (by omega) (by omega) (by omega)).mono ?_
  rintro e u1037 ⟨he, hB1037⟩
  rw [← HK1029.out] at he
  subst he
  have S1037 := S1036.call hB1037
  clear g00 g01 g02 g03 g0l
  clear hB1037
  clear S1036
  go_wp2
  go_ret
  exact ⟨rfl, S1037.below⟩

/-! ### From the walk to the statement. -/
theorem own : ownKnob Try.prog.godebug = none := by kernel_rfl
theorem laidOut : laidOutB Try.prog = true := by kernel_rfl
set_option maxRecDepth 100000 in
theorem lifted (os : Os) (started : os.Started) (H : Type) (enc : TypeId × Value → H) :
    ReturnsInHanded {} Try.checked os 10 .any (Rows.fnExactFillRegionSpec.pre6 enc Try.prog Try.f10 Rows.fnExactFillRegionRow.domain false) (Rows.fnExactFillRegionSpec.post enc Try.prog Try.f10 false true false false) := by
  refine returnsInHanded_of_change (C := Try.checked) own started (by kernel_rfl) Try.func10
    (ChangeSpec.witness6 (enc := enc) (C := Try.checked) false ⟨#[], #[.agg #[.int .i64 0, .int .i64 0, .int .i64 0, .slice none 0 0], .slice none 0 0, .slice none 0 0], []⟩ 8 (by kernel_rfl) (by kernel_rfl) (by kernel_rfl) (by kernel_rfl)) ?_
  intro W base args ds gs before hval0 hW hcnd _
  have hval : ∀ (j : Nat) t v, Try.f10.params[j]? = some t → args[j]? = some v → Value.okWide Try.prog W .any base t v := hval0
  have hW' := hW
  obtain ⟨p, q, hA0, hV, rfl, hfz, hnd⟩ := hW
  have hA : DataW.TrodAll enc Try.prog W 0 (fun _ => true) true Try.f10.params.toList args.toList ds p := hA0
  rw [Try.params10] at hA hval
  obtain ⟨v0, vs0, d0, ds0, p0, q0, hargs, rfl, rfl, h0, r0⟩ := trodAll_cons hA
  obtain ⟨v1, vs1, d1, ds1, p1, q1, rfl, rfl, rfl, h1, r1⟩ := trodAll_cons r0
  obtain ⟨v2, vs2, d2, ds2, p2, q2, rfl, rfl, rfl, h2, r2⟩ := trodAll_cons r1
  obtain ⟨rfl, rfl, rfl⟩ := trodAll_nil r2
  obtain rfl : args = #[v0, v1, v2] := by cases args; simp_all
  obtain ⟨rfl, rfl⟩ := trodVars_none hV
  have k0 := h0
  have lt0 : ∀ x ∈ p0, x.block < W.heap.size := by obtain ⟨m, hm⟩ := k0; exact DataW.trod_lt m _ _ _ hm
  obtain ⟨x0a, x0b, x0c, x0d, y0a, y0b, y0c, y0d, m0, rfl, rfl, rfl, g0a, g0b, g0c, g0d⟩ := Joins.open_agg4 Try.underlying38 (by kernel_rfl) (by kernel_rfl) (hval 0 38 v0 rfl rfl) h0
  obtain ⟨n0a, e0a, rfl, f0a⟩ := DataW.trod_int Try.underlying3 g0a
  simp at e0a
  subst e0a
  obtain ⟨n0b, e0b, rfl, f0b⟩ := DataW.trod_int Try.underlying3 g0b
  simp at e0b
  subst e0b
  obtain ⟨n0c, e0c, rfl, f0c⟩ := DataW.trod_int Try.underlying3 g0c
  simp at e0c
  subst e0c
  obtain ⟨a0, cap0, z0, hv0, hc0, w0⟩ : ∃ (A : Option Addr) (c : Nat) (zs : List Int), x0d = .slice A zs.length c ∧ zs.length ≤ c ∧ Rdw .i64 W W.heap.size A zs := by
    rcases open_ints Try.underlying23 Try.underlying3 (by kernel_rfl) g0d with ⟨hcs, _⟩ | ⟨x, l, c, zs, hcs, _, hl, hm, hz, _, hcell, hwz⟩
    · simp at hcs
      exact ⟨none, 0, [], hcs, Nat.le_refl _, Rdw.nil⟩
    · simp at hcs
      have hzl : (zs.take l).length = l := by simp at hz ⊢; omega
      exact ⟨some x, c, zs.take l, by rw [hzl]; exact hcs, by rw [hzl]; exact hl, Rdw.of_row hl hm (by simpa using hz) hcell hwz⟩
  subst hv0
  obtain ⟨a1, len1, cap1, rfl⟩ := okWide_slice Try.underlying52 (hval 1 52 v1 rfl rfl)
  have k1 := h1
  have lt1 : ∀ x ∈ p1, x.block < W.heap.size := by obtain ⟨m, hm⟩ := k1; exact DataW.trod_lt m _ _ _ hm
  obtain ⟨z1, hl1, hc1, hm1, w1, f1⟩ : ∃ zs : List Int, zs.length = 3 * len1 ∧ len1 ≤ cap1 ∧ cap1 ≤ maxLen ∧ Rds .i64 W W.heap.size a1 zs ∧ ∀ n ∈ zs, (Lit.int .i64 n).wf = true := by
    obtain ⟨fuel, hf⟩ := h1
    obtain ⟨A, l, c, zs, hcs, r⟩ := open_flat (C := 3) Try.underlying52 Try.underlying121 Try.underlying3 (by decide) rfl (by kernel_rfl) (by kernel_rfl) (by intro q f hq; rcases q with _ | _ | _ | q <;> simp at hq <;> (subst hq; exact ⟨rfl, rfl⟩)) hf
    simp [Value.cells] at hcs
    obtain ⟨rfl, rfl, rfl⟩ := hcs
    exact ⟨zs, r⟩
  obtain ⟨a2, len2, cap2, rfl⟩ := okWide_slice Try.underlying23 (hval 2 23 v2 rfl rfl)
  have k2 := h2
  have lt2 : ∀ x ∈ p2, x.block < W.heap.size := by obtain ⟨m, hm⟩ := k2; exact DataW.trod_lt m _ _ _ hm
  obtain ⟨z2, hl2, hc2, w2⟩ : ∃ zs : List Int, len2 = zs.length ∧ zs.length ≤ cap2 ∧ Rdw .i64 W W.heap.size a2 zs := by
    obtain ⟨fuel, hf⟩ := h2
    rcases open_ints Try.underlying23 Try.underlying3 (by kernel_rfl) hf with ⟨hcs, _⟩ | ⟨x, l, c, zs, hcs, _, hl, hm, hz, _, hcell, hwz⟩
    · simp [Value.cells] at hcs
      obtain ⟨rfl, rfl, rfl⟩ := hcs
      exact ⟨[], rfl, Nat.le_refl _, Rdw.nil⟩
    · simp [Value.cells] at hcs
      obtain ⟨rfl, rfl, rfl⟩ := hcs
      exact ⟨zs.take len2, by simp at hz ⊢; omega, by simp at hz ⊢; omega, Rdw.of_row hl hm (by simpa using hz) hcell hwz⟩
  subst hl2
  clear hA0 hval0
  refine (walk W n0a n0b n0c a0 cap0 z0 hc0 w0 a1 len1 cap1 z1 hl1 hc1 hm1 w1 f1 a2 cap2 z2 hc2 w2).mono fun e W' ⟨he, bel⟩ => ?_
  subst he
  exact ⟨_, rfl, _, _, _, [], _, [], hW', trodAll_mk1 (shut_bool Try.underlying4 _), (trodAll_cons_mk (Below.trod laidOut (by kernel_rfl) (of_decide_eq_true (by kernel_rfl)) k0 bel lt0) (trodAll_cons_mk (Below.trod laidOut (by kernel_rfl) (of_decide_eq_true (by kernel_rfl)) k1 bel lt1) (trodAll_cons_mk (Below.trod laidOut (by kernel_rfl) (of_decide_eq_true (by kernel_rfl)) k2 bel lt2) trodAll_mk0))), rfl, bel.frame _, fun h => by cases h⟩

theorem over : Rows.fnExactFillRegionRow.holds Try.pinned (OpenSpec.ofChange Rows.fnExactFillRegionSpec) :=
  OpenClaim.holds_of_wide 10 Try.f10 rfl rfl rfl rfl rfl rfl rfl ⟨rfl, rfl, rfl, rfl, rfl⟩ rfl rfl rfl rfl rfl (by kernel_rfl) Try.func10 (by kernel_rfl)
    (of_decide_eq_true (by kernel_rfl)) (by unfold Func.isWrapper; first | (rw [if_pos (by decide +kernel)]; kernel_rfl) | (rw [if_neg (by decide +kernel)]; exact ⟨rfl, rfl⟩))
    (fun os started H enc _ => lifted os started H enc)

theorem proved : Rows.FnExactFillRegionSaid := over
end Go.Proofs.Ytebfaomlljekiaa.fnExactFillRegion
