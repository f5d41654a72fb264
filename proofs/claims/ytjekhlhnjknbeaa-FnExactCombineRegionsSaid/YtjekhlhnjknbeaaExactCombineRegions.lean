/- CombineRegions of the program answers what the model answers, for every two lists of runs and every kind; it writes into no argument, and its answer owns its memory. -/
import Derived.Test.YtjekhlhnjknbeaaRows
import Derived.WalkKit
import Derived.ProofKit
import Derived.OpenShut
import Derived.ShutString
import Derived.ChangeOld
import Derived.Below
import Derived.Lib.SmallJoins
import Derived.Test.YtjekhlhnjknbeaaGen
import Derived.Test.YtjekhlhnjknbeaaSz
import Derived.Deep.Cut
import Derived.Deep.RegionHeld3
import Derived.Test.YtjekhlhnjknbeaaCmbK
import Derived.Test.YtjekhlhnjknbeaaCmbS
import Derived.Test.YtjekhlhnjknbeaaTri2
import Derived.Test.YtjekhlhnjknbeaaTriO
namespace Go.Proofs.Ytjekhlhnjknbeaa.fnExactCombineRegions
open Go.ChangeShapes Go.WideShapes Go.ChangeAt Go.RowKit
open Go.ChangeMaps (open_string shut_string)
set_option linter.unusedVariables false

theorem rif_len (ok : Bool) (G : Nat → Nat → Bool) : (cond ok (rnN G) 0) ≤ 1000000 ∧ (cond ok (rnL G) []).length = 3 * (cond ok (rnN G) 0) := by
  cases ok
  · exact ⟨by show 0 ≤ _; omega, rfl⟩
  · have := rnL_len G
    exact ⟨by show rnN G ≤ _; omega, this.1⟩
def FC (f : FuncId) (len0 : Nat) (z0 : List Int) (len1 : Nat) (z1 : List Int) (a2 : Int) (RN : Nat) (RX : List Int) (o1 : Bool) : Prop :=
  ∀ (A0 : Option Addr) (c0 : Nat) (A1 : Option Addr) (c1 : Nat) (w : World), Rds .i64 w w.heap.size A0 z0 → len0 ≤ c0 → Rds .i64 w w.heap.size A1 z1 → len1 ≤ c1 → Calls Try.prog f #[.slice A0 len0 c0, .slice A1 len1 c1, .int .i64 a2] w fun e w' => ∃ v, e = .returned (.tuple #[v, .bool o1]) ∧ World.ownsRow w' w.heap.size 75 3 v RN (RX.map (.int .i64)) ∧ Below w.heap.size w w'
set_option maxHeartbeats 16000000 in
set_option maxRecDepth 8000 in
theorem walk (w : World) (a0 : Option Addr) (len0 cap0 : Nat) (z0 : List Int) (hl0 : z0.length = 3 * len0) (hc0 : len0 ≤ cap0) (hm0 : cap0 ≤ maxLen) (w0 : Rds .i64 w w.heap.size a0 z0) (f0 : ∀ n ∈ z0, (Lit.int .i64 n).wf = true) (a1 : Option Addr) (len1 cap1 : Nat) (z1 : List Int) (hl1 : z1.length = 3 * len1) (hc1 : len1 ≤ cap1) (hm1 : cap1 ≤ maxLen) (w1 : Rds .i64 w w.heap.size a1 z1) (f1 : ∀ n ∈ z1, (Lit.int .i64 n).wf = true) (a2 : Int) (w2 : (Lit.int .i64 a2).wf = true) :
    Calls Try.prog 5 #[.slice a0 len0 cap0, .slice a1 len1 cap1, .int .i64 a2] w fun e w' => e = .returned (.bool true) ∧ Below w.heap.size w w' := by
  unfold maxLen at *
  have HL0 := Lib.hid hl0
  have HR0 := Lib.hid w0
  clear hl0 w0 f0
  have HL1 := Lib.hid hl1
  have HR1 := Lib.hid w1
  clear hl1 w1 f1
  have S0 : GS w w [] [] := GS.start w
  go_enter Try.func5, Try.ntmps5
  go_wp2_with fail
  by_cases hs1001 : (1048576 : Int) < (len0 : Nat)
  · refine (szRunS_gt a0 cap0 _ (1048576) _ (by omega) (by omega) hs1001 (by omega)).mono ?_
    rintro e uz ⟨rfl, hBz⟩
    have HSz := Lib.hid (S0.call hBz)
    clear hBz
    go_wp2
    go_ret
    exact ⟨rfl, HSz.out.below⟩
  obtain ⟨K1002, HK1002⟩ : ∃ K : Int, Hid (K = 1048576 - ((len0 : Nat) : Int)) := ⟨_, Lib.hid rfl⟩
  have hK1002 : 0 ≤ K1002 ∧ K1002 ≤ 1048576 := by have := HK1002.out; omega
  have hb0 : len0 ≤ 1048576 := by omega
  refine (szRunS_le a0 cap0 _ (1048576) _ (by omega) (by omega) (by omega)).mono ?_
  rintro e u1002 ⟨he, hB1002⟩
  rw [← HK1002.out] at he
  subst he
  have S1002 := S0.call hB1002
  clear hB1002
  clear S0
  go_wp2_with fail
  by_cases hs1003 : (K1002 : Int) < (len1 : Nat)
  · refine (szRunS_gt a1 cap1 _ (K1002) _ (by omega) (by omega) hs1003 (by omega)).mono ?_
    rintro e uz ⟨rfl, hBz⟩
    have HSz := Lib.hid (S1002.call hBz)
    clear hBz
    go_wp2
    go_ret
    exact ⟨rfl, HSz.out.below⟩
  obtain ⟨K1004, HK1004⟩ : ∃ K : Int, Hid (K = K1002 - ((len1 : Nat) : Int)) := ⟨_, Lib.hid rfl⟩
  have hK1004 : 0 ≤ K1004 ∧ K1004 ≤ 1048576 := by have := HK1004.out; omega
  have hb1 : len1 ≤ 1048576 := by omega
  refine (szRunS_le a1 cap1 _ (K1002) _ (by omega) (by omega) (by omega)).mono ?_
  rintro e u1004 ⟨he, hB1004⟩
  rw [← HK1004.out] at he
  subst he
  have S1004 := S1002.call hB1004
  clear hB1004
  clear S1002
  obtain ⟨RN, RX, o1, ⟨hRN, HRL0⟩, HI, HS⟩ : ∃ (RN : Nat) (RX : List Int) (o1 : Bool), (RN ≤ 1000000 ∧ RX.length = 3 * RN) ∧ Hid (FC 28 len0 z0 len1 z1 a2 RN RX o1) ∧ Hid (FC 26 len0 z0 len1 z1 a2 RN RX o1) :=
      ⟨_, _, _, rif_len _ _, Lib.hid (fun A c A2 c2 w hx hc hp hpc => i_CombineRegions A A2 len0 len1 c c2 z0 z1 a2 w HL0.out hx (by omega) HL1.out hp (by omega)), Lib.hid (fun A c A2 c2 w hx hc hp hpc => s_CombineRegions A A2 len0 len1 c c2 z0 z1 a2 w HL0.out hx (by omega) HL1.out hp (by omega))⟩
  have HRL := Lib.hid HRL0
  clear HRL0
  go_wp2_with fail
  refine (toRunS_any a0 len0 cap0 z0 _ HL0.out (S1004.arg HR0.out) (by omega)).mono ?_
  rintro e u1005 ⟨A1005, c1005, rfl, ⟨hc1005, hcx1005⟩, hr1005, hB1005, hf1005, hO1005⟩
  clear hr1005 hf1005 hcx1005
  have S1005 := S1004.addT hO1005 hB1005
  clear hB1005 hO1005
  clear S1004
  go_wp2_with fail
  refine (toRunS_any a1 len1 cap1 z1 _ HL1.out (S1005.arg HR1.out) (by omega)).mono ?_
  rintro e u1006 ⟨A1006, c1006, rfl, ⟨hc1006, hcx1006⟩, hr1006, hB1006, hf1006, hO1006⟩
  clear hr1006 hf1006 hcx1006
  have S1006 := S1005.addT hO1006 hB1006
  clear hB1006 hO1006
  clear S1005
  go_wp2_with fail
  refine (HS.out A1005 c1005 A1006 c1006 _ (S1006.rdsT (lo := u1004.heap.size) (hi := u1005.heap.size) (A := A1005) (E := 75) (C := 3) (n := len0) (m := len0) (c := c1005) (by simp)) hc1005 (S1006.rdsT (lo := u1005.heap.size) (hi := u1006.heap.size) (A := A1006) (E := 75) (C := 3) (n := len1) (m := len1) (c := c1006) (by simp)) hc1006).mono ?_
  rintro e u1007 ⟨v1007, rfl, hO1007, hB1007⟩
  obtain ⟨A1007, c1007, rfl, hc1007⟩ := OwnT.slice hO1007
  have S1007 := S1006.addT hO1007 hB1007
  clear hB1007 hO1007
  clear S1006
  go_wp2_with fail
  refine (toRunS_any a0 len0 cap0 z0 _ HL0.out (S1007.arg HR0.out) (by omega)).mono ?_
  rintro e u1008 ⟨A1008, c1008, rfl, ⟨hc1008, hcx1008⟩, hr1008, hB1008, hf1008, hO1008⟩
  clear hr1008 hf1008 hcx1008
  have S1008 := S1007.addT hO1008 hB1008
  clear hB1008 hO1008
  clear S1007
  go_wp2_with fail
  refine (toRunS_any a1 len1 cap1 z1 _ HL1.out (S1008.arg HR1.out) (by omega)).mono ?_
  rintro e u1009 ⟨A1009, c1009, rfl, ⟨hc1009, hcx1009⟩, hr1009, hB1009, hf1009, hO1009⟩
  clear hr1009 hf1009 hcx1009
  have S1009 := S1008.addT hO1009 hB1009
  clear hB1009 hO1009
  clear S1008
  go_wp2_with fail
  refine (HI.out A1008 c1008 A1009 c1009 _ (S1009.rdsT (lo := u1007.heap.size) (hi := u1008.heap.size) (A := A1008) (E := 75) (C := 3) (n := len0) (m := len0) (c := c1008) (by simp)) hc1008 (S1009.rdsT (lo := u1008.heap.size) (hi := u1009.heap.size) (A := A1009) (E := 75) (C := 3) (n := len1) (m := len1) (c := c1009) (by simp)) hc1009).mono ?_
  rintro e u1010 ⟨v1010, rfl, hO1010, hB1010⟩
  obtain ⟨A1010, c1010, rfl, hc1010⟩ := OwnT.slice hO1010
  have S1010 := S1009.addT hO1010 hB1010
  clear hB1010 hO1010
  clear S1009
  go_wp2_with fail
  refine (eqRunS_same A1010 A1007 RN c1010 c1007 RX _ _ _ HRL.out (S1010.rdsT (lo := u1009.heap.size) (hi := u1010.heap.size) (A := A1010) (E := 75) (C := 3) (n := RN) (m := RN) (c := c1010) (by simp)) (S1010.rdsT (lo := u1006.heap.size) (hi := u1007.heap.size) (A := A1007) (E := 75) (C := 3) (n := RN) (m := RN) (c := c1007) (by simp)) (Nat.le_refl _) (Nat.le_refl _) (by omega)).mono ?_
  rintro e u1011 ⟨rfl, hB1011⟩
  have S1011 := S1010.call hB1011
  clear hB1011
  clear S1010
  go_wp2_with fail
  refine (toRunS_any a0 len0 cap0 z0 _ HL0.out (S1011.arg HR0.out) (by omega)).mono ?_
  rintro e u1012 ⟨A1012, c1012, rfl, ⟨hc1012, hcx1012⟩, hr1012, hB1012, hf1012, hO1012⟩
  clear hr1012 hf1012 hcx1012
  have S1012 := S1011.addT hO1012 hB1012
  clear hB1012 hO1012
  clear S1011
  go_wp2_with fail
  refine (eqRunS_same A1008 A1012 len0 c1008 c1012 z0 _ _ _ HL0.out (S1012.rdsT (lo := u1007.heap.size) (hi := u1008.heap.size) (A := A1008) (E := 75) (C := 3) (n := len0) (m := len0) (c := c1008) (by simp)) (S1012.rdsT (lo := u1011.heap.size) (hi := u1012.heap.size) (A := A1012) (E := 75) (C := 3) (n := len0) (m := len0) (c := c1012) (by simp)) (Nat.le_refl _) (Nat.le_refl _) (by omega)).mono ?_
  rintro e u1013 ⟨rfl, hB1013⟩
  have S1013 := S1012.call hB1013
  clear hB1013
  clear S1012
  go_wp2_with fail
  refine (toRunS_any a1 len1 cap1 z1 _ HL1.out (S1013.arg HR1.out) (by omega)).mono ?_
  rintro e u1014 ⟨A1014, c1014, rfl, ⟨hc1014, hcx1014⟩, hr1014, hB1014, hf1014, hO1014⟩
  clear hr1014 hf1014 hcx1014
  have S1014 := S1013.addT hO1014 hB1014
  clear hB1014 hO1014
  clear S1013
  go_wp2_with fail
  refine (eqRunS_same A1009 A1014 len1 c1009 c1014 z1 _ _ _ HL1.out (S1014.rdsT (lo := u1008.heap.size) (hi := u1009.heap.size) (A := A1009) (E := 75) (C := 3) (n := len1) (m := len1) (c := c1009) (by simp)) (S1014.rdsT (lo := u1013.heap.size) (hi := u1014.heap.size) (A := A1014) (E := 75) (C := 3) (n := len1) (m := len1) (c := c1014) (by simp)) (Nat.le_refl _) (Nat.le_refl _) (by omega)).mono ?_
  rintro e u1015 ⟨rfl, hB1015⟩
  have S1015 := S1014.call hB1015
  clear hB1015
  clear S1014
  go_wp2_with fail
  obtain ⟨K1016, HK1016⟩ : ∃ K : Int, Hid (K = 1 + ((len0 * 3 : Nat) : Int)) := ⟨_, Lib.hid rfl⟩
  have hK1016 : 0 ≤ K1016 ∧ K1016 ≤ 8000001 := by have := HK1016.out; omega
  refine (markRunS_any (.slice A1008 len0 c1008) u1007.heap.size len0 z0 1 _ (S1015.ownT (lo := u1007.heap.size) (hi := u1008.heap.size) (by simp)) (by omega) (by omega) (by omega)).mono ?_
  rintro e u1016 ⟨he, hO1016, hG1016, _⟩
  rw [← HK1016.out] at he
  subst he
  have S1016 := GS.markT (L1 := [rt 75 3 u1013.heap.size u1014.heap.size (.slice A1014 len1 c1014) len1 z1, rt 75 3 u1011.heap.size u1012.heap.size (.slice A1012 len0 c1012) len0 z0, rt 75 3 u1009.heap.size u1010.heap.size (.slice A1010 RN c1010) RN RX, rt 75 3 u1008.heap.size u1009.heap.size (.slice A1009 len1 c1009) len1 z1]) (L2 := [rt 75 3 u1006.heap.size u1007.heap.size (.slice A1007 RN c1007) RN RX, rt 75 3 u1005.heap.size u1006.heap.size (.slice A1006 len1 c1006) len1 z1, rt 75 3 u1004.heap.size u1005.heap.size (.slice A1005 len0 c1005) len0 z0]) (E := 75) (C := 3) (lo := u1007.heap.size) (hi := u1008.heap.size) (v := .slice A1008 len0 c1008) (n := len0) (xs := z0) (ys := marks 1 (len0 * 3)) S1015 hO1016 hG1016
  clear hO1016 hG1016
  clear S1015
  go_wp2_with fail
  obtain ⟨K1017, HK1017⟩ : ∃ K : Int, Hid (K = K1016 + ((len1 * 3 : Nat) : Int)) := ⟨_, Lib.hid rfl⟩
  have hK1017 : 0 ≤ K1017 ∧ K1017 ≤ 16000001 := by have := HK1017.out; omega
  refine (markRunS_any (.slice A1009 len1 c1009) u1008.heap.size len1 z1 K1016 _ (S1016.ownT (lo := u1008.heap.size) (hi := u1009.heap.size) (by simp)) (by omega) (by omega) (by omega)).mono ?_
  rintro e u1017 ⟨he, hO1017, hG1017, _⟩
  rw [← HK1017.out] at he
  subst he
  have S1017 := GS.markT (L1 := [rt 75 3 u1013.heap.size u1014.heap.size (.slice A1014 len1 c1014) len1 z1, rt 75 3 u1011.heap.size u1012.heap.size (.slice A1012 len0 c1012) len0 z0, rt 75 3 u1009.heap.size u1010.heap.size (.slice A1010 RN c1010) RN RX]) (L2 := [rt 75 3 u1007.heap.size u1008.heap.size (.slice A1008 len0 c1008) len0 (marks 1 (len0 * 3)), rt 75 3 u1006.heap.size u1007.heap.size (.slice A1007 RN c1007) RN RX, rt 75 3 u1005.heap.size u1006.heap.size (.slice A1006 len1 c1006) len1 z1, rt 75 3 u1004.heap.size u1005.heap.size (.slice A1005 len0 c1005) len0 z0]) (E := 75) (C := 3) (lo := u1008.heap.size) (hi := u1009.heap.size) (v := .slice A1009 len1 c1009) (n := len1) (xs := z1) (ys := marks K1016 (len1 * 3)) S1016 hO1017 hG1017
  clear hO1017 hG1017
  clear S1016
  go_wp2_with fail
  refine (eqRunS_same A1010 A1007 RN c1010 c1007 RX _ _ _ HRL.out (S1017.rdsT (lo := u1009.heap.size) (hi := u1010.heap.size) (A := A1010) (E := 75) (C := 3) (n := RN) (m := RN) (c := c1010) (by simp)) (S1017.rdsT (lo := u1006.heap.size) (hi := u1007.heap.size) (A := A1007) (E := 75) (C := 3) (n := RN) (m := RN) (c := c1007) (by simp)) (Nat.le_refl _) (Nat.le_refl _) (by omega)).mono ?_
  rintro e u1018 ⟨rfl, hB1018⟩
  have S1018 := S1017.call hB1018
  clear hB1018
  clear S1017
  go_wp2_with fail
  obtain ⟨K1019, HK1019⟩ : ∃ K : Int, Hid (K = 1 + ((RN * 3 : Nat) : Int)) := ⟨_, Lib.hid rfl⟩
  have hK1019 : 0 ≤ K1019 ∧ K1019 ≤ 8000001 := by have := HK1019.out; omega
  refine (markRunS_any (.slice A1010 RN c1010) u1009.heap.size RN RX 1 _ (S1018.ownT (lo := u1009.heap.size) (hi := u1010.heap.size) (by simp)) (by omega) (by omega) (by omega)).mono ?_
  rintro e u1019 ⟨he, hO1019, hG1019, _⟩
  rw [← HK1019.out] at he
  subst he
  have S1019 := GS.markT (L1 := [rt 75 3 u1013.heap.size u1014.heap.size (.slice A1014 len1 c1014) len1 z1, rt 75 3 u1011.heap.size u1012.heap.size (.slice A1012 len0 c1012) len0 z0]) (L2 := [rt 75 3 u1008.heap.size u1009.heap.size (.slice A1009 len1 c1009) len1 (marks K1016 (len1 * 3)), rt 75 3 u1007.heap.size u1008.heap.size (.slice A1008 len0 c1008) len0 (marks 1 (len0 * 3)), rt 75 3 u1006.heap.size u1007.heap.size (.slice A1007 RN c1007) RN RX, rt 75 3 u1005.heap.size u1006.heap.size (.slice A1006 len1 c1006) len1 z1, rt 75 3 u1004.heap.size u1005.heap.size (.slice A1005 len0 c1005) len0 z0]) (E := 75) (C := 3) (lo := u1009.heap.size) (hi := u1010.heap.size) (v := .slice A1010 RN c1010) (n := RN) (xs := RX) (ys := marks 1 (RN * 3)) S1018 hO1019 hG1019
  clear hO1019 hG1019
  clear S1018
  go_wp2_with fail
  refine (heldRunS_any A1010 RN c1010 _ 1 _ (S1019.rdsT (lo := u1009.heap.size) (hi := u1010.heap.size) (A := A1010) (E := 75) (C := 3) (n := RN) (m := RN) (c := c1010) (by simp)) (by omega) (by omega) (by omega)).mono ?_
  rintro e u1020 ⟨he, rfl⟩
  rw [← HK1019.out] at he
  subst he
  go_wp2_with fail
  refine (toRunS_any a0 len0 cap0 z0 _ HL0.out (S1019.arg HR0.out) (by omega)).mono ?_
  rintro e u1021 ⟨A1021, c1021, rfl, ⟨hc1021, hcx1021⟩, hr1021, hB1021, hf1021, hO1021⟩
  clear hr1021 hf1021 hcx1021
  have S1021 := S1019.addT hO1021 hB1021
  clear hB1021 hO1021
  clear S1019
  go_wp2_with fail
  refine (toRunS_any a1 len1 cap1 z1 _ HL1.out (S1021.arg HR1.out) (by omega)).mono ?_
  rintro e u1022 ⟨A1022, c1022, rfl, ⟨hc1022, hcx1022⟩, hr1022, hB1022, hf1022, hO1022⟩
  clear hr1022 hf1022 hcx1022
  have S1022 := S1021.addT hO1022 hB1022
  clear hB1022 hO1022
  clear S1021
  go_wp2_with fail
  refine (HI.out A1021 c1021 A1022 c1022 _ (S1022.rdsT (lo := u1019.heap.size) (hi := u1021.heap.size) (A := A1021) (E := 75) (C := 3) (n := len0) (m := len0) (c := c1021) (by simp)) hc1021 (S1022.rdsT (lo := u1021.heap.size) (hi := u1022.heap.size) (A := A1022) (E := 75) (C := 3) (n := len1) (m := len1) (c := c1022) (by simp)) hc1022).mono ?_
  rintro e u1023 ⟨v1023, rfl, hO1023, hB1023⟩
  obtain ⟨A1023, c1023, rfl, hc1023⟩ := OwnT.slice hO1023
  have S1023 := S1022.addT hO1023 hB1023
  clear hB1023 hO1023
  clear S1022
  go_wp2_with fail
  refine (eqRunS_same A1023 A1007 RN c1023 c1007 RX _ _ _ HRL.out (S1023.rdsT (lo := u1022.heap.size) (hi := u1023.heap.size) (A := A1023) (E := 75) (C := 3) (n := RN) (m := RN) (c := c1023) (by simp)) (S1023.rdsT (lo := u1006.heap.size) (hi := u1007.heap.size) (A := A1007) (E := 75) (C := 3) (n := RN) (m := RN) (c := c1007) (by simp)) (Nat.le_refl _) (Nat.le_refl _) (by omega)).mono ?_
  rintro e u1024 ⟨rfl, hB1024⟩
  have S1024 := S1023.call hB1024
  clear hB1024
  clear S1023
  go_wp2_with fail
  refine (heldRunS_any A1010 RN c1010 _ 1 _ (S1024.rdsT (lo := u1009.heap.size) (hi := u1010.heap.size) (A := A1010) (E := 75) (C := 3) (n := RN) (m := RN) (c := c1010) (by simp)) (by omega) (by omega) (by omega)).mono ?_
  rintro e u1025 ⟨he, rfl⟩
  rw [← HK1019.out] at he
  subst he
  go_wp2
  go_ret
  exact ⟨rfl, S1024.below⟩

/-! ### From the walk to the statement. -/
theorem own : ownKnob Try.prog.godebug = none := by kernel_rfl
theorem laidOut : laidOutB Try.prog = true := by kernel_rfl
set_option maxRecDepth 100000 in
theorem lifted (os : Os) (started : os.Started) (H : Type) (enc : TypeId × Value → H) :
    ReturnsInHanded {} Try.checked os 5 .any (Rows.fnExactCombineRegionsSpec.pre6 enc Try.prog Try.f5 Rows.fnExactCombineRegionsRow.domain false) (Rows.fnExactCombineRegionsSpec.post enc Try.prog Try.f5 false true false false) := by
  refine returnsInHanded_of_change (C := Try.checked) own started (by kernel_rfl) Try.func5
    (ChangeSpec.witness6 (enc := enc) (C := Try.checked) false ⟨#[], #[.slice none 0 0, .slice none 0 0, .int .i64 0], []⟩ 8 (by kernel_rfl) (by kernel_rfl) (by kernel_rfl) (by kernel_rfl)) ?_
  intro W base args ds gs before hval0 hW hcnd _
  have hval : ∀ (j : Nat) t v, Try.f5.params[j]? = some t → args[j]? = some v → Value.okWide Try.prog W .any base t v := hval0
  have hW' := hW
  obtain ⟨p, q, hA0, hV, rfl, hfz, hnd⟩ := hW
  have hA : DataW.TrodAll enc Try.prog W 0 (fun _ => true) true Try.f5.params.toList args.toList ds p := hA0
  rw [Try.params5] at hA hval
  obtain ⟨v0, vs0, d0, ds0, p0, q0, hargs, rfl, rfl, h0, r0⟩ := trodAll_cons hA
  obtain ⟨v1, vs1, d1, ds1, p1, q1, rfl, rfl, rfl, h1, r1⟩ := trodAll_cons r0
  obtain ⟨v2, vs2, d2, ds2, p2, q2, rfl, rfl, rfl, h2, r2⟩ := trodAll_cons r1
  obtain ⟨rfl, rfl, rfl⟩ := trodAll_nil r2
  obtain rfl : args = #[v0, v1, v2] := by cases args; simp_all
  obtain ⟨rfl, rfl⟩ := trodVars_none hV
  obtain ⟨a0, len0, cap0, rfl⟩ := okWide_slice Try.underlying37 (hval 0 37 v0 rfl rfl)
  have k0 := h0
  have lt0 : ∀ x ∈ p0, x.block < W.heap.size := by obtain ⟨m, hm⟩ := k0; exact DataW.trod_lt m _ _ _ hm
  obtain ⟨z0, hl0, hc0, hm0, w0, f0⟩ : ∃ zs : List Int, zs.length = 3 * len0 ∧ len0 ≤ cap0 ∧ cap0 ≤ maxLen ∧ Rds .i64 W W.heap.size a0 zs ∧ ∀ n ∈ zs, (Lit.int .i64 n).wf = true := by
    obtain ⟨fuel, hf⟩ := h0
    obtain ⟨A, l, c, zs, hcs, r⟩ := open_flat (C := 3) Try.underlying37 Try.underlying80 Try.underlying3 (by decide) rfl (by kernel_rfl) (by kernel_rfl) (by intro q f hq; rcases q with _ | _ | _ | q <;> simp at hq <;> (subst hq; exact ⟨rfl, rfl⟩)) hf
    simp [Value.cells] at hcs
    obtain ⟨rfl, rfl, rfl⟩ := hcs
    exact ⟨zs, r⟩
  obtain ⟨a1, len1, cap1, rfl⟩ := okWide_slice Try.underlying37 (hval 1 37 v1 rfl rfl)
  have k1 := h1
  have lt1 : ∀ x ∈ p1, x.block < W.heap.size := by obtain ⟨m, hm⟩ := k1; exact DataW.trod_lt m _ _ _ hm
  obtain ⟨z1, hl1, hc1, hm1, w1, f1⟩ : ∃ zs : List Int, zs.length = 3 * len1 ∧ len1 ≤ cap1 ∧ cap1 ≤ maxLen ∧ Rds .i64 W W.heap.size a1 zs ∧ ∀ n ∈ zs, (Lit.int .i64 n).wf = true := by
    obtain ⟨fuel, hf⟩ := h1
    obtain ⟨A, l, c, zs, hcs, r⟩ := open_flat (C := 3) Try.underlying37 Try.underlying80 Try.underlying3 (by decide) rfl (by kernel_rfl) (by kernel_rfl) (by intro q f hq; rcases q with _ | _ | _ | q <;> simp at hq <;> (subst hq; exact ⟨rfl, rfl⟩)) hf
    simp [Value.cells] at hcs
    obtain ⟨rfl, rfl, rfl⟩ := hcs
    exact ⟨zs, r⟩
  obtain ⟨a2, rfl, rfl, rfl, w2⟩ := open_int Try.underlying3 (hval 2 3 v2 rfl rfl) h2
  clear hA0 hval0
  refine (walk W a0 len0 cap0 z0 hl0 hc0 hm0 w0 f0 a1 len1 cap1 z1 hl1 hc1 hm1 w1 f1 a2 w2).mono fun e W' ⟨he, bel⟩ => ?_
  subst he
  exact ⟨_, rfl, _, _, _, [], _, [], hW', trodAll_mk1 (shut_bool Try.underlying4 _), (trodAll_cons_mk (Below.trod laidOut (by kernel_rfl) (of_decide_eq_true (by kernel_rfl)) k0 bel lt0) (trodAll_cons_mk (Below.trod laidOut (by kernel_rfl) (of_decide_eq_true (by kernel_rfl)) k1 bel lt1) (trodAll_cons_mk (shut_int Try.underlying3 w2) trodAll_mk0))), rfl, bel.frame _, fun h => by cases h⟩

theorem over : Rows.fnExactCombineRegionsRow.holds Try.pinned (OpenSpec.ofChange Rows.fnExactCombineRegionsSpec) :=
  OpenClaim.holds_of_wide 5 Try.f5 rfl rfl rfl rfl rfl rfl rfl ⟨rfl, rfl, rfl, rfl, rfl⟩ rfl rfl rfl rfl rfl (by kernel_rfl) Try.func5 (by kernel_rfl)
    (of_decide_eq_true (by kernel_rfl)) (by unfold Func.isWrapper; first | (rw [if_pos (by decide +kernel)]; kernel_rfl) | (rw [if_neg (by decide +kernel)]; exact ⟨rfl, rfl⟩))
    (fun os started H enc _ => lifted os started H enc)

theorem proved : Rows.FnExactCombineRegionsSaid := over
end Go.Proofs.Ytjekhlhnjknbeaa.fnExactCombineRegions
