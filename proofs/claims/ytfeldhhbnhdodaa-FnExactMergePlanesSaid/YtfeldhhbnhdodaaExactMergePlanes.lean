/- MergePlanes of the program answers what the model answers, for every list of images; it writes into no argument, and its answer owns its memory. -/
import Derived.Test.YtfeldhhbnhdodaaRows
import Derived.WalkKit
import Derived.ProofKit
import Derived.OpenShut
import Derived.ShutString
import Derived.ChangeOld
import Derived.Below
import Derived.Lib.SmallJoins
import Derived.Test.YtfeldhhbnhdodaaGen
import Derived.Test.YtfeldhhbnhdodaaSz
import Derived.Deep.Cut
import Derived.Deep.RegionHeld3
import Derived.Test.YtfeldhhbnhdodaaPlnL
import Derived.Test.YtfeldhhbnhdodaaIStM
import Derived.Test.YtfeldhhbnhdodaaImlO
import Derived.Test.YtfeldhhbnhdodaaImlM
namespace Go.Proofs.Ytfeldhhbnhdodaa.fnExactMergePlanes
open Go.ChangeShapes Go.WideShapes Go.ChangeAt Go.RowKit
open Go.ChangeMaps (open_string shut_string)
set_option linter.unusedVariables false

def FC (f : FuncId) (z0 : List Imv) (R1 R2 R3 : Int) (RX : List Int) (o1 : Bool) : Prop :=
  ∀ (A0 : Option Addr) (c0 : Nat) (w : World), Rdim w w.heap.size A0 z0 → z0.length ≤ c0 → Calls Try.prog f #[.slice A0 z0.length c0] w fun e w' => ∃ v, e = .returned (.tuple #[.agg #[.int .i64 R1, .int .i64 R2, .int .i64 R3, v], .bool o1]) ∧ Own w' w.heap.size v RX ∧ Below w.heap.size w w'
set_option maxHeartbeats 16000000 in
set_option maxRecDepth 8000 in
theorem walk (w : World) (a0 : Option Addr) (cap0 : Nat) (z0 : List Imv) (hc0 : z0.length ≤ cap0) (hm0 : z0.length ≤ maxLen) (w0 : Rdim w w.heap.size a0 z0) (f0 : ∀ i, i < z0.length → (imv z0 i).ds.length ≤ maxLen) :
    Calls Try.prog 7 #[.slice a0 z0.length cap0] w fun e w' => e = .returned (.bool true) ∧ Below w.heap.size w w' := by
  unfold maxLen at hm0 f0
  have HR0 := Lib.hid w0
  have HF0 := Lib.hid f0
  clear w0 f0
  have S0 : GS w w [] [] := GS.start w
  go_enter Try.func7, Try.ntmps7
  go_wp2_with fail
  by_cases hs1001 : (1048576 : Int) < (totI z0 : Nat)
  · refine (szImageS_gt a0 cap0 z0 (1048576) _ (S0.argIM HR0.out) (by omega) (by omega) hs1001 (by omega) (fun i hi => Nat.le_trans (HF0.out i hi) (by decide))).mono ?_
    rintro e uz ⟨rfl, hBz⟩
    have HSz := Lib.hid (S0.call hBz)
    clear hBz
    go_wp2
    go_ret
    exact ⟨rfl, HSz.out.below⟩
  obtain ⟨K1002, HK1002⟩ : ∃ K : Int, Hid (K = 1048576 - ((totI z0 : Nat) : Int)) := ⟨_, Lib.hid rfl⟩
  have hK1002 : 0 ≤ K1002 ∧ K1002 ≤ 1048576 := by have := HK1002.out; omega
  have hb0 : totI z0 ≤ 1048576 := by omega
  refine (szImageS_le a0 cap0 z0 (1048576) _ (S0.argIM HR0.out) (by omega) (by omega) (by omega)).mono ?_
  rintro e u1002 ⟨he, hB1002⟩
  rw [← HK1002.out] at he
  subst he
  have S1002 := S0.call hB1002
  clear hB1002
  clear S0
  obtain ⟨R1, R2, R3, RX, o1, hRX, HI, HS⟩ : ∃ (R1 R2 R3 : Int) (RX : List Int) (o1 : Bool), RX.length ≤ 2000000 ∧ Hid (FC 12 z0 R1 R2 R3 RX o1) ∧ Hid (FC 15 z0 R1 R2 R3 RX o1) :=
      ⟨_, _, _, _, _, mgL_bd, Lib.hid (fun A c w hx hc => i_MergePlanes A c _ z0 rfl w hx (by unfold totI at *; omega) (fun i hi => Nat.le_trans (len_le_totI hi) (by omega))), Lib.hid (fun A c w hx hc => s_MergePlanes A c _ z0 rfl w hx (by unfold totI at *; omega) (fun i hi => Nat.le_trans (len_le_totI hi) (by omega)))⟩
  go_wp2_with fail
  refine (toImageS_any a0 cap0 z0 _ (S1002.argIM HR0.out) (by omega)).mono ?_
  rintro e u1003 ⟨M1003, A1003, c1003, rfl, hc1003, hM1003, hB1003⟩
  have S1003 := S1002.addM hB1003
  clear hB1003
  clear S1002
  go_wp2_with fail
  refine (HS.out A1003 c1003 _ (ImM.rds S1003 hM1003 (fun t ht => by simp [ht])) hc1003).mono ?_
  rintro e u1004 ⟨v1004, rfl, hO1004, hB1004⟩
  obtain ⟨A1004, c1004, rfl, hc1004⟩ := hO1004.slice
  have S1004 := S1003.add hO1004 hB1004
  clear hB1004 hO1004
  clear S1003
  have S1005 : GS w (u1004.alloc (.cells #[.int .i64 R1, .int .i64 R2, .int .i64 R3, .slice A1004 RX.length c1004] 25)) (ri u1003.heap.size u1004.heap.size (.slice A1004 RX.length c1004) RX :: (M1003 ++ [])) [⟨u1004.heap.size, 25, #[.int .i64 R1, .int .i64 R2, .int .i64 R3, .slice A1004 RX.length c1004]⟩] := GS.box S1004 25 #[.int .i64 R1, .int .i64 R2, .int .i64 R3, .slice A1004 RX.length c1004]
  go_wp2_with fail
  clear S1004
  generalize u1004.alloc (.cells #[.int .i64 R1, .int .i64 R2, .int .i64 R3, .slice A1004 RX.length c1004] 25) = u1005 at *
  refine (toImageS_any a0 cap0 z0 _ (S1005.argIM HR0.out) (by omega)).mono ?_
  rintro e u1006 ⟨M1006, A1006, c1006, rfl, hc1006, hM1006, hB1006⟩
  have S1006 := S1005.addM hB1006
  clear hB1006
  clear S1005
  go_wp2_with fail
  refine (HI.out A1006 c1006 _ (ImM.rds S1006 hM1006 (fun t ht => by simp [ht])) hc1006).mono ?_
  rintro e u1007 ⟨v1007, rfl, hO1007, hB1007⟩
  obtain ⟨A1007, c1007, rfl, hc1007⟩ := hO1007.slice
  have S1007 := S1006.add hO1007 hB1007
  clear hB1007 hO1007
  clear S1006
  obtain ⟨w00, w01, w02, w03⟩ := S1007.c4 (g := u1004.heap.size) (T := 25) (a0 := .int .i64 R1) (a1 := .int .i64 R2) (a2 := .int .i64 R3) (a3 := .slice A1004 RX.length c1004) (by simp)
  have w0l := S1007.lt (g := u1004.heap.size) (T := 25) (cs := #[.int .i64 R1, .int .i64 R2, .int .i64 R3, .slice A1004 RX.length c1004]) (by simp)
  have S1008 : GS w (u1007.alloc (.cells #[.int .i64 R1, .int .i64 R2, .int .i64 R3, .slice A1007 RX.length c1007] 25)) (ri u1006.heap.size u1007.heap.size (.slice A1007 RX.length c1007) RX :: (M1006 ++ (ri u1003.heap.size u1004.heap.size (.slice A1004 RX.length c1004) RX :: (M1003 ++ [])))) [⟨u1007.heap.size, 25, #[.int .i64 R1, .int .i64 R2, .int .i64 R3, .slice A1007 RX.length c1007]⟩, ⟨u1004.heap.size, 25, #[.int .i64 R1, .int .i64 R2, .int .i64 R3, .slice A1004 RX.length c1004]⟩] := GS.box S1007 25 #[.int .i64 R1, .int .i64 R2, .int .i64 R3, .slice A1007 RX.length c1007]
  go_wp2_with fail
  clear w00 w01 w02 w03 w0l
  clear S1007
  generalize u1007.alloc (.cells #[.int .i64 R1, .int .i64 R2, .int .i64 R3, .slice A1007 RX.length c1007] 25) = u1008 at *
  refine (eqImage_same R1 R2 R3 A1007 A1004 c1007 c1004 _ _ RX _ rfl rfl (S1008.rds (lo := u1006.heap.size) (hi := u1007.heap.size) (A := A1007) (n := RX.length) (c := c1007) (by simp)) (S1008.rds (lo := u1003.heap.size) (hi := u1004.heap.size) (A := A1004) (n := RX.length) (c := c1004) (by simp)) (by omega)).mono ?_
  rintro e u1009 ⟨rfl, hB1009⟩
  have S1009 := S1008.call hB1009
  clear hB1009
  clear S1008
  go_wp2_with fail
  refine (toImageS_any a0 cap0 z0 _ (S1009.argIM HR0.out) (by omega)).mono ?_
  rintro e u1010 ⟨M1010, A1010, c1010, rfl, hc1010, hM1010, hB1010⟩
  have S1010 := S1009.addM hB1010
  clear hB1010
  clear S1009
  go_wp2_with fail
  refine (eqImageS_tot A1006 A1010 c1006 c1010 _ _ z0 _ rfl rfl (ImM.rds S1010 hM1006 (fun t ht => by simp [ht])) (ImM.rds S1010 hM1010 (fun t ht => by simp [ht])) (by omega)).mono ?_
  rintro e u1011 ⟨rfl, hB1011⟩
  have S1011 := S1010.call hB1011
  clear hB1011
  clear S1010
  go_wp2_with fail
  obtain ⟨K1012, HK1012⟩ : ∃ K : Int, Hid (K = 1 + ((ofI z0 z0.length : Nat) : Int)) := ⟨_, Lib.hid rfl⟩
  have hK1012 : 0 ≤ K1012 ∧ K1012 ≤ 8000001 := by have := HK1012.out; have hz := ofI_tot z0; omega
  have SM1012 : GS w u1011 ((M1010 ++ (ri u1006.heap.size u1007.heap.size (.slice A1007 RX.length c1007) RX :: [])) ++ M1006 ++ (ri u1003.heap.size u1004.heap.size (.slice A1004 RX.length c1004) RX :: (M1003 ++ []))) [⟨u1007.heap.size, 25, #[.int .i64 R1, .int .i64 R2, .int .i64 R3, .slice A1007 RX.length c1007]⟩, ⟨u1004.heap.size, 25, #[.int .i64 R1, .int .i64 R2, .int .i64 R3, .slice A1004 RX.length c1004]⟩] := by simpa only [List.append_assoc, List.cons_append, List.nil_append, List.append_nil] using S1011
  refine (markImageS_tot (L1 := (M1010 ++ (ri u1006.heap.size u1007.heap.size (.slice A1007 RX.length c1007) RX :: []))) (L2 := (ri u1003.heap.size u1004.heap.size (.slice A1004 RX.length c1004) RX :: (M1003 ++ []))) (M := M1006) A1006 c1006 _ z0 rfl 1 _ SM1012 hM1006 (by omega) (by omega) (by omega)).mono ?_
  rintro e u1012 ⟨he, M1012, hM1012, hS1012⟩
  rw [← HK1012.out] at he
  subst he
  have S1012 : GS w u1012 (M1010 ++ (ri u1006.heap.size u1007.heap.size (.slice A1007 RX.length c1007) RX :: (M1012 ++ (ri u1003.heap.size u1004.heap.size (.slice A1004 RX.length c1004) RX :: (M1003 ++ []))))) [⟨u1007.heap.size, 25, #[.int .i64 R1, .int .i64 R2, .int .i64 R3, .slice A1007 RX.length c1007]⟩, ⟨u1004.heap.size, 25, #[.int .i64 R1, .int .i64 R2, .int .i64 R3, .slice A1004 RX.length c1004]⟩] := by simpa only [List.append_assoc, List.cons_append, List.nil_append, List.append_nil] using hS1012
  clear hS1012 SM1012
  clear S1011
  obtain ⟨g00, g01, g02, g03⟩ := S1012.c4 (g := u1007.heap.size) (T := 25) (a0 := .int .i64 R1) (a1 := .int .i64 R2) (a2 := .int .i64 R3) (a3 := .slice A1007 RX.length c1007) (by simp)
  have g0l := S1012.lt (g := u1007.heap.size) (T := 25) (cs := #[.int .i64 R1, .int .i64 R2, .int .i64 R3, .slice A1007 RX.length c1007]) (by simp)
  obtain ⟨w00, w01, w02, w03⟩ := S1012.c4 (g := u1004.heap.size) (T := 25) (a0 := .int .i64 R1) (a1 := .int .i64 R2) (a2 := .int .i64 R3) (a3 := .slice A1004 RX.length c1004) (by simp)
  have w0l := S1012.lt (g := u1004.heap.size) (T := 25) (cs := #[.int .i64 R1, .int .i64 R2, .int .i64 R3, .slice A1004 RX.length c1004]) (by simp)
  go_wp2_with fail
  refine (eqImage_same R1 R2 R3 A1007 A1004 c1007 c1004 _ _ RX _ rfl rfl (S1012.rds (lo := u1006.heap.size) (hi := u1007.heap.size) (A := A1007) (n := RX.length) (c := c1007) (by simp)) (S1012.rds (lo := u1003.heap.size) (hi := u1004.heap.size) (A := A1004) (n := RX.length) (c := c1004) (by simp)) (by omega)).mono ?_
  rintro e u1013 ⟨rfl, hB1013⟩
  have S1013 := S1012.call hB1013
  clear g00 g01 g02 g03 g0l w00 w01 w02 w03 w0l
  clear hB1013
  clear S1012
  obtain ⟨g00, g01, g02, g03⟩ := S1013.c4 (g := u1007.heap.size) (T := 25) (a0 := .int .i64 R1) (a1 := .int .i64 R2) (a2 := .int .i64 R3) (a3 := .slice A1007 RX.length c1007) (by simp)
  have g0l := S1013.lt (g := u1007.heap.size) (T := 25) (cs := #[.int .i64 R1, .int .i64 R2, .int .i64 R3, .slice A1007 RX.length c1007]) (by simp)
  go_wp2_with fail
  obtain ⟨K1014, HK1014⟩ : ∃ K : Int, Hid (K = 1 + ((RX.length : Nat) : Int)) := ⟨_, Lib.hid rfl⟩
  have hK1014 : 0 ≤ K1014 ∧ K1014 ≤ 8000001 := by have := HK1014.out; omega
  refine (markImage_any R1 R2 R3 (.slice A1007 RX.length c1007) u1006.heap.size RX 1 _ (S1013.own (lo := u1006.heap.size) (hi := u1007.heap.size) (by simp)) (by omega) (by omega) (by omega)).mono ?_
  rintro e u1014 ⟨he, hO1014, hG1014⟩
  rw [← HK1014.out] at he
  subst he
  have SM1014 : GS w u1013 ((M1010 ++ []) ++ ri u1006.heap.size u1007.heap.size (.slice A1007 RX.length c1007) RX :: (M1012 ++ (ri u1003.heap.size u1004.heap.size (.slice A1004 RX.length c1004) RX :: (M1003 ++ [])))) [⟨u1007.heap.size, 25, #[.int .i64 R1, .int .i64 R2, .int .i64 R3, .slice A1007 RX.length c1007]⟩, ⟨u1004.heap.size, 25, #[.int .i64 R1, .int .i64 R2, .int .i64 R3, .slice A1004 RX.length c1004]⟩] := by simpa only [List.append_assoc, List.cons_append, List.nil_append, List.append_nil] using S1013
  have S1014 := GS.mark (L1 := (M1010 ++ [])) (L2 := (M1012 ++ (ri u1003.heap.size u1004.heap.size (.slice A1004 RX.length c1004) RX :: (M1003 ++ [])))) (lo := u1006.heap.size) (hi := u1007.heap.size) (v := .slice A1007 RX.length c1007) (xs := RX) SM1014 hO1014 (by simp [marks]) hG1014
  have T1014 : GS w u1014 (M1010 ++ (ri u1006.heap.size u1007.heap.size (.slice A1007 RX.length c1007) (marks 1 (RX.length)) :: (M1012 ++ (ri u1003.heap.size u1004.heap.size (.slice A1004 RX.length c1004) RX :: (M1003 ++ []))))) [⟨u1007.heap.size, 25, #[.int .i64 R1, .int .i64 R2, .int .i64 R3, .slice A1007 RX.length c1007]⟩, ⟨u1004.heap.size, 25, #[.int .i64 R1, .int .i64 R2, .int .i64 R3, .slice A1004 RX.length c1004]⟩] := by simpa only [List.append_assoc, List.cons_append, List.nil_append, List.append_nil] using S1014
  clear S1014 SM1014
  have S1014 := T1014
  clear T1014
  clear g00 g01 g02 g03 g0l
  clear hO1014 hG1014
  clear S1013
  obtain ⟨g00, g01, g02, g03⟩ := S1014.c4 (g := u1007.heap.size) (T := 25) (a0 := .int .i64 R1) (a1 := .int .i64 R2) (a2 := .int .i64 R3) (a3 := .slice A1007 RX.length c1007) (by simp)
  have g0l := S1014.lt (g := u1007.heap.size) (T := 25) (cs := #[.int .i64 R1, .int .i64 R2, .int .i64 R3, .slice A1007 RX.length c1007]) (by simp)
  go_wp2_with fail
  refine (heldImage_any R1 R2 R3 A1007 c1007 RX.length 1 _ (S1014.rds (lo := u1006.heap.size) (hi := u1007.heap.size) (A := A1007) (n := RX.length) (c := c1007) (by simp)) (by omega) (by omega) (by omega)).mono ?_
  rintro e u1015 ⟨he, hB1015⟩
  rw [← HK1014.out] at he
  subst he
  have S1015 := S1014.call hB1015
  clear g00 g01 g02 g03 g0l
  clear hB1015
  clear S1014
  go_wp2_with fail
  refine (toImageS_any a0 cap0 z0 _ (S1015.argIM HR0.out) (by omega)).mono ?_
  rintro e u1016 ⟨M1016, A1016, c1016, rfl, hc1016, hM1016, hB1016⟩
  have S1016 := S1015.addM hB1016
  clear hB1016
  clear S1015
  go_wp2_with fail
  refine (HI.out A1016 c1016 _ (ImM.rds S1016 hM1016 (fun t ht => by simp [ht])) hc1016).mono ?_
  rintro e u1017 ⟨v1017, rfl, hO1017, hB1017⟩
  obtain ⟨A1017, c1017, rfl, hc1017⟩ := hO1017.slice
  have S1017 := S1016.add hO1017 hB1017
  clear hB1017 hO1017
  clear S1016
  obtain ⟨w00, w01, w02, w03⟩ := S1017.c4 (g := u1004.heap.size) (T := 25) (a0 := .int .i64 R1) (a1 := .int .i64 R2) (a2 := .int .i64 R3) (a3 := .slice A1004 RX.length c1004) (by simp)
  have w0l := S1017.lt (g := u1004.heap.size) (T := 25) (cs := #[.int .i64 R1, .int .i64 R2, .int .i64 R3, .slice A1004 RX.length c1004]) (by simp)
  have S1018 : GS w (u1017.alloc (.cells #[.int .i64 R1, .int .i64 R2, .int .i64 R3, .slice A1017 RX.length c1017] 25)) (ri u1016.heap.size u1017.heap.size (.slice A1017 RX.length c1017) RX :: (M1016 ++ (M1010 ++ (ri u1006.heap.size u1007.heap.size (.slice A1007 RX.length c1007) (marks 1 (RX.length)) :: (M1012 ++ (ri u1003.heap.size u1004.heap.size (.slice A1004 RX.length c1004) RX :: (M1003 ++ []))))))) [⟨u1017.heap.size, 25, #[.int .i64 R1, .int .i64 R2, .int .i64 R3, .slice A1017 RX.length c1017]⟩, ⟨u1007.heap.size, 25, #[.int .i64 R1, .int .i64 R2, .int .i64 R3, .slice A1007 RX.length c1007]⟩, ⟨u1004.heap.size, 25, #[.int .i64 R1, .int .i64 R2, .int .i64 R3, .slice A1004 RX.length c1004]⟩] := GS.box S1017 25 #[.int .i64 R1, .int .i64 R2, .int .i64 R3, .slice A1017 RX.length c1017]
  go_wp2_with fail
  clear w00 w01 w02 w03 w0l
  clear S1017
  generalize u1017.alloc (.cells #[.int .i64 R1, .int .i64 R2, .int .i64 R3, .slice A1017 RX.length c1017] 25) = u1018 at *
  refine (eqImage_same R1 R2 R3 A1017 A1004 c1017 c1004 _ _ RX _ rfl rfl (S1018.rds (lo := u1016.heap.size) (hi := u1017.heap.size) (A := A1017) (n := RX.length) (c := c1017) (by simp)) (S1018.rds (lo := u1003.heap.size) (hi := u1004.heap.size) (A := A1004) (n := RX.length) (c := c1004) (by simp)) (by omega)).mono ?_
  rintro e u1019 ⟨rfl, hB1019⟩
  have S1019 := S1018.call hB1019
  clear hB1019
  clear S1018
  obtain ⟨g00, g01, g02, g03⟩ := S1019.c4 (g := u1007.heap.size) (T := 25) (a0 := .int .i64 R1) (a1 := .int .i64 R2) (a2 := .int .i64 R3) (a3 := .slice A1007 RX.length c1007) (by simp)
  have g0l := S1019.lt (g := u1007.heap.size) (T := 25) (cs := #[.int .i64 R1, .int .i64 R2, .int .i64 R3, .slice A1007 RX.length c1007]) (by simp)
  go_wp2_with fail
  refine (heldImage_any R1 R2 R3 A1007 c1007 RX.length 1 _ (S1019.rds (lo := u1006.heap.size) (hi := u1007.heap.size) (A := A1007) (n := RX.length) (c := c1007) (by simp)) (by omega) (by omega) (by omega)).mono ?_
  rintro e u1020 ⟨he, hB1020⟩
  rw [← HK1014.out] at he
  subst he
  have S1020 := S1019.call hB1020
  clear g00 g01 g02 g03 g0l
  clear hB1020
  clear S1019
  go_wp2
  go_ret
  exact ⟨rfl, S1020.below⟩

/-! ### From the walk to the statement. -/
theorem own : ownKnob Try.prog.godebug = none := by kernel_rfl
theorem laidOut : laidOutB Try.prog = true := by kernel_rfl
set_option maxRecDepth 100000 in
theorem lifted (os : Os) (started : os.Started) (H : Type) (enc : TypeId × Value → H) :
    ReturnsInHanded {} Try.checked os 7 .any (Rows.fnExactMergePlanesSpec.pre6 enc Try.prog Try.f7 Rows.fnExactMergePlanesRow.domain false) (Rows.fnExactMergePlanesSpec.post enc Try.prog Try.f7 false true false false) := by
  refine returnsInHanded_of_change (C := Try.checked) own started (by kernel_rfl) Try.func7
    (ChangeSpec.witness6 (enc := enc) (C := Try.checked) false ⟨#[], #[.slice none 0 0], []⟩ 8 (by kernel_rfl) (by kernel_rfl) (by kernel_rfl) (by kernel_rfl)) ?_
  intro W base args ds gs before hval0 hW hcnd _
  have hval : ∀ (j : Nat) t v, Try.f7.params[j]? = some t → args[j]? = some v → Value.okWide Try.prog W .any base t v := hval0
  have hW' := hW
  obtain ⟨p, q, hA0, hV, rfl, hfz, hnd⟩ := hW
  have hA : DataW.TrodAll enc Try.prog W 0 (fun _ => true) true Try.f7.params.toList args.toList ds p := hA0
  rw [Try.params7] at hA hval
  obtain ⟨v0, vs0, d0, ds0, p0, q0, hargs, rfl, rfl, h0, r0⟩ := trodAll_cons hA
  obtain ⟨rfl, rfl, rfl⟩ := trodAll_nil r0
  obtain rfl : args = #[v0] := by cases args; simp_all
  obtain ⟨rfl, rfl⟩ := trodVars_none hV
  obtain ⟨a0, len0, cap0, rfl⟩ := okWide_slice Try.underlying42 (hval 0 42 v0 rfl rfl)
  have k0 := h0
  have lt0 : ∀ x ∈ p0, x.block < W.heap.size := by obtain ⟨m, hm⟩ := k0; exact DataW.trod_lt m _ _ _ hm
  obtain ⟨z0, hn0, hc0, hm0, w0, f0⟩ : ∃ zs : List Imv, len0 = zs.length ∧ zs.length ≤ cap0 ∧ zs.length ≤ maxLen ∧ Rdim W W.heap.size a0 zs ∧ ∀ i, i < zs.length → (imv zs i).ds.length ≤ maxLen := by
    obtain ⟨fuel, hf⟩ := h0
    obtain ⟨A, c, zs, hcs, r⟩ := open_images Try.underlying42 Try.underlying36 Try.underlying3 Try.underlying23 rfl (by kernel_rfl) (by kernel_rfl) (by kernel_rfl) (by intro q f hq; rcases q with _ | _ | _ | _ | q <;> simp at hq <;> (subst hq; exact ⟨rfl, rfl⟩)) hf
    simp [Value.cells] at hcs
    obtain ⟨rfl, rfl, rfl⟩ := hcs
    exact ⟨zs, rfl, r⟩
  subst hn0
  clear hA0 hval0
  refine (walk W a0 cap0 z0 hc0 hm0 w0 f0).mono fun e W' ⟨he, bel⟩ => ?_
  subst he
  exact ⟨_, rfl, _, _, _, [], _, [], hW', trodAll_mk1 (shut_bool Try.underlying4 _), (trodAll_cons_mk (Below.trod laidOut (by kernel_rfl) (of_decide_eq_true (by kernel_rfl)) k0 bel lt0) trodAll_mk0), rfl, bel.frame _, fun h => by cases h⟩

theorem over : Rows.fnExactMergePlanesRow.holds Try.pinned (OpenSpec.ofChange Rows.fnExactMergePlanesSpec) :=
  OpenClaim.holds_of_wide 7 Try.f7 rfl rfl rfl rfl rfl rfl rfl ⟨rfl, rfl, rfl, rfl, rfl⟩ rfl rfl rfl rfl rfl (by kernel_rfl) Try.func7 (by kernel_rfl)
    (of_decide_eq_true (by kernel_rfl)) (by unfold Func.isWrapper; first | (rw [if_pos (by decide +kernel)]; kernel_rfl) | (rw [if_neg (by decide +kernel)]; exact ⟨rfl, rfl⟩))
    (fun os started H enc _ => lifted os started H enc)

theorem proved : Rows.FnExactMergePlanesSaid := over
end Go.Proofs.Ytfeldhhbnhdodaa.fnExactMergePlanes
