/- UnfilterImage of the program answers what the model answers, for every width, height and number of planes and every list; it writes into no argument, and its answer owns its memory. -/
import Derived.Test.YtolifmgkkkclkaaRows
import Derived.WalkKit
import Derived.ProofKit
import Derived.OpenShut
import Derived.ShutString
import Derived.ChangeOld
import Derived.Below
import Derived.Lib.SmallJoins
import Derived.Test.YtolifmgkkkclkaaGen
import Derived.Test.YtolifmgkkkclkaaSz
import Derived.Deep.Cut
import Derived.Deep.RegionHeld3
import Derived.Test.YtolifmgkkkclkaaUfI
import Derived.Test.YtolifmgkkkclkaaUfS
import Derived.Test.YtolifmgkkkclkaaIStM
namespace Go.Proofs.Ytolifmgkkkclkaa.fnExactUnfilterImage
open Go.ChangeShapes Go.WideShapes Go.ChangeAt Go.RowKit
open Go.ChangeMaps (open_string shut_string)
set_option linter.unusedVariables false

theorem ufl_len (W H P : Int) (l : List Int) : (cond (ufOk W H P l) (ufL W H P l) []).length ≤ 2000000 := by
  cases h : ufOk W H P l
  · simp
  · unfold ufOk at h
    rw [Bool.and_eq_true] at h
    obtain ⟨W, H, P, rfl, rfl, rfl, ⟨_, hW⟩, ⟨_, hH⟩, _, hP⟩ := vsh_natU h.1
    show (unL (W * P) P l H).length ≤ 2000000
    rw [unL_len]
    have h64 : W * P ≤ 64 := Nat.mul_le_mul hW hP
    have := Nat.mul_le_mul hH h64
    omega
def FC (f : FuncId) (a0 : Int) (a1 : Int) (a2 : Int) (z3 : List Int) (R1 R2 R3 : Int) (RX : List Int) (o1 : Bool) : Prop :=
  ∀ (A3 : Option Addr) (c3 : Nat) (w : World), Rds .i64 w w.heap.size A3 z3 → z3.length ≤ c3 → Calls Try.prog f #[.int .i64 a0, .int .i64 a1, .int .i64 a2, .slice A3 z3.length c3] w fun e w' => ∃ v, e = .returned (.tuple #[.agg #[.int .i64 R1, .int .i64 R2, .int .i64 R3, v], .bool o1]) ∧ Own w' w.heap.size v RX ∧ Below w.heap.size w w'
set_option maxHeartbeats 16000000 in
set_option maxRecDepth 8000 in
theorem walk (w : World) (a0 : Int) (w0 : (Lit.int .i64 a0).wf = true) (a1 : Int) (w1 : (Lit.int .i64 a1).wf = true) (a2 : Int) (w2 : (Lit.int .i64 a2).wf = true) (a3 : Option Addr) (cap3 : Nat) (z3 : List Int) (hc3 : z3.length ≤ cap3) (w3 : Rdw .i64 w w.heap.size a3 z3) :
    Calls Try.prog 6 #[.int .i64 a0, .int .i64 a1, .int .i64 a2, .slice a3 z3.length cap3] w fun e w' => e = .returned (.bool true) ∧ Below w.heap.size w w' := by
  have hm3 := w3.2.1
  unfold maxLen at hm3
  have HR3 := Lib.hid w3.1
  clear w3
  have S0 : GS w w [] [] := GS.start w
  by_cases hq3 : 1048576 < z3.length
  · go_enter Try.func6, Try.ntmps6
    go_wp2
    go_ret
    exact ⟨rfl, S0.below⟩
  obtain ⟨R1, R2, R3, RX, o1, hRX, HI, HS⟩ : ∃ (R1 R2 R3 : Int) (RX : List Int) (o1 : Bool), RX.length ≤ 2000000 ∧ Hid (FC 11 a0 a1 a2 z3 R1 R2 R3 RX o1) ∧ Hid (FC 14 a0 a1 a2 z3 R1 R2 R3 RX o1) :=
      ⟨_, _, _, _, _, ufl_len a0 a1 a2 z3, Lib.hid (fun A c w hx hc => i_UnfilterImage a0 a1 a2 A c z3 w hx (by omega) hc), Lib.hid (fun A c w hx hc => s_UnfilterImage a0 a1 a2 A c z3 w hx (by omega) hc)⟩
  go_enter Try.func6, Try.ntmps6
  go_wp2_with fail
  refine (toIntS_any a3 cap3 z3 _ (S0.arg HR3.out) (by omega)).mono ?_
  rintro e u1001 ⟨v1001, rfl, hO1001, hB1001⟩
  obtain ⟨A1001, c1001, rfl, hc1001⟩ := hO1001.slice
  have S1001 := S0.add hO1001 hB1001
  clear hB1001 hO1001
  clear S0
  go_wp2_with fail
  refine (HS.out A1001 c1001 _ (S1001.rds (lo := w.heap.size) (hi := u1001.heap.size) (A := A1001) (n := z3.length) (c := c1001) (by simp)) hc1001).mono ?_
  rintro e u1002 ⟨v1002, rfl, hO1002, hB1002⟩
  obtain ⟨A1002, c1002, rfl, hc1002⟩ := hO1002.slice
  have S1002 := S1001.add hO1002 hB1002
  clear hB1002 hO1002
  clear S1001
  have S1003 : GS w (u1002.alloc (.cells #[.int .i64 R1, .int .i64 R2, .int .i64 R3, .slice A1002 RX.length c1002] 25)) [ri u1001.heap.size u1002.heap.size (.slice A1002 RX.length c1002) RX, ri w.heap.size u1001.heap.size (.slice A1001 z3.length c1001) z3] [⟨u1002.heap.size, 25, #[.int .i64 R1, .int .i64 R2, .int .i64 R3, .slice A1002 RX.length c1002]⟩] := GS.box S1002 25 #[.int .i64 R1, .int .i64 R2, .int .i64 R3, .slice A1002 RX.length c1002]
  go_wp2_with fail
  clear S1002
  generalize u1002.alloc (.cells #[.int .i64 R1, .int .i64 R2, .int .i64 R3, .slice A1002 RX.length c1002] 25) = u1003 at *
  refine (toIntS_any a3 cap3 z3 _ (S1003.arg HR3.out) (by omega)).mono ?_
  rintro e u1004 ⟨v1004, rfl, hO1004, hB1004⟩
  obtain ⟨A1004, c1004, rfl, hc1004⟩ := hO1004.slice
  have S1004 := S1003.add hO1004 hB1004
  clear hB1004 hO1004
  clear S1003
  go_wp2_with fail
  refine (HI.out A1004 c1004 _ (S1004.rds (lo := u1003.heap.size) (hi := u1004.heap.size) (A := A1004) (n := z3.length) (c := c1004) (by simp)) hc1004).mono ?_
  rintro e u1005 ⟨v1005, rfl, hO1005, hB1005⟩
  obtain ⟨A1005, c1005, rfl, hc1005⟩ := hO1005.slice
  have S1005 := S1004.add hO1005 hB1005
  clear hB1005 hO1005
  clear S1004
  obtain ⟨w00, w01, w02, w03⟩ := S1005.c4 (g := u1002.heap.size) (T := 25) (a0 := .int .i64 R1) (a1 := .int .i64 R2) (a2 := .int .i64 R3) (a3 := .slice A1002 RX.length c1002) (by simp)
  have w0l := S1005.lt (g := u1002.heap.size) (T := 25) (cs := #[.int .i64 R1, .int .i64 R2, .int .i64 R3, .slice A1002 RX.length c1002]) (by simp)
  have S1006 : GS w (u1005.alloc (.cells #[.int .i64 R1, .int .i64 R2, .int .i64 R3, .slice A1005 RX.length c1005] 25)) [ri u1004.heap.size u1005.heap.size (.slice A1005 RX.length c1005) RX, ri u1003.heap.size u1004.heap.size (.slice A1004 z3.length c1004) z3, ri u1001.heap.size u1002.heap.size (.slice A1002 RX.length c1002) RX, ri w.heap.size u1001.heap.size (.slice A1001 z3.length c1001) z3] [⟨u1005.heap.size, 25, #[.int .i64 R1, .int .i64 R2, .int .i64 R3, .slice A1005 RX.length c1005]⟩, ⟨u1002.heap.size, 25, #[.int .i64 R1, .int .i64 R2, .int .i64 R3, .slice A1002 RX.length c1002]⟩] := GS.box S1005 25 #[.int .i64 R1, .int .i64 R2, .int .i64 R3, .slice A1005 RX.length c1005]
  go_wp2_with fail
  clear w00 w01 w02 w03 w0l
  clear S1005
  generalize u1005.alloc (.cells #[.int .i64 R1, .int .i64 R2, .int .i64 R3, .slice A1005 RX.length c1005] 25) = u1006 at *
  refine (eqImage_same R1 R2 R3 A1005 A1002 c1005 c1002 _ _ RX _ rfl rfl (S1006.rds (lo := u1004.heap.size) (hi := u1005.heap.size) (A := A1005) (n := RX.length) (c := c1005) (by simp)) (S1006.rds (lo := u1001.heap.size) (hi := u1002.heap.size) (A := A1002) (n := RX.length) (c := c1002) (by simp)) (by omega)).mono ?_
  rintro e u1007 ⟨rfl, hB1007⟩
  have S1007 := S1006.call hB1007
  clear hB1007
  clear S1006
  go_wp2_with fail
  refine (toIntS_any a3 cap3 z3 _ (S1007.arg HR3.out) (by omega)).mono ?_
  rintro e u1008 ⟨v1008, rfl, hO1008, hB1008⟩
  obtain ⟨A1008, c1008, rfl, hc1008⟩ := hO1008.slice
  have S1008 := S1007.add hO1008 hB1008
  clear hB1008 hO1008
  clear S1007
  go_wp2_with fail
  refine (eqIntS_same A1004 A1008 c1004 c1008 _ _ z3 _ rfl rfl (S1008.rds (lo := u1003.heap.size) (hi := u1004.heap.size) (A := A1004) (n := z3.length) (c := c1004) (by simp)) (S1008.rds (lo := u1007.heap.size) (hi := u1008.heap.size) (A := A1008) (n := z3.length) (c := c1008) (by simp)) (by omega)).mono ?_
  rintro e u1009 ⟨rfl, hB1009⟩
  have S1009 := S1008.call hB1009
  clear hB1009
  clear S1008
  go_wp2_with fail
  obtain ⟨K1010, HK1010⟩ : ∃ K : Int, Hid (K = 1 + ((z3.length : Nat) : Int)) := ⟨_, Lib.hid rfl⟩
  have hK1010 : 0 ≤ K1010 ∧ K1010 ≤ 8000001 := by have := HK1010.out; omega
  refine (markIntS_any (.slice A1004 z3.length c1004) u1003.heap.size z3 1 _ (S1009.own (lo := u1003.heap.size) (hi := u1004.heap.size) (by simp)) (by omega) (by omega) (by omega)).mono ?_
  rintro e u1010 ⟨he, hO1010, hG1010, _⟩
  rw [← HK1010.out] at he
  subst he
  have S1010 := GS.mark (L1 := [ri u1007.heap.size u1008.heap.size (.slice A1008 z3.length c1008) z3, ri u1004.heap.size u1005.heap.size (.slice A1005 RX.length c1005) RX]) (L2 := [ri u1001.heap.size u1002.heap.size (.slice A1002 RX.length c1002) RX, ri w.heap.size u1001.heap.size (.slice A1001 z3.length c1001) z3]) (lo := u1003.heap.size) (hi := u1004.heap.size) (v := .slice A1004 z3.length c1004) (xs := z3) S1009 hO1010 (by simp [marks]) hG1010
  clear hO1010 hG1010
  clear S1009
  obtain ⟨g00, g01, g02, g03⟩ := S1010.c4 (g := u1005.heap.size) (T := 25) (a0 := .int .i64 R1) (a1 := .int .i64 R2) (a2 := .int .i64 R3) (a3 := .slice A1005 RX.length c1005) (by simp)
  have g0l := S1010.lt (g := u1005.heap.size) (T := 25) (cs := #[.int .i64 R1, .int .i64 R2, .int .i64 R3, .slice A1005 RX.length c1005]) (by simp)
  obtain ⟨w00, w01, w02, w03⟩ := S1010.c4 (g := u1002.heap.size) (T := 25) (a0 := .int .i64 R1) (a1 := .int .i64 R2) (a2 := .int .i64 R3) (a3 := .slice A1002 RX.length c1002) (by simp)
  have w0l := S1010.lt (g := u1002.heap.size) (T := 25) (cs := #[.int .i64 R1, .int .i64 R2, .int .i64 R3, .slice A1002 RX.length c1002]) (by simp)
  go_wp2_with fail
  refine (eqImage_same R1 R2 R3 A1005 A1002 c1005 c1002 _ _ RX _ rfl rfl (S1010.rds (lo := u1004.heap.size) (hi := u1005.heap.size) (A := A1005) (n := RX.length) (c := c1005) (by simp)) (S1010.rds (lo := u1001.heap.size) (hi := u1002.heap.size) (A := A1002) (n := RX.length) (c := c1002) (by simp)) (by omega)).mono ?_
  rintro e u1011 ⟨rfl, hB1011⟩
  have S1011 := S1010.call hB1011
  clear g00 g01 g02 g03 g0l w00 w01 w02 w03 w0l
  clear hB1011
  clear S1010
  obtain ⟨g00, g01, g02, g03⟩ := S1011.c4 (g := u1005.heap.size) (T := 25) (a0 := .int .i64 R1) (a1 := .int .i64 R2) (a2 := .int .i64 R3) (a3 := .slice A1005 RX.length c1005) (by simp)
  have g0l := S1011.lt (g := u1005.heap.size) (T := 25) (cs := #[.int .i64 R1, .int .i64 R2, .int .i64 R3, .slice A1005 RX.length c1005]) (by simp)
  go_wp2_with fail
  obtain ⟨K1012, HK1012⟩ : ∃ K : Int, Hid (K = 1 + ((RX.length : Nat) : Int)) := ⟨_, Lib.hid rfl⟩
  have hK1012 : 0 ≤ K1012 ∧ K1012 ≤ 8000001 := by have := HK1012.out; omega
  refine (markImage_any R1 R2 R3 (.slice A1005 RX.length c1005) u1004.heap.size RX 1 _ (S1011.own (lo := u1004.heap.size) (hi := u1005.heap.size) (by simp)) (by omega) (by omega) (by omega)).mono ?_
  rintro e u1012 ⟨he, hO1012, hG1012⟩
  rw [← HK1012.out] at he
  subst he
  have S1012 := GS.mark (L1 := [ri u1007.heap.size u1008.heap.size (.slice A1008 z3.length c1008) z3]) (L2 := [ri u1003.heap.size u1004.heap.size (.slice A1004 z3.length c1004) (marks 1 (z3.length)), ri u1001.heap.size u1002.heap.size (.slice A1002 RX.length c1002) RX, ri w.heap.size u1001.heap.size (.slice A1001 z3.length c1001) z3]) (lo := u1004.heap.size) (hi := u1005.heap.size) (v := .slice A1005 RX.length c1005) (xs := RX) S1011 hO1012 (by simp [marks]) hG1012
  clear g00 g01 g02 g03 g0l
  clear hO1012 hG1012
  clear S1011
  obtain ⟨g00, g01, g02, g03⟩ := S1012.c4 (g := u1005.heap.size) (T := 25) (a0 := .int .i64 R1) (a1 := .int .i64 R2) (a2 := .int .i64 R3) (a3 := .slice A1005 RX.length c1005) (by simp)
  have g0l := S1012.lt (g := u1005.heap.size) (T := 25) (cs := #[.int .i64 R1, .int .i64 R2, .int .i64 R3, .slice A1005 RX.length c1005]) (by simp)
  go_wp2_with fail
  refine (heldImage_any R1 R2 R3 A1005 c1005 RX.length 1 _ (S1012.rds (lo := u1004.heap.size) (hi := u1005.heap.size) (A := A1005) (n := RX.length) (c := c1005) (by simp)) (by omega) (by omega) (by omega)).mono ?_
  rintro e u1013 ⟨he, hB1013⟩
  rw [← HK1012.out] at he
  subst he
  have S1013 := S1012.call hB1013
  clear g00 g01 g02 g03 g0l
  clear hB1013
  clear S1012
  go_wp2_with fail
  refine (toIntS_any a3 cap3 z3 _ (S1013.arg HR3.out) (by omega)).mono ?_
  rintro e u1014 ⟨v1014, rfl, hO1014, hB1014⟩
  obtain ⟨A1014, c1014, rfl, hc1014⟩ := hO1014.slice
  have S1014 := S1013.add hO1014 hB1014
  clear hB1014 hO1014
  clear S1013
  go_wp2_with fail
  refine (HI.out A1014 c1014 _ (S1014.rds (lo := u1013.heap.size) (hi := u1014.heap.size) (A := A1014) (n := z3.length) (c := c1014) (by simp)) hc1014).mono ?_
  rintro e u1015 ⟨v1015, rfl, hO1015, hB1015⟩
  obtain ⟨A1015, c1015, rfl, hc1015⟩ := hO1015.slice
  have S1015 := S1014.add hO1015 hB1015
  clear hB1015 hO1015
  clear S1014
  obtain ⟨w00, w01, w02, w03⟩ := S1015.c4 (g := u1002.heap.size) (T := 25) (a0 := .int .i64 R1) (a1 := .int .i64 R2) (a2 := .int .i64 R3) (a3 := .slice A1002 RX.length c1002) (by simp)
  have w0l := S1015.lt (g := u1002.heap.size) (T := 25) (cs := #[.int .i64 R1, .int .i64 R2, .int .i64 R3, .slice A1002 RX.length c1002]) (by simp)
  have S1016 : GS w (u1015.alloc (.cells #[.int .i64 R1, .int .i64 R2, .int .i64 R3, .slice A1015 RX.length c1015] 25)) [ri u1014.heap.size u1015.heap.size (.slice A1015 RX.length c1015) RX, ri u1013.heap.size u1014.heap.size (.slice A1014 z3.length c1014) z3, ri u1007.heap.size u1008.heap.size (.slice A1008 z3.length c1008) z3, ri u1004.heap.size u1005.heap.size (.slice A1005 RX.length c1005) (marks 1 (RX.length)), ri u1003.heap.size u1004.heap.size (.slice A1004 z3.length c1004) (marks 1 (z3.length)), ri u1001.heap.size u1002.heap.size (.slice A1002 RX.length c1002) RX, ri w.heap.size u1001.heap.size (.slice A1001 z3.length c1001) z3] [⟨u1015.heap.size, 25, #[.int .i64 R1, .int .i64 R2, .int .i64 R3, .slice A1015 RX.length c1015]⟩, ⟨u1005.heap.size, 25, #[.int .i64 R1, .int .i64 R2, .int .i64 R3, .slice A1005 RX.length c1005]⟩, ⟨u1002.heap.size, 25, #[.int .i64 R1, .int .i64 R2, .int .i64 R3, .slice A1002 RX.length c1002]⟩] := GS.box S1015 25 #[.int .i64 R1, .int .i64 R2, .int .i64 R3, .slice A1015 RX.length c1015]
  go_wp2_with fail
  clear w00 w01 w02 w03 w0l
  clear S1015
  generalize u1015.alloc (.cells #[.int .i64 R1, .int .i64 R2, .int .i64 R3, .slice A1015 RX.length c1015] 25) = u1016 at *
  refine (eqImage_same R1 R2 R3 A1015 A1002 c1015 c1002 _ _ RX _ rfl rfl (S1016.rds (lo := u1014.heap.size) (hi := u1015.heap.size) (A := A1015) (n := RX.length) (c := c1015) (by simp)) (S1016.rds (lo := u1001.heap.size) (hi := u1002.heap.size) (A := A1002) (n := RX.length) (c := c1002) (by simp)) (by omega)).mono ?_
  rintro e u1017 ⟨rfl, hB1017⟩
  have S1017 := S1016.call hB1017
  clear hB1017
  clear S1016
  obtain ⟨g00, g01, g02, g03⟩ := S1017.c4 (g := u1005.heap.size) (T := 25) (a0 := .int .i64 R1) (a1 := .int .i64 R2) (a2 := .int .i64 R3) (a3 := .slice A1005 RX.length c1005) (by simp)
  have g0l := S1017.lt (g := u1005.heap.size) (T := 25) (cs := #[.int .i64 R1, .int .i64 R2, .int .i64 R3, .slice A1005 RX.length c1005]) (by simp)
  go_wp2_with fail
  refine (heldImage_any R1 R2 R3 A1005 c1005 RX.length 1 _ (S1017.rds (lo := u1004.heap.size) (hi := u1005.heap.size) (A := A1005) (n := RX.length) (c := c1005) (by simp)) (by omega) (by omega) (by omega)).mono ?_
  rintro e u1018 ⟨he, hB1018⟩
  rw [← HK1012.out] at he
  subst he
  have S1018 := S1017.call hB1018
  clear g00 g01 g02 g03 g0l
  clear hB1018
  clear S1017
  go_wp2
  go_ret
  exact ⟨rfl, S1018.below⟩

/-! ### From the walk to the statement. -/
theorem own : ownKnob Try.prog.godebug = none := by kernel_rfl
theorem laidOut : laidOutB Try.prog = true := by kernel_rfl
set_option maxRecDepth 100000 in
theorem lifted (os : Os) (started : os.Started) (H : Type) (enc : TypeId × Value → H) :
    ReturnsInHanded {} Try.checked os 6 .any (Rows.fnExactUnfilterImageSpec.pre6 enc Try.prog Try.f6 Rows.fnExactUnfilterImageRow.domain false) (Rows.fnExactUnfilterImageSpec.post enc Try.prog Try.f6 false true false false) := by
  refine returnsInHanded_of_change (C := Try.checked) own started (by kernel_rfl) Try.func6
    (ChangeSpec.witness6 (enc := enc) (C := Try.checked) false ⟨#[], #[.int .i64 0, .int .i64 0, .int .i64 0, .slice none 0 0], []⟩ 8 (by kernel_rfl) (by kernel_rfl) (by kernel_rfl) (by kernel_rfl)) ?_
  intro W base args ds gs before hval0 hW hcnd _
  have hval : ∀ (j : Nat) t v, Try.f6.params[j]? = some t → args[j]? = some v → Value.okWide Try.prog W .any base t v := hval0
  have hW' := hW
  obtain ⟨p, q, hA0, hV, rfl, hfz, hnd⟩ := hW
  have hA : DataW.TrodAll enc Try.prog W 0 (fun _ => true) true Try.f6.params.toList args.toList ds p := hA0
  rw [Try.params6] at hA hval
  obtain ⟨v0, vs0, d0, ds0, p0, q0, hargs, rfl, rfl, h0, r0⟩ := trodAll_cons hA
  obtain ⟨v1, vs1, d1, ds1, p1, q1, rfl, rfl, rfl, h1, r1⟩ := trodAll_cons r0
  obtain ⟨v2, vs2, d2, ds2, p2, q2, rfl, rfl, rfl, h2, r2⟩ := trodAll_cons r1
  obtain ⟨v3, vs3, d3, ds3, p3, q3, rfl, rfl, rfl, h3, r3⟩ := trodAll_cons r2
  obtain ⟨rfl, rfl, rfl⟩ := trodAll_nil r3
  obtain rfl : args = #[v0, v1, v2, v3] := by cases args; simp_all
  obtain ⟨rfl, rfl⟩ := trodVars_none hV
  obtain ⟨a0, rfl, rfl, rfl, w0⟩ := open_int Try.underlying3 (hval 0 3 v0 rfl rfl) h0
  obtain ⟨a1, rfl, rfl, rfl, w1⟩ := open_int Try.underlying3 (hval 1 3 v1 rfl rfl) h1
  obtain ⟨a2, rfl, rfl, rfl, w2⟩ := open_int Try.underlying3 (hval 2 3 v2 rfl rfl) h2
  obtain ⟨a3, len3, cap3, rfl⟩ := okWide_slice Try.underlying23 (hval 3 23 v3 rfl rfl)
  have k3 := h3
  have lt3 : ∀ x ∈ p3, x.block < W.heap.size := by obtain ⟨m, hm⟩ := k3; exact DataW.trod_lt m _ _ _ hm
  obtain ⟨z3, hl3, hc3, w3⟩ : ∃ zs : List Int, len3 = zs.length ∧ zs.length ≤ cap3 ∧ Rdw .i64 W W.heap.size a3 zs := by
    obtain ⟨fuel, hf⟩ := h3
    rcases open_ints Try.underlying23 Try.underlying3 (by kernel_rfl) hf with ⟨hcs, _⟩ | ⟨x, l, c, zs, hcs, _, hl, hm, hz, _, hcell, hwz⟩
    · simp [Value.cells] at hcs
      obtain ⟨rfl, rfl, rfl⟩ := hcs
      exact ⟨[], rfl, Nat.le_refl _, Rdw.nil⟩
    · simp [Value.cells] at hcs
      obtain ⟨rfl, rfl, rfl⟩ := hcs
      exact ⟨zs.take len3, by simp at hz ⊢; omega, by simp at hz ⊢; omega, Rdw.of_row hl hm (by simpa using hz) hcell hwz⟩
  subst hl3
  clear hA0 hval0
  refine (walk W a0 w0 a1 w1 a2 w2 a3 cap3 z3 hc3 w3).mono fun e W' ⟨he, bel⟩ => ?_
  subst he
  exact ⟨_, rfl, _, _, _, [], _, [], hW', trodAll_mk1 (shut_bool Try.underlying4 _), (trodAll_cons_mk (shut_int Try.underlying3 w0) (trodAll_cons_mk (shut_int Try.underlying3 w1) (trodAll_cons_mk (shut_int Try.underlying3 w2) (trodAll_cons_mk (Below.trod laidOut (by kernel_rfl) (of_decide_eq_true (by kernel_rfl)) k3 bel lt3) trodAll_mk0)))), rfl, bel.frame _, fun h => by cases h⟩

theorem over : Rows.fnExactUnfilterImageRow.holds Try.pinned (OpenSpec.ofChange Rows.fnExactUnfilterImageSpec) :=
  OpenClaim.holds_of_wide 6 Try.f6 rfl rfl rfl rfl rfl rfl rfl ⟨rfl, rfl, rfl, rfl, rfl⟩ rfl rfl rfl rfl rfl (by kernel_rfl) Try.func6 (by kernel_rfl)
    (of_decide_eq_true (by kernel_rfl)) (by unfold Func.isWrapper; first | (rw [if_pos (by decide +kernel)]; kernel_rfl) | (rw [if_neg (by decide +kernel)]; exact ⟨rfl, rfl⟩))
    (fun os started H enc _ => lifted os started H enc)

theorem proved : Rows.FnExactUnfilterImageSaid := over
end Go.Proofs.Ytolifmgkkkclkaa.fnExactUnfilterImage
