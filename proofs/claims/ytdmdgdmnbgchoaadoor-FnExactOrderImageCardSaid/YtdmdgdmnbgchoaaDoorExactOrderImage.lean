/- OrderImage of the program answers what the model answers, for every image and every number of levels, where the ordered matrix is what the program lays; it writes into no argument, and its answer owns its memory. -/
import Derived.Test.YtdmdgdmnbgchoaaDoorRows
import Derived.WalkKit
import Derived.ProofKit
import Derived.OpenShut
import Derived.ShutString
import Derived.ChangeOld
import Derived.Below
import Derived.Lib.SmallJoins
import Derived.Test.YtdmdgdmnbgchoaaDoorGen
import Derived.Test.YtdmdgdmnbgchoaaDoorSz
import Derived.Deep.Cut
import Derived.Deep.RegionHeld3
import Derived.Test.YtdmdgdmnbgchoaaDoorOrdI
import Derived.Test.YtdmdgdmnbgchoaaDoorOrdS
import Derived.Test.YtdmdgdmnbgchoaaDoorIStM
import Derived.Test.YtdmdgdmnbgchoaaDoorDoorM
import Derived.Test.YtdmdgdmnbgchoaaDoorTie
import Derived.Test.YtdmdgdmnbgchoaaDoorCards
import Derived.SevenTiedAt
import Derived.LaidMore
import Derived.OpenVars
import Derived.ChangeVars
namespace Go.Proofs.YtdmdgdmnbgchoaaDoor.fnExactOrderImage
open Go.ChangeShapes Go.WideShapes Go.ChangeAt Go.RowKit
open Go.ChangeMaps (open_string shut_string)
set_option linter.unusedVariables false

theorem od_len (W H P : Int) (xs : List Int) (L : Int) : (cond (odB W H P xs L) (odL W.toNat H.toNat xs L) []).length ≤ 2000000 := by
  cases h : odB W H P xs L
  · simp
  · unfold odB vpl at h
    rw [Bool.and_eq_true, Bool.and_eq_true] at h
    obtain ⟨W, H, P, rfl, rfl, rfl, a1, a2, a3, a4, _⟩ := vim_nat h.1.1
    show (img W H 1 (fun x y _ => odV (px W 1 xs x y 0) L (bay x y))).length ≤ 2000000
    rw [img_len, Nat.mul_one]
    have : W * H ≤ 16 * 16 := Nat.mul_le_mul a2 a4
    omega
def FC (f : FuncId) (W0 H0 P0 : Int) (z0 : List Int) (a1 : Int) (R1 R2 R3 : Int) (RX : List Int) (o1 : Bool) : Prop :=
  ∀ (A0 : Option Addr) (c0 : Nat) (w : World), Rds .i64 w w.heap.size A0 z0 → z0.length ≤ c0 → Tab w → Calls Tryd.prog f #[.agg #[.int .i64 W0, .int .i64 H0, .int .i64 P0, .slice A0 z0.length c0], .int .i64 a1] w fun e w' => ∃ v, e = .returned (.tuple #[.agg #[.int .i64 R1, .int .i64 R2, .int .i64 R3, v], .bool o1]) ∧ Own w' w.heap.size v RX ∧ Below w.heap.size w w'
set_option maxHeartbeats 16000000 in
set_option maxRecDepth 8000 in
theorem walk (w : World) (W0 H0 P0 : Int) (a0 : Option Addr) (cap0 : Nat) (z0 : List Int) (hc0 : z0.length ≤ cap0) (w0 : Rdw .i64 w w.heap.size a0 z0) (a1 : Int) (w1 : (Lit.int .i64 a1).wf = true) (hT : Tab w) :
    Calls Tryd.prog 4 #[.agg #[.int .i64 W0, .int .i64 H0, .int .i64 P0, .slice a0 z0.length cap0], .int .i64 a1] w fun e w' => e = .returned (.bool true) ∧ Below w.heap.size w w' := by
  have HT := Lib.hid hT
  clear hT
  have hm0 := w0.2.1
  unfold maxLen at hm0
  have HR0 := Lib.hid w0.1
  clear w0
  have S0 : GS w (w.alloc (.cells #[.int .i64 W0, .int .i64 H0, .int .i64 P0, .slice a0 z0.length cap0] 33)) [] [⟨w.heap.size, 33, #[.int .i64 W0, .int .i64 H0, .int .i64 P0, .slice a0 z0.length cap0]⟩] := GS.box' (GS.start w) 33 #[.int .i64 W0, .int .i64 H0, .int .i64 P0, .slice a0 z0.length cap0] w.heap.size (by simp)
  go_enter Tryd.func4, Tryd.ntmps4
  go_wp2_with fail
  generalize w.alloc (.cells #[.int .i64 W0, .int .i64 H0, .int .i64 P0, .slice a0 z0.length cap0] 33) = u0 at *
  by_cases hs1001 : (1048576 : Int) < (z0.length : Nat)
  · refine (szImage_gt W0 H0 P0 a0 cap0 _ (1048576) _ (by omega) (by omega) hs1001 (by omega)).mono ?_
    rintro e uz ⟨rfl, hBz⟩
    have HSz := Lib.hid (S0.call hBz)
    clear hBz
    go_wp2
    go_ret
    exact ⟨rfl, HSz.out.below⟩
  obtain ⟨K1002, HK1002⟩ : ∃ K : Int, Hid (K = 1048576 - ((z0.length : Nat) : Int)) := ⟨_, Lib.hid rfl⟩
  have hK1002 : 0 ≤ K1002 ∧ K1002 ≤ 1048576 := by have := HK1002.out; omega
  have hb0 : z0.length ≤ 1048576 := by omega
  refine (szImage_le W0 H0 P0 a0 cap0 _ (1048576) _ (by omega) (by omega) (by omega)).mono ?_
  rintro e u1002 ⟨he, hB1002⟩
  rw [← HK1002.out] at he
  subst he
  have S1002 := S0.call hB1002
  clear hB1002
  clear S0
  obtain ⟨R1, R2, R3, RX, o1, hRX, HI, HS⟩ : ∃ (R1 R2 R3 : Int) (RX : List Int) (o1 : Bool), RX.length ≤ 2000000 ∧ Hid (FC 6 W0 H0 P0 z0 a1 R1 R2 R3 RX o1) ∧ Hid (FC 7 W0 H0 P0 z0 a1 R1 R2 R3 RX o1) :=
      ⟨_, _, _, _, _, od_len W0 H0 P0 z0 a1, Lib.hid (fun A c w hx hc ht => i_OrderImage W0 H0 P0 a1 A c z0 w hx (by omega) hc ht), Lib.hid (fun A c w hx hc _ => s_OrderImage W0 H0 P0 a1 A c z0 w hx (by omega))⟩
  obtain ⟨b00, b01, b02, b03⟩ := S1002.c4 (g := w.heap.size) (T := 33) (a0 := .int .i64 W0) (a1 := .int .i64 H0) (a2 := .int .i64 P0) (a3 := .slice a0 z0.length cap0) (by simp)
  have b0l := S1002.lt (g := w.heap.size) (T := 33) (cs := #[.int .i64 W0, .int .i64 H0, .int .i64 P0, .slice a0 z0.length cap0]) (by simp)
  go_wp2_with fail
  refine (toImage_any W0 H0 P0 a0 cap0 z0 _ (S1002.arg HR0.out) (by omega)).mono ?_
  rintro e u1003 ⟨v1003, rfl, hO1003, hB1003⟩
  obtain ⟨A1003, c1003, rfl, hc1003⟩ := hO1003.slice
  have S1003 := S1002.add hO1003 hB1003
  clear b00 b01 b02 b03 b0l
  clear hB1003 hO1003
  clear S1002
  go_wp2_with fail
  refine (HS.out A1003 c1003 _ (S1003.rds (lo := u1002.heap.size) (hi := u1003.heap.size) (A := A1003) (n := z0.length) (c := c1003) (by simp)) hc1003 (HT.out.below S1003.below)).mono ?_
  rintro e u1004 ⟨v1004, rfl, hO1004, hB1004⟩
  obtain ⟨A1004, c1004, rfl, hc1004⟩ := hO1004.slice
  have S1004 := S1003.add hO1004 hB1004
  clear hB1004 hO1004
  clear S1003
  obtain ⟨b00, b01, b02, b03⟩ := S1004.c4 (g := w.heap.size) (T := 33) (a0 := .int .i64 W0) (a1 := .int .i64 H0) (a2 := .int .i64 P0) (a3 := .slice a0 z0.length cap0) (by simp)
  have b0l := S1004.lt (g := w.heap.size) (T := 33) (cs := #[.int .i64 W0, .int .i64 H0, .int .i64 P0, .slice a0 z0.length cap0]) (by simp)
  have S1005 : GS w (u1004.alloc (.cells #[.int .i64 R1, .int .i64 R2, .int .i64 R3, .slice A1004 RX.length c1004] 25)) [ri u1003.heap.size u1004.heap.size (.slice A1004 RX.length c1004) RX, ri u1002.heap.size u1003.heap.size (.slice A1003 z0.length c1003) z0] [⟨u1004.heap.size, 25, #[.int .i64 R1, .int .i64 R2, .int .i64 R3, .slice A1004 RX.length c1004]⟩, ⟨w.heap.size, 33, #[.int .i64 W0, .int .i64 H0, .int .i64 P0, .slice a0 z0.length cap0]⟩] := GS.box S1004 25 #[.int .i64 R1, .int .i64 R2, .int .i64 R3, .slice A1004 RX.length c1004]
  go_wp2_with fail
  clear b00 b01 b02 b03 b0l
  clear S1004
  generalize u1004.alloc (.cells #[.int .i64 R1, .int .i64 R2, .int .i64 R3, .slice A1004 RX.length c1004] 25) = u1005 at *
  refine (toImage_any W0 H0 P0 a0 cap0 z0 _ (S1005.arg HR0.out) (by omega)).mono ?_
  rintro e u1006 ⟨v1006, rfl, hO1006, hB1006⟩
  obtain ⟨A1006, c1006, rfl, hc1006⟩ := hO1006.slice
  have S1006 := S1005.add hO1006 hB1006
  clear hB1006 hO1006
  clear S1005
  have S1007 : GS w (u1006.alloc (.cells #[.int .i64 W0, .int .i64 H0, .int .i64 P0, .slice A1006 z0.length c1006] 25)) [ri u1005.heap.size u1006.heap.size (.slice A1006 z0.length c1006) z0, ri u1003.heap.size u1004.heap.size (.slice A1004 RX.length c1004) RX, ri u1002.heap.size u1003.heap.size (.slice A1003 z0.length c1003) z0] [⟨u1006.heap.size, 25, #[.int .i64 W0, .int .i64 H0, .int .i64 P0, .slice A1006 z0.length c1006]⟩, ⟨u1004.heap.size, 25, #[.int .i64 R1, .int .i64 R2, .int .i64 R3, .slice A1004 RX.length c1004]⟩, ⟨w.heap.size, 33, #[.int .i64 W0, .int .i64 H0, .int .i64 P0, .slice a0 z0.length cap0]⟩] := GS.box S1006 25 #[.int .i64 W0, .int .i64 H0, .int .i64 P0, .slice A1006 z0.length c1006]
  go_wp2_with fail
  clear S1006
  generalize u1006.alloc (.cells #[.int .i64 W0, .int .i64 H0, .int .i64 P0, .slice A1006 z0.length c1006] 25) = u1007 at *
  refine (HI.out A1006 c1006 _ (S1007.rds (lo := u1005.heap.size) (hi := u1006.heap.size) (A := A1006) (n := z0.length) (c := c1006) (by simp)) hc1006 (HT.out.below S1007.below)).mono ?_
  rintro e u1008 ⟨v1008, rfl, hO1008, hB1008⟩
  obtain ⟨A1008, c1008, rfl, hc1008⟩ := hO1008.slice
  have S1008 := S1007.add hO1008 hB1008
  clear hB1008 hO1008
  clear S1007
  obtain ⟨w00, w01, w02, w03⟩ := S1008.c4 (g := u1004.heap.size) (T := 25) (a0 := .int .i64 R1) (a1 := .int .i64 R2) (a2 := .int .i64 R3) (a3 := .slice A1004 RX.length c1004) (by simp)
  have w0l := S1008.lt (g := u1004.heap.size) (T := 25) (cs := #[.int .i64 R1, .int .i64 R2, .int .i64 R3, .slice A1004 RX.length c1004]) (by simp)
  have S1009 : GS w (u1008.alloc (.cells #[.int .i64 R1, .int .i64 R2, .int .i64 R3, .slice A1008 RX.length c1008] 25)) [ri u1007.heap.size u1008.heap.size (.slice A1008 RX.length c1008) RX, ri u1005.heap.size u1006.heap.size (.slice A1006 z0.length c1006) z0, ri u1003.heap.size u1004.heap.size (.slice A1004 RX.length c1004) RX, ri u1002.heap.size u1003.heap.size (.slice A1003 z0.length c1003) z0] [⟨u1008.heap.size, 25, #[.int .i64 R1, .int .i64 R2, .int .i64 R3, .slice A1008 RX.length c1008]⟩, ⟨u1006.heap.size, 25, #[.int .i64 W0, .int .i64 H0, .int .i64 P0, .slice A1006 z0.length c1006]⟩, ⟨u1004.heap.size, 25, #[.int .i64 R1, .int .i64 R2, .int .i64 R3, .slice A1004 RX.length c1004]⟩, ⟨w.heap.size, 33, #[.int .i64 W0, .int .i64 H0, .int .i64 P0, .slice a0 z0.length cap0]⟩] := GS.box S1008 25 #[.int .i64 R1, .int .i64 R2, .int .i64 R3, .slice A1008 RX.length c1008]
  go_wp2_with fail
  clear w00 w01 w02 w03 w0l
  clear S1008
  generalize u1008.alloc (.cells #[.int .i64 R1, .int .i64 R2, .int .i64 R3, .slice A1008 RX.length c1008] 25) = u1009 at *
  refine (eqImage_same R1 R2 R3 A1008 A1004 c1008 c1004 _ _ RX _ rfl rfl (S1009.rds (lo := u1007.heap.size) (hi := u1008.heap.size) (A := A1008) (n := RX.length) (c := c1008) (by simp)) (S1009.rds (lo := u1003.heap.size) (hi := u1004.heap.size) (A := A1004) (n := RX.length) (c := c1004) (by simp)) (by omega)).mono ?_
  rintro e u1010 ⟨rfl, hB1010⟩
  have S1010 := S1009.call hB1010
  clear hB1010
  clear S1009
  go_upto_region 10 with fail
  have HC := Lib.hid S1010.drew
  clear S1010
  go_region_held3 (fun w' => (w'.cell? ⟨u1006.heap.size, 0, none⟩ = some (.int .i64 W0) ∧ w'.cell? ⟨u1006.heap.size, 1, none⟩ = some (.int .i64 H0) ∧ w'.cell? ⟨u1006.heap.size, 2, none⟩ = some (.int .i64 P0) ∧ w'.cell? ⟨u1006.heap.size, 3, none⟩ = some (.slice A1006 z0.length c1006)) ∧ (w'.cell? ⟨w.heap.size, 0, none⟩ = some (.int .i64 W0) ∧ w'.cell? ⟨w.heap.size, 1, none⟩ = some (.int .i64 H0) ∧ w'.cell? ⟨w.heap.size, 2, none⟩ = some (.int .i64 P0) ∧ w'.cell? ⟨w.heap.size, 3, none⟩ = some (.slice a0 z0.length cap0))) (first | (with_reducible exact ⟨(HC.out).c4 (T := 25) (by simp), (HC.out).c4 (T := 33) (by simp)⟩) | (exact ⟨(HC.out).c4 (T := 25) (by simp), (HC.out).c4 (T := 33) (by simp)⟩)) (first | (go_at_call 11; (with_reducible refine Calls.mono (toImage_any W0 H0 P0 a0 cap0 z0 _ ?_ ?_) ?_); (exact HC.out.arg HR0.out); omega; rintro e u1012 ⟨v1012, rfl, hO1012, hB1012⟩; obtain ⟨A1012, c1012, rfl, hc1012⟩ := hO1012.slice; (first | (have HD := Lib.hid (GS.add HC.out hO1012 hB1012))); clear hB1012 hO1012; clear HC; have HC := HD; clear HD) | (go_at_call 12; (refine (eqImage_same W0 H0 P0 A1006 A1012 c1006 c1012 _ _ z0 _ rfl rfl (by exact HC.out.rds (lo := u1005.heap.size) (hi := u1006.heap.size) (A := A1006) (n := z0.length) (c := c1006) (by simp)) (by exact HC.out.rds (A := A1012) (n := z0.length) (c := c1012) (by first | exact List.mem_cons_self | exact List.mem_cons_of_mem _ List.mem_cons_self | exact List.mem_cons_of_mem _ (List.mem_cons_of_mem _ List.mem_cons_self) | exact List.mem_cons_of_mem _ (List.mem_cons_of_mem _ (List.mem_cons_of_mem _ List.mem_cons_self)))) (by omega)).mono ?_); rintro e u1013 ⟨rfl, hB1013⟩; (first | (have HD := Lib.hid (GS.call HC.out hB1013))); clear hB1013; clear HC; have HC := HD; clear HD))
  have S1014 := HC.out
  clear HC
  obtain ⟨x00, x01, x02, x03⟩ := S1014.c4 (g := u1006.heap.size) (T := 25) (a0 := .int .i64 W0) (a1 := .int .i64 H0) (a2 := .int .i64 P0) (a3 := .slice A1006 z0.length c1006) (by simp)
  have x0l := S1014.lt (g := u1006.heap.size) (T := 25) (cs := #[.int .i64 W0, .int .i64 H0, .int .i64 P0, .slice A1006 z0.length c1006]) (by simp)
  go_wp2_with fail
  obtain ⟨K1015, HK1015⟩ : ∃ K : Int, Hid (K = 1 + ((z0.length : Nat) : Int)) := ⟨_, Lib.hid rfl⟩
  have hK1015 : 0 ≤ K1015 ∧ K1015 ≤ 8000001 := by have := HK1015.out; omega
  refine (markImage_any W0 H0 P0 (.slice A1006 z0.length c1006) u1005.heap.size z0 1 _ (S1014.own (lo := u1005.heap.size) (hi := u1006.heap.size) (by simp)) (by omega) (by omega) (by omega)).mono ?_
  rintro e u1015 ⟨he, hO1015, hG1015⟩
  rw [← HK1015.out] at he
  subst he
  have S1015 := GS.mark (L1 := [ri u1010.drew.heap.size u1012.heap.size (.slice A1012 z0.length c1012) z0, ri u1007.heap.size u1008.heap.size (.slice A1008 RX.length c1008) RX]) (L2 := [ri u1003.heap.size u1004.heap.size (.slice A1004 RX.length c1004) RX, ri u1002.heap.size u1003.heap.size (.slice A1003 z0.length c1003) z0]) (lo := u1005.heap.size) (hi := u1006.heap.size) (v := .slice A1006 z0.length c1006) (xs := z0) S1014 hO1015 (by simp [marks]) hG1015
  clear x00 x01 x02 x03 x0l
  clear hO1015 hG1015
  clear S1014
  obtain ⟨g00, g01, g02, g03⟩ := S1015.c4 (g := u1008.heap.size) (T := 25) (a0 := .int .i64 R1) (a1 := .int .i64 R2) (a2 := .int .i64 R3) (a3 := .slice A1008 RX.length c1008) (by simp)
  have g0l := S1015.lt (g := u1008.heap.size) (T := 25) (cs := #[.int .i64 R1, .int .i64 R2, .int .i64 R3, .slice A1008 RX.length c1008]) (by simp)
  obtain ⟨w00, w01, w02, w03⟩ := S1015.c4 (g := u1004.heap.size) (T := 25) (a0 := .int .i64 R1) (a1 := .int .i64 R2) (a2 := .int .i64 R3) (a3 := .slice A1004 RX.length c1004) (by simp)
  have w0l := S1015.lt (g := u1004.heap.size) (T := 25) (cs := #[.int .i64 R1, .int .i64 R2, .int .i64 R3, .slice A1004 RX.length c1004]) (by simp)
  go_wp2_with fail
  refine (eqImage_same R1 R2 R3 A1008 A1004 c1008 c1004 _ _ RX _ rfl rfl (S1015.rds (lo := u1007.heap.size) (hi := u1008.heap.size) (A := A1008) (n := RX.length) (c := c1008) (by simp)) (S1015.rds (lo := u1003.heap.size) (hi := u1004.heap.size) (A := A1004) (n := RX.length) (c := c1004) (by simp)) (by omega)).mono ?_
  rintro e u1016 ⟨rfl, hB1016⟩
  have S1016 := S1015.call hB1016
  clear g00 g01 g02 g03 g0l w00 w01 w02 w03 w0l
  clear hB1016
  clear S1015
  obtain ⟨g00, g01, g02, g03⟩ := S1016.c4 (g := u1008.heap.size) (T := 25) (a0 := .int .i64 R1) (a1 := .int .i64 R2) (a2 := .int .i64 R3) (a3 := .slice A1008 RX.length c1008) (by simp)
  have g0l := S1016.lt (g := u1008.heap.size) (T := 25) (cs := #[.int .i64 R1, .int .i64 R2, .int .i64 R3, .slice A1008 RX.length c1008]) (by simp)
  go_wp2_with fail
  obtain ⟨K1017, HK1017⟩ : ∃ K : Int, Hid (K = 1 + ((RX.length : Nat) : Int)) := ⟨_, Lib.hid rfl⟩
  have hK1017 : 0 ≤ K1017 ∧ K1017 ≤ 8000001 := by have := HK1017.out; omega
  refine (markImage_any R1 R2 R3 (.slice A1008 RX.length c1008) u1007.heap.size RX 1 _ (S1016.own (lo := u1007.heap.size) (hi := u1008.heap.size) (by simp)) (by omega) (by omega) (by omega)).mono ?_
  rintro e u1017 ⟨he, hO1017, hG1017⟩
  rw [← HK1017.out] at he
  subst he
  have S1017 := GS.mark (L1 := [ri u1010.drew.heap.size u1012.heap.size (.slice A1012 z0.length c1012) z0]) (L2 := [ri u1005.heap.size u1006.heap.size (.slice A1006 z0.length c1006) (marks 1 (z0.length)), ri u1003.heap.size u1004.heap.size (.slice A1004 RX.length c1004) RX, ri u1002.heap.size u1003.heap.size (.slice A1003 z0.length c1003) z0]) (lo := u1007.heap.size) (hi := u1008.heap.size) (v := .slice A1008 RX.length c1008) (xs := RX) S1016 hO1017 (by simp [marks]) hG1017
  clear g00 g01 g02 g03 g0l
  clear hO1017 hG1017
  clear S1016
  obtain ⟨g00, g01, g02, g03⟩ := S1017.c4 (g := u1008.heap.size) (T := 25) (a0 := .int .i64 R1) (a1 := .int .i64 R2) (a2 := .int .i64 R3) (a3 := .slice A1008 RX.length c1008) (by simp)
  have g0l := S1017.lt (g := u1008.heap.size) (T := 25) (cs := #[.int .i64 R1, .int .i64 R2, .int .i64 R3, .slice A1008 RX.length c1008]) (by simp)
  go_wp2_with fail
  refine (heldImage_any R1 R2 R3 A1008 c1008 RX.length 1 _ (S1017.rds (lo := u1007.heap.size) (hi := u1008.heap.size) (A := A1008) (n := RX.length) (c := c1008) (by simp)) (by omega) (by omega) (by omega)).mono ?_
  rintro e u1018 ⟨he, hB1018⟩
  rw [← HK1017.out] at he
  subst he
  have S1018 := S1017.call hB1018
  clear g00 g01 g02 g03 g0l
  clear hB1018
  clear S1017
  obtain ⟨b00, b01, b02, b03⟩ := S1018.c4 (g := w.heap.size) (T := 33) (a0 := .int .i64 W0) (a1 := .int .i64 H0) (a2 := .int .i64 P0) (a3 := .slice a0 z0.length cap0) (by simp)
  have b0l := S1018.lt (g := w.heap.size) (T := 33) (cs := #[.int .i64 W0, .int .i64 H0, .int .i64 P0, .slice a0 z0.length cap0]) (by simp)
  go_wp2_with fail
  refine (toImage_any W0 H0 P0 a0 cap0 z0 _ (S1018.arg HR0.out) (by omega)).mono ?_
  rintro e u1019 ⟨v1019, rfl, hO1019, hB1019⟩
  obtain ⟨A1019, c1019, rfl, hc1019⟩ := hO1019.slice
  have S1019 := S1018.add hO1019 hB1019
  clear b00 b01 b02 b03 b0l
  clear hB1019 hO1019
  clear S1018
  go_wp2_with fail
  refine (HI.out A1019 c1019 _ (S1019.rds (lo := u1018.heap.size) (hi := u1019.heap.size) (A := A1019) (n := z0.length) (c := c1019) (by simp)) hc1019 (HT.out.below S1019.below)).mono ?_
  rintro e u1020 ⟨v1020, rfl, hO1020, hB1020⟩
  obtain ⟨A1020, c1020, rfl, hc1020⟩ := hO1020.slice
  have S1020 := S1019.add hO1020 hB1020
  clear hB1020 hO1020
  clear S1019
  obtain ⟨w00, w01, w02, w03⟩ := S1020.c4 (g := u1004.heap.size) (T := 25) (a0 := .int .i64 R1) (a1 := .int .i64 R2) (a2 := .int .i64 R3) (a3 := .slice A1004 RX.length c1004) (by simp)
  have w0l := S1020.lt (g := u1004.heap.size) (T := 25) (cs := #[.int .i64 R1, .int .i64 R2, .int .i64 R3, .slice A1004 RX.length c1004]) (by simp)
  have S1021 : GS w (u1020.alloc (.cells #[.int .i64 R1, .int .i64 R2, .int .i64 R3, .slice A1020 RX.length c1020] 25)) [ri u1019.heap.size u1020.heap.size (.slice A1020 RX.length c1020) RX, ri u1018.heap.size u1019.heap.size (.slice A1019 z0.length c1019) z0, ri u1010.drew.heap.size u1012.heap.size (.slice A1012 z0.length c1012) z0, ri u1007.heap.size u1008.heap.size (.slice A1008 RX.length c1008) (marks 1 (RX.length)), ri u1005.heap.size u1006.heap.size (.slice A1006 z0.length c1006) (marks 1 (z0.length)), ri u1003.heap.size u1004.heap.size (.slice A1004 RX.length c1004) RX, ri u1002.heap.size u1003.heap.size (.slice A1003 z0.length c1003) z0] [⟨u1020.heap.size, 25, #[.int .i64 R1, .int .i64 R2, .int .i64 R3, .slice A1020 RX.length c1020]⟩, ⟨u1008.heap.size, 25, #[.int .i64 R1, .int .i64 R2, .int .i64 R3, .slice A1008 RX.length c1008]⟩, ⟨u1006.heap.size, 25, #[.int .i64 W0, .int .i64 H0, .int .i64 P0, .slice A1006 z0.length c1006]⟩, ⟨u1004.heap.size, 25, #[.int .i64 R1, .int .i64 R2, .int .i64 R3, .slice A1004 RX.length c1004]⟩, ⟨w.heap.size, 33, #[.int .i64 W0, .int .i64 H0, .int .i64 P0, .slice a0 z0.length cap0]⟩] := GS.box S1020 25 #[.int .i64 R1, .int .i64 R2, .int .i64 R3, .slice A1020 RX.length c1020]
  go_wp2_with fail
  clear w00 w01 w02 w03 w0l
  clear S1020
  generalize u1020.alloc (.cells #[.int .i64 R1, .int .i64 R2, .int .i64 R3, .slice A1020 RX.length c1020] 25) = u1021 at *
  refine (eqImage_same R1 R2 R3 A1020 A1004 c1020 c1004 _ _ RX _ rfl rfl (S1021.rds (lo := u1019.heap.size) (hi := u1020.heap.size) (A := A1020) (n := RX.length) (c := c1020) (by simp)) (S1021.rds (lo := u1003.heap.size) (hi := u1004.heap.size) (A := A1004) (n := RX.length) (c := c1004) (by simp)) (by omega)).mono ?_
  rintro e u1022 ⟨rfl, hB1022⟩
  have S1022 := S1021.call hB1022
  clear hB1022
  clear S1021
  obtain ⟨g00, g01, g02, g03⟩ := S1022.c4 (g := u1008.heap.size) (T := 25) (a0 := .int .i64 R1) (a1 := .int .i64 R2) (a2 := .int .i64 R3) (a3 := .slice A1008 RX.length c1008) (by simp)
  have g0l := S1022.lt (g := u1008.heap.size) (T := 25) (cs := #[.int .i64 R1, .int .i64 R2, .int .i64 R3, .slice A1008 RX.length c1008]) (by simp)
  go_wp2_with fail
  refine (heldImage_any R1 R2 R3 A1008 c1008 RX.length 1 _ (S1022.rds (lo := u1007.heap.size) (hi := u1008.heap.size) (A := A1008) (n := RX.length) (c := c1008) (by simp)) (by omega) (by omega) (by omega)).mono ?_
  rintro e u1023 ⟨he, hB1023⟩
  rw [← HK1017.out] at he
  subst he
  have S1023 := S1022.call hB1023
  clear g00 g01 g02 g03 g0l
  clear hB1023
  clear S1022
  go_wp2
  go_ret
  exact ⟨rfl, S1023.below⟩

/-! ### From the walk to the statement. -/
theorem own : ownKnob Tryd.prog.godebug = none := by kernel_rfl
theorem laidOut : laidOutB Tryd.prog = true := by kernel_rfl
set_option maxRecDepth 100000 in
theorem lifted (os : Os) (started : os.Started) (H : Type) (enc : TypeId × Value → H) :
    ReturnsInHanded {} Tryd.checked os 4 .any (fun w args => (Rows.fnExactOrderImageSpec.pre enc Tryd.prog Tryd.f4 [] false w args ∧ laidMetH Tryd.prog laidTab w) ∧ sizedMet enc Tryd.prog Tryd.f4 (OpenSpec.ofChange Rows.fnExactOrderImageSpec) false w args) (Rows.fnExactOrderImageSpec.post enc Tryd.prog Tryd.f4 false true false false) := by
  refine returnsInHanded_of_change_and (C := Tryd.checked) (X := fun w _ => laidMetH Tryd.prog laidTab w) (fun _ _ _ hh h => h.of_heap hh) own started (by kernel_rfl) Tryd.func4
    (ChangeSpec.witness_shaped (enc := enc) (C := Tryd.checked) (os := os) (X := fun w _ => laidMetH Tryd.prog laidTab w) false (World.doorLaid Tryd.prog doorSteps os) #[.agg #[.int .i64 0, .int .i64 0, .int .i64 0, .slice none 0 0], .int .i64 0] 8 rfl (World.shaped_of_RefB (by kernel_rfl) (by kernel_rfl)) (by kernel_rfl) (by kernel_rfl) (by kernel_rfl) (door_met os _)) ?_
  intro W base args ds gs before hval0 hW _ _ hL _
  have hval : ∀ (j : Nat) t v, Tryd.f4.params[j]? = some t → args[j]? = some v → Value.okWide Tryd.prog W .any base t v := hval0
  have hW' := hW
  obtain ⟨p, q, hA0, hV, rfl, hfz, hnd⟩ := hW
  have hA : DataW.TrodAll enc Tryd.prog W 0 (fun _ => true) true Tryd.f4.params.toList args.toList ds p := hA0
  rw [Tryd.params4] at hA hval
  obtain ⟨v0, vs0, d0, ds0, p0, q0, hargs, rfl, rfl, h0, r0⟩ := trodAll_cons hA
  obtain ⟨v1, vs1, d1, ds1, p1, q1, rfl, rfl, rfl, h1, r1⟩ := trodAll_cons r0
  obtain ⟨rfl, rfl, rfl⟩ := trodAll_nil r1
  obtain rfl : args = #[v0, v1] := by cases args; simp_all
  have hV2 : DataW.TrodVars enc Tryd.prog W (fun _ => true) ["loop.example/pixelworks/impl.matrix"] gs q := hV
  obtain ⟨g1, rfl⟩ : ∃ g, gs = [g] := by
    obtain ⟨_, _, _, _, d, _, h, _⟩ := trodVars_one hV2
    exact ⟨d, h⟩
  have k0 := h0
  have lt0 : ∀ x ∈ p0, x.block < W.heap.size := by obtain ⟨m, hm⟩ := k0; exact DataW.trod_lt m _ _ _ hm
  obtain ⟨x0a, x0b, x0c, x0d, y0a, y0b, y0c, y0d, m0, rfl, rfl, rfl, g0a, g0b, g0c, g0d⟩ := Joins.open_agg4 Tryd.underlying33 (by kernel_rfl) (by kernel_rfl) (hval 0 33 v0 rfl rfl) h0
  obtain ⟨n0a, e0a, rfl, f0a⟩ := DataW.trod_int Tryd.underlying3 g0a
  simp at e0a
  subst e0a
  obtain ⟨n0b, e0b, rfl, f0b⟩ := DataW.trod_int Tryd.underlying3 g0b
  simp at e0b
  subst e0b
  obtain ⟨n0c, e0c, rfl, f0c⟩ := DataW.trod_int Tryd.underlying3 g0c
  simp at e0c
  subst e0c
  obtain ⟨a0, cap0, z0, hv0, hc0, w0⟩ : ∃ (A : Option Addr) (c : Nat) (zs : List Int), x0d = .slice A zs.length c ∧ zs.length ≤ c ∧ Rdw .i64 W W.heap.size A zs := by
    rcases open_ints Tryd.underlying23 Tryd.underlying3 (by kernel_rfl) g0d with ⟨hcs, _⟩ | ⟨x, l, c, zs, hcs, _, hl, hm, hz, _, hcell, hwz⟩
    · simp at hcs
      exact ⟨none, 0, [], hcs, Nat.le_refl _, Rdw.nil⟩
    · simp at hcs
      have hzl : (zs.take l).length = l := by simp at hz ⊢; omega
      exact ⟨some x, c, zs.take l, by rw [hzl]; exact hcs, by rw [hzl]; exact hl, Rdw.of_row hl hm (by simpa using hz) hcell hwz⟩
  subst hv0
  obtain ⟨a1, rfl, rfl, rfl, w1⟩ := open_int Tryd.underlying3 (hval 1 3 v1 rfl rfl) h1
  clear hA0 hval0
  refine (walk W n0a n0b n0c a0 cap0 z0 hc0 w0 a1 w1 (tab_of hL)).mono fun e W' ⟨he, bel⟩ => ?_
  subst he
  exact ⟨_, rfl, _, _, _, [], _, _, hW', trodAll_mk1 (shut_bool Tryd.underlying4 _), (trodAll_cons_mk (Below.trod laidOut (by kernel_rfl) (of_decide_eq_true (by kernel_rfl)) k0 bel lt0) (trodAll_cons_mk (shut_int Tryd.underlying3 w1) trodAll_mk0)), Below.trodVars laidOut bel (by kernel_rfl) hV2, bel.frame _, fun h => by cases h⟩

theorem over : Rows.fnExactOrderImageRow.holds Tryd.pinned (OpenSpec.ofChange Rows.fnExactOrderImageSpec) :=
  OpenClaim.holds_of_wide 4 Tryd.f4 rfl rfl rfl rfl rfl rfl rfl ⟨rfl, rfl, rfl, rfl, rfl⟩ rfl rfl rfl rfl rfl (by kernel_rfl) Tryd.func4 (by kernel_rfl)
    (of_decide_eq_true (by kernel_rfl)) (by unfold Func.isWrapper; first | (rw [if_pos (by decide +kernel)]; kernel_rfl) | (rw [if_neg (by decide +kernel)]; exact ⟨rfl, rfl⟩))
    (fun os started H enc _ => lifted os started H enc)

theorem proved : Rows.FnExactOrderImageCardSaid :=
  Claim7.holds_tied_plain_at .later [] [.data] true _ _
    over (fun _ h => by cases h) (by kernel_rfl) (fun _ h => by cases h) fnExactOrderImage_row_tie rfl ⟨rfl, rfl⟩ (by kernel_rfl) rfl
    (fun f fn hf hfn => by
      obtain rfl : f = 4 := Option.some.inj ((show Tryd.prog.funcNamed "loop.example/pixelworks/laws.FnExactOrderImage" = some 4 by kernel_rfl).symm.trans hf) |>.symm
      obtain rfl : fn = Tryd.f4 := (Option.some.inj (Tryd.func4.symm.trans hfn)).symm
      exact ⟨by kernel_rfl, fun j t ht => by
        rw [Tryd.params4] at ht
        have hm : t ∈ [33, 3] := by simpa using Array.mem_of_getElem? ht
        have hall : ([33, 3].all fun u => !Tryd.prog.wantsStandIn u) = true := by kernel_rfl
        exact (show Tryd.prog.wantsStandIn t = false by simpa using List.all_eq_true.1 hall t hm)⟩)
    (by kernel_rfl)
end Go.Proofs.YtdmdgdmnbgchoaaDoor.fnExactOrderImage
