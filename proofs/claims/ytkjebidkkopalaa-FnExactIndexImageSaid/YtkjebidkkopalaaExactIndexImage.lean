/- IndexImage of the program answers what the model answers, for every image and every list of colors; it writes into no argument, and its answer owns its memory. -/
import Derived.Test.YtkjebidkkopalaaRows
import Derived.WalkKit
import Derived.ProofKit
import Derived.OpenShut
import Derived.ShutString
import Derived.ChangeOld
import Derived.Below
import Derived.Lib.SmallJoins
import Derived.Test.YtkjebidkkopalaaGen
import Derived.Test.YtkjebidkkopalaaSz
import Derived.Deep.Cut
import Derived.Deep.RegionHeld3
import Derived.Test.YtkjebidkkopalaaIxI
import Derived.Test.YtkjebidkkopalaaIxS
import Derived.Test.YtkjebidkkopalaaIStM
import Derived.Test.YtkjebidkkopalaaLslO
import Derived.Test.YtkjebidkkopalaaLslS
namespace Go.Proofs.Ytkjebidkkopalaa.fnExactIndexImage
open Go.ChangeShapes Go.WideShapes Go.ChangeAt Go.RowKit
open Go.ChangeMaps (open_string shut_string)
set_option linter.unusedVariables false

theorem ix_len (W H P : Int) (xs : List Int) (xss : List (List Int)) : (cond (ixOk W H P xs xss) (ixL W.toNat H.toNat P.toNat xs xss) []).length ≤ 2000000 := by
  cases h : ixOk W H P xs xss
  · simp
  · unfold ixOk at h
    rw [Bool.and_eq_true] at h
    obtain ⟨W, H, P, rfl, rfl, rfl, _, hW, _, hH, _, hP, _⟩ := vim_nat h.1
    have h1 : (img W H 1 (ixF W P xs xss)).length = W * H * 1 := img_len ..
    have h2 := Nat.mul_le_mul hW hH
    show (img W H 1 (ixF W P xs xss)).length ≤ 2000000
    omega
def FC (f : FuncId) (W0 H0 P0 : Int) (z0 : List Int) (z1 : List (List Int)) (R1 R2 R3 : Int) (RX : List Int) (o1 : Bool) : Prop :=
  ∀ (A0 : Option Addr) (c0 : Nat) (A1 : Option Addr) (c1 : Nat) (w : World), Rds .i64 w w.heap.size A0 z0 → z0.length ≤ c0 → Rdss w w.heap.size A1 z1 → z1.length ≤ c1 → Calls Try.prog f #[.agg #[.int .i64 W0, .int .i64 H0, .int .i64 P0, .slice A0 z0.length c0], .slice A1 z1.length c1] w fun e w' => ∃ v, e = .returned (.tuple #[.agg #[.int .i64 R1, .int .i64 R2, .int .i64 R3, v], .bool o1]) ∧ Own w' w.heap.size v RX ∧ Below w.heap.size w w'
set_option maxHeartbeats 16000000 in
set_option maxRecDepth 8000 in
theorem walk (w : World) (W0 H0 P0 : Int) (a0 : Option Addr) (cap0 : Nat) (z0 : List Int) (hc0 : z0.length ≤ cap0) (w0 : Rdw .i64 w w.heap.size a0 z0) (a1 : Option Addr) (cap1 : Nat) (z1 : List (List Int)) (hc1 : z1.length ≤ cap1) (hm1 : z1.length ≤ maxLen) (w1 : Rdss w w.heap.size a1 z1) (f1 : ∀ i, i < z1.length → (z1.getD i []).length ≤ maxLen) :
    Calls Try.prog 9 #[.agg #[.int .i64 W0, .int .i64 H0, .int .i64 P0, .slice a0 z0.length cap0], .slice a1 z1.length cap1] w fun e w' => e = .returned (.bool true) ∧ Below w.heap.size w w' := by
  have hm0 := w0.2.1
  unfold maxLen at hm0
  have HR0 := Lib.hid w0.1
  clear w0
  unfold maxLen at hm1 f1
  have HR1 := Lib.hid w1
  have HF1 := Lib.hid f1
  clear w1 f1
  have S0 : GS w (w.alloc (.cells #[.int .i64 W0, .int .i64 H0, .int .i64 P0, .slice a0 z0.length cap0] 45)) [] [⟨w.heap.size, 45, #[.int .i64 W0, .int .i64 H0, .int .i64 P0, .slice a0 z0.length cap0]⟩] := GS.box' (GS.start w) 45 #[.int .i64 W0, .int .i64 H0, .int .i64 P0, .slice a0 z0.length cap0] w.heap.size (by simp)
  go_enter Try.func9, Try.ntmps9
  go_wp2_with fail
  generalize w.alloc (.cells #[.int .i64 W0, .int .i64 H0, .int .i64 P0, .slice a0 z0.length cap0] 45) = u0 at *
  by_cases hs1001 : (1048576 : Int) < (z0.length : Nat)
  · refine (szImage_gt W0 H0 P0 a0 cap0 _ (1048576) _ (by omega) (by omega) hs1001 (by omega)).mono ?_
    rintro e uz ⟨rfl, hBz⟩
    have HSz := Lib.hid (S0.call hBz)
    clear hBz
    go_wp2
    go_ret
    exact ⟨rfl, HSz.out.below⟩
  obtain ⟨K1002, HK1002⟩ : ∃ K : Int, Hid (K = 1048576 - ((z0.length : Nat) : Int)) := ⟨_, Lib.hid rfl⟩
  have hK1002 : 0 ≤ K1002 ∧ K1002 ≤ 1048576 := by have := HK1002.out; omega
  have hb0 : z0.length ≤ 1048576 := by omega
  refine (szImage_le W0 H0 P0 a0 cap0 _ (1048576) _ (by omega) (by omega) (by omega)).mono ?_
  rintro e u1002 ⟨he, hB1002⟩
  rw [← HK1002.out] at he
  subst he
  have S1002 := S0.call hB1002
  clear hB1002
  clear S0
  go_wp2_with fail
  by_cases hs1003 : (K1002 : Int) < (tot z1 : Nat)
  · refine (szIntSS_gt a1 cap1 z1 (K1002) _ (S1002.argSS HR1.out) (by omega) (by omega) hs1003 (by omega) (fun i hi => Nat.le_trans (HF1.out i hi) (by decide))).mono ?_
    rintro e uz ⟨rfl, hBz⟩
    have HSz := Lib.hid (S1002.call hBz)
    clear hBz
    go_wp2
    go_ret
    exact ⟨rfl, HSz.out.below⟩
  obtain ⟨K1004, HK1004⟩ : ∃ K : Int, Hid (K = K1002 - ((tot z1 : Nat) : Int)) := ⟨_, Lib.hid rfl⟩
  have hK1004 : 0 ≤ K1004 ∧ K1004 ≤ 1048576 := by have := HK1004.out; omega
  have hb1 : tot z1 ≤ 1048576 := by omega
  refine (szIntSS_le a1 cap1 z1 (K1002) _ (S1002.argSS HR1.out) (by omega) (by omega) (by omega)).mono ?_
  rintro e u1004 ⟨he, hB1004⟩
  rw [← HK1004.out] at he
  subst he
  have S1004 := S1002.call hB1004
  clear hB1004
  clear S1002
  obtain ⟨R1, R2, R3, RX, o1, hRX, HI, HS⟩ : ∃ (R1 R2 R3 : Int) (RX : List Int) (o1 : Bool), RX.length ≤ 2000000 ∧ Hid (FC 16 W0 H0 P0 z0 z1 R1 R2 R3 RX o1) ∧ Hid (FC 24 W0 H0 P0 z0 z1 R1 R2 R3 RX o1) :=
      ⟨_, _, _, _, _, ix_len W0 H0 P0 z0 z1, Lib.hid (fun A c A2 c2 w hx hc hp hpc => i_IndexImage W0 H0 P0 A c z0 A2 _ c2 z1 w hx (by omega) hc hp rfl (by omega)), Lib.hid (fun A c A2 c2 w hx hc hp hpc => s_IndexImage W0 H0 P0 A c z0 A2 _ c2 z1 w hx (by omega) hc hp rfl (by omega))⟩
  obtain ⟨b00, b01, b02, b03⟩ := S1004.c4 (g := w.heap.size) (T := 45) (a0 := .int .i64 W0) (a1 := .int .i64 H0) (a2 := .int .i64 P0) (a3 := .slice a0 z0.length cap0) (by simp)
  have b0l := S1004.lt (g := w.heap.size) (T := 45) (cs := #[.int .i64 W0, .int .i64 H0, .int .i64 P0, .slice a0 z0.length cap0]) (by simp)
  go_wp2_with fail
  refine (toImage_any W0 H0 P0 a0 cap0 z0 _ (S1004.arg HR0.out) (by omega)).mono ?_
  rintro e u1005 ⟨v1005, rfl, hO1005, hB1005⟩
  obtain ⟨A1005, c1005, rfl, hc1005⟩ := hO1005.slice
  have S1005 := S1004.add hO1005 hB1005
  clear b00 b01 b02 b03 b0l
  clear hB1005 hO1005
  clear S1004
  go_wp2_with fail
  refine (toIntSS_any a1 cap1 z1 _ (S1005.argSS HR1.out) (by omega)).mono ?_
  rintro e u1006 ⟨M1006, A1006, c1006, rfl, hc1006, hM1006, hB1006⟩
  have S1006 := S1005.addM hB1006
  clear hB1006
  clear S1005
  go_wp2_with fail
  refine (HS.out A1005 c1005 A1006 c1006 _ (S1006.rds (lo := u1004.heap.size) (hi := u1005.heap.size) (A := A1005) (n := z0.length) (c := c1005) (by simp)) hc1005 (LsM.rds S1006 hM1006 (fun t ht => by simp [ht])) hc1006).mono ?_
  rintro e u1007 ⟨v1007, rfl, hO1007, hB1007⟩
  obtain ⟨A1007, c1007, rfl, hc1007⟩ := hO1007.slice
  have S1007 := S1006.add hO1007 hB1007
  clear hB1007 hO1007
  clear S1006
  obtain ⟨b00, b01, b02, b03⟩ := S1007.c4 (g := w.heap.size) (T := 45) (a0 := .int .i64 W0) (a1 := .int .i64 H0) (a2 := .int .i64 P0) (a3 := .slice a0 z0.length cap0) (by simp)
  have b0l := S1007.lt (g := w.heap.size) (T := 45) (cs := #[.int .i64 W0, .int .i64 H0, .int .i64 P0, .slice a0 z0.length cap0]) (by simp)
  have S1008 : GS w (u1007.alloc (.cells #[.int .i64 R1, .int .i64 R2, .int .i64 R3, .slice A1007 RX.length c1007] 25)) (ri u1006.heap.size u1007.heap.size (.slice A1007 RX.length c1007) RX :: (M1006 ++ (ri u1004.heap.size u1005.heap.size (.slice A1005 z0.length c1005) z0 :: []))) [⟨u1007.heap.size, 25, #[.int .i64 R1, .int .i64 R2, .int .i64 R3, .slice A1007 RX.length c1007]⟩, ⟨w.heap.size, 45, #[.int .i64 W0, .int .i64 H0, .int .i64 P0, .slice a0 z0.length cap0]⟩] := GS.box S1007 25 #[.int .i64 R1, .int .i64 R2, .int .i64 R3, .slice A1007 RX.length c1007]
  go_wp2_with fail
  clear b00 b01 b02 b03 b0l
  clear S1007
  generalize u1007.alloc (.cells #[.int .i64 R1, .int .i64 R2, .int .i64 R3, .slice A1007 RX.length c1007] 25) = u1008 at *
  refine (toImage_any W0 H0 P0 a0 cap0 z0 _ (S1008.arg HR0.out) (by omega)).mono ?_
  rintro e u1009 ⟨v1009, rfl, hO1009, hB1009⟩
  obtain ⟨A1009, c1009, rfl, hc1009⟩ := hO1009.slice
  have S1009 := S1008.add hO1009 hB1009
  clear hB1009 hO1009
  clear S1008
  have S1010 : GS w (u1009.alloc (.cells #[.int .i64 W0, .int .i64 H0, .int .i64 P0, .slice A1009 z0.length c1009] 25)) (ri u1008.heap.size u1009.heap.size (.slice A1009 z0.length c1009) z0 :: (ri u1006.heap.size u1007.heap.size (.slice A1007 RX.length c1007) RX :: (M1006 ++ (ri u1004.heap.size u1005.heap.size (.slice A1005 z0.length c1005) z0 :: [])))) [⟨u1009.heap.size, 25, #[.int .i64 W0, .int .i64 H0, .int .i64 P0, .slice A1009 z0.length c1009]⟩, ⟨u1007.heap.size, 25, #[.int .i64 R1, .int .i64 R2, .int .i64 R3, .slice A1007 RX.length c1007]⟩, ⟨w.heap.size, 45, #[.int .i64 W0, .int .i64 H0, .int .i64 P0, .slice a0 z0.length cap0]⟩] := GS.box S1009 25 #[.int .i64 W0, .int .i64 H0, .int .i64 P0, .slice A1009 z0.length c1009]
  go_wp2_with fail
  clear S1009
  generalize u1009.alloc (.cells #[.int .i64 W0, .int .i64 H0, .int .i64 P0, .slice A1009 z0.length c1009] 25) = u1010 at *
  refine (toIntSS_any a1 cap1 z1 _ (S1010.argSS HR1.out) (by omega)).mono ?_
  rintro e u1011 ⟨M1011, A1011, c1011, rfl, hc1011, hM1011, hB1011⟩
  have S1011 := S1010.addM hB1011
  clear hB1011
  clear S1010
  obtain ⟨x00, x01, x02, x03⟩ := S1011.c4 (g := u1009.heap.size) (T := 25) (a0 := .int .i64 W0) (a1 := .int .i64 H0) (a2 := .int .i64 P0) (a3 := .slice A1009 z0.length c1009) (by simp)
  have x0l := S1011.lt (g := u1009.heap.size) (T := 25) (cs := #[.int .i64 W0, .int .i64 H0, .int .i64 P0, .slice A1009 z0.length c1009]) (by simp)
  go_wp2_with fail
  refine (HI.out A1009 c1009 A1011 c1011 _ (S1011.rds (lo := u1008.heap.size) (hi := u1009.heap.size) (A := A1009) (n := z0.length) (c := c1009) (by simp)) hc1009 (LsM.rds S1011 hM1011 (fun t ht => by simp [ht])) hc1011).mono ?_
  rintro e u1012 ⟨v1012, rfl, hO1012, hB1012⟩
  obtain ⟨A1012, c1012, rfl, hc1012⟩ := hO1012.slice
  have S1012 := S1011.add hO1012 hB1012
  clear x00 x01 x02 x03 x0l
  clear hB1012 hO1012
  clear S1011
  obtain ⟨w00, w01, w02, w03⟩ := S1012.c4 (g := u1007.heap.size) (T := 25) (a0 := .int .i64 R1) (a1 := .int .i64 R2) (a2 := .int .i64 R3) (a3 := .slice A1007 RX.length c1007) (by simp)
  have w0l := S1012.lt (g := u1007.heap.size) (T := 25) (cs := #[.int .i64 R1, .int .i64 R2, .int .i64 R3, .slice A1007 RX.length c1007]) (by simp)
  have S1013 : GS w (u1012.alloc (.cells #[.int .i64 R1, .int .i64 R2, .int .i64 R3, .slice A1012 RX.length c1012] 25)) (ri u1011.heap.size u1012.heap.size (.slice A1012 RX.length c1012) RX :: (M1011 ++ (ri u1008.heap.size u1009.heap.size (.slice A1009 z0.length c1009) z0 :: (ri u1006.heap.size u1007.heap.size (.slice A1007 RX.length c1007) RX :: (M1006 ++ (ri u1004.heap.size u1005.heap.size (.slice A1005 z0.length c1005) z0 :: [])))))) [⟨u1012.heap.size, 25, #[.int .i64 R1, .int .i64 R2, .int .i64 R3, .slice A1012 RX.length c1012]⟩, ⟨u1009.heap.size, 25, #[.int .i64 W0, .int .i64 H0, .int .i64 P0, .slice A1009 z0.length c1009]⟩, ⟨u1007.heap.size, 25, #[.int .i64 R1, .int .i64 R2, .int .i64 R3, .slice A1007 RX.length c1007]⟩, ⟨w.heap.size, 45, #[.int .i64 W0, .int .i64 H0, .int .i64 P0, .slice a0 z0.length cap0]⟩] := GS.box S1012 25 #[.int .i64 R1, .int .i64 R2, .int .i64 R3, .slice A1012 RX.length c1012]
  go_wp2_with fail
  clear w00 w01 w02 w03 w0l
  clear S1012
  generalize u1012.alloc (.cells #[.int .i64 R1, .int .i64 R2, .int .i64 R3, .slice A1012 RX.length c1012] 25) = u1013 at *
  refine (eqImage_same R1 R2 R3 A1012 A1007 c1012 c1007 _ _ RX _ rfl rfl (S1013.rds (lo := u1011.heap.size) (hi := u1012.heap.size) (A := A1012) (n := RX.length) (c := c1012) (by simp)) (S1013.rds (lo := u1006.heap.size) (hi := u1007.heap.size) (A := A1007) (n := RX.length) (c := c1007) (by simp)) (by omega)).mono ?_
  rintro e u1014 ⟨rfl, hB1014⟩
  have S1014 := S1013.call hB1014
  clear hB1014
  clear S1013
  go_upto_region 14 with fail
  have HC := Lib.hid S1014.drew
  clear S1014
  go_region_held3 (fun w' => (w'.cell? ⟨u1009.heap.size, 0, none⟩ = some (.int .i64 W0) ∧ w'.cell? ⟨u1009.heap.size, 1, none⟩ = some (.int .i64 H0) ∧ w'.cell? ⟨u1009.heap.size, 2, none⟩ = some (.int .i64 P0) ∧ w'.cell? ⟨u1009.heap.size, 3, none⟩ = some (.slice A1009 z0.length c1009)) ∧ (w'.cell? ⟨w.heap.size, 0, none⟩ = some (.int .i64 W0) ∧ w'.cell? ⟨w.heap.size, 1, none⟩ = some (.int .i64 H0) ∧ w'.cell? ⟨w.heap.size, 2, none⟩ = some (.int .i64 P0) ∧ w'.cell? ⟨w.heap.size, 3, none⟩ = some (.slice a0 z0.length cap0))) (first | (with_reducible exact ⟨(HC.out).c4 (T := 25) (by simp), (HC.out).c4 (T := 45) (by simp)⟩) | (exact ⟨(HC.out).c4 (T := 25) (by simp), (HC.out).c4 (T := 45) (by simp)⟩)) (first | (go_at_call 28; (with_reducible refine Calls.mono (toImage_any W0 H0 P0 a0 cap0 z0 _ ?_ ?_) ?_); (exact HC.out.arg HR0.out); omega; rintro e u1016 ⟨v1016, rfl, hO1016, hB1016⟩; obtain ⟨A1016, c1016, rfl, hc1016⟩ := hO1016.slice; (first | (have HD := Lib.hid (GS.add HC.out hO1016 hB1016))); clear hB1016 hO1016; clear HC; have HC := HD; clear HD) | (go_at_call 30; (refine (eqImage_same W0 H0 P0 A1009 A1016 c1009 c1016 _ _ z0 _ rfl rfl (by exact HC.out.rds (lo := u1008.heap.size) (hi := u1009.heap.size) (A := A1009) (n := z0.length) (c := c1009) (by simp)) (by exact HC.out.rds (A := A1016) (n := z0.length) (c := c1016) (by first | exact List.mem_cons_self | exact List.mem_cons_of_mem _ List.mem_cons_self | exact List.mem_cons_of_mem _ (List.mem_cons_of_mem _ List.mem_cons_self) | exact List.mem_cons_of_mem _ (List.mem_cons_of_mem _ (List.mem_cons_of_mem _ List.mem_cons_self)))) (by omega)).mono ?_); rintro e u1017 ⟨rfl, hB1017⟩; (first | (have HD := Lib.hid (GS.call HC.out hB1017))); clear hB1017; clear HC; have HC := HD; clear HD))
  have S1018 := HC.out
  clear HC
  go_wp2_with fail
  refine (toIntSS_any a1 cap1 z1 _ (S1018.argSS HR1.out) (by omega)).mono ?_
  rintro e u1019 ⟨M1019, A1019, c1019, rfl, hc1019, hM1019, hB1019⟩
  have S1019 := S1018.addM hB1019
  clear hB1019
  clear S1018
  go_wp2_with fail
  refine (eqIntSS_same A1011 A1019 c1011 c1019 _ _ z1 _ rfl rfl (LsM.rds S1019 hM1011 (fun t ht => by simp [ht])) (LsM.rds S1019 hM1019 (fun t ht => by simp [ht])) (by omega)).mono ?_
  rintro e u1020 ⟨rfl, hB1020⟩
  have S1020 := S1019.call hB1020
  clear hB1020
  clear S1019
  obtain ⟨x00, x01, x02, x03⟩ := S1020.c4 (g := u1009.heap.size) (T := 25) (a0 := .int .i64 W0) (a1 := .int .i64 H0) (a2 := .int .i64 P0) (a3 := .slice A1009 z0.length c1009) (by simp)
  have x0l := S1020.lt (g := u1009.heap.size) (T := 25) (cs := #[.int .i64 W0, .int .i64 H0, .int .i64 P0, .slice A1009 z0.length c1009]) (by simp)
  go_wp2_with fail
  obtain ⟨K1021, HK1021⟩ : ∃ K : Int, Hid (K = 1 + ((z0.length : Nat) : Int)) := ⟨_, Lib.hid rfl⟩
  have hK1021 : 0 ≤ K1021 ∧ K1021 ≤ 8000001 := by have := HK1021.out; omega
  refine (markImage_any W0 H0 P0 (.slice A1009 z0.length c1009) u1008.heap.size z0 1 _ (S1020.own (lo := u1008.heap.size) (hi := u1009.heap.size) (by simp)) (by omega) (by omega) (by omega)).mono ?_
  rintro e u1021 ⟨he, hO1021, hG1021⟩
  rw [← HK1021.out] at he
  subst he
  have SM1021 : GS w u1020 ((M1019 ++ (ri u1014.drew.heap.size u1016.heap.size (.slice A1016 z0.length c1016) z0 :: (ri u1011.heap.size u1012.heap.size (.slice A1012 RX.length c1012) RX :: (M1011 ++ [])))) ++ ri u1008.heap.size u1009.heap.size (.slice A1009 z0.length c1009) z0 :: (ri u1006.heap.size u1007.heap.size (.slice A1007 RX.length c1007) RX :: (M1006 ++ (ri u1004.heap.size u1005.heap.size (.slice A1005 z0.length c1005) z0 :: [])))) [⟨u1012.heap.size, 25, #[.int .i64 R1, .int .i64 R2, .int .i64 R3, .slice A1012 RX.length c1012]⟩, ⟨u1009.heap.size, 25, #[.int .i64 W0, .int .i64 H0, .int .i64 P0, .slice A1009 z0.length c1009]⟩, ⟨u1007.heap.size, 25, #[.int .i64 R1, .int .i64 R2, .int .i64 R3, .slice A1007 RX.length c1007]⟩, ⟨w.heap.size, 45, #[.int .i64 W0, .int .i64 H0, .int .i64 P0, .slice a0 z0.length cap0]⟩] := by simpa only [List.append_assoc, List.cons_append, List.nil_append, List.append_nil] using S1020
  have S1021 := GS.mark (L1 := (M1019 ++ (ri u1014.drew.heap.size u1016.heap.size (.slice A1016 z0.length c1016) z0 :: (ri u1011.heap.size u1012.heap.size (.slice A1012 RX.length c1012) RX :: (M1011 ++ []))))) (L2 := (ri u1006.heap.size u1007.heap.size (.slice A1007 RX.length c1007) RX :: (M1006 ++ (ri u1004.heap.size u1005.heap.size (.slice A1005 z0.length c1005) z0 :: [])))) (lo := u1008.heap.size) (hi := u1009.heap.size) (v := .slice A1009 z0.length c1009) (xs := z0) SM1021 hO1021 (by simp [marks]) hG1021
  have T1021 : GS w u1021 (M1019 ++ (ri u1014.drew.heap.size u1016.heap.size (.slice A1016 z0.length c1016) z0 :: (ri u1011.heap.size u1012.heap.size (.slice A1012 RX.length c1012) RX :: (M1011 ++ (ri u1008.heap.size u1009.heap.size (.slice A1009 z0.length c1009) (marks 1 (z0.length)) :: (ri u1006.heap.size u1007.heap.size (.slice A1007 RX.length c1007) RX :: (M1006 ++ (ri u1004.heap.size u1005.heap.size (.slice A1005 z0.length c1005) z0 :: [])))))))) [⟨u1012.heap.size, 25, #[.int .i64 R1, .int .i64 R2, .int .i64 R3, .slice A1012 RX.length c1012]⟩, ⟨u1009.heap.size, 25, #[.int .i64 W0, .int .i64 H0, .int .i64 P0, .slice A1009 z0.length c1009]⟩, ⟨u1007.heap.size, 25, #[.int .i64 R1, .int .i64 R2, .int .i64 R3, .slice A1007 RX.length c1007]⟩, ⟨w.heap.size, 45, #[.int .i64 W0, .int .i64 H0, .int .i64 P0, .slice a0 z0.length cap0]⟩] := by simpa only [List.append_assoc, List.cons_append, List.nil_append, List.append_nil] using S1021
  clear S1021 SM1021
  have S1021 := T1021
  clear T1021
  clear x00 x01 x02 x03 x0l
  clear hO1021 hG1021
  clear S1020
  go_wp2_with fail
  obtain ⟨K1022, HK1022⟩ : ∃ K : Int, Hid (K = K1021 + ((tl z1 z1.length : Nat) : Int)) := ⟨_, Lib.hid rfl⟩
  have hK1022 : 0 ≤ K1022 ∧ K1022 ≤ 16000001 := by have := HK1022.out; have hz : tot z1 = z1.length + tl z1 z1.length := rfl; omega
  have SM1022 : GS w u1021 ((M1019 ++ (ri u1014.drew.heap.size u1016.heap.size (.slice A1016 z0.length c1016) z0 :: (ri u1011.heap.size u1012.heap.size (.slice A1012 RX.length c1012) RX :: []))) ++ M1011 ++ (ri u1008.heap.size u1009.heap.size (.slice A1009 z0.length c1009) (marks 1 (z0.length)) :: (ri u1006.heap.size u1007.heap.size (.slice A1007 RX.length c1007) RX :: (M1006 ++ (ri u1004.heap.size u1005.heap.size (.slice A1005 z0.length c1005) z0 :: []))))) [⟨u1012.heap.size, 25, #[.int .i64 R1, .int .i64 R2, .int .i64 R3, .slice A1012 RX.length c1012]⟩, ⟨u1009.heap.size, 25, #[.int .i64 W0, .int .i64 H0, .int .i64 P0, .slice A1009 z0.length c1009]⟩, ⟨u1007.heap.size, 25, #[.int .i64 R1, .int .i64 R2, .int .i64 R3, .slice A1007 RX.length c1007]⟩, ⟨w.heap.size, 45, #[.int .i64 W0, .int .i64 H0, .int .i64 P0, .slice a0 z0.length cap0]⟩] := by simpa only [List.append_assoc, List.cons_append, List.nil_append, List.append_nil] using S1021
  refine (markIntSS_any (L1 := (M1019 ++ (ri u1014.drew.heap.size u1016.heap.size (.slice A1016 z0.length c1016) z0 :: (ri u1011.heap.size u1012.heap.size (.slice A1012 RX.length c1012) RX :: [])))) (L2 := (ri u1008.heap.size u1009.heap.size (.slice A1009 z0.length c1009) (marks 1 (z0.length)) :: (ri u1006.heap.size u1007.heap.size (.slice A1007 RX.length c1007) RX :: (M1006 ++ (ri u1004.heap.size u1005.heap.size (.slice A1005 z0.length c1005) z0 :: []))))) (M := M1011) A1011 c1011 _ z1 rfl K1021 _ SM1022 hM1011 (by omega) (by omega) (by omega)).mono ?_
  rintro e u1022 ⟨he, M1022, hM1022, hS1022⟩
  rw [← HK1022.out] at he
  subst he
  have S1022 : GS w u1022 (M1019 ++ (ri u1014.drew.heap.size u1016.heap.size (.slice A1016 z0.length c1016) z0 :: (ri u1011.heap.size u1012.heap.size (.slice A1012 RX.length c1012) RX :: (M1022 ++ (ri u1008.heap.size u1009.heap.size (.slice A1009 z0.length c1009) (marks 1 (z0.length)) :: (ri u1006.heap.size u1007.heap.size (.slice A1007 RX.length c1007) RX :: (M1006 ++ (ri u1004.heap.size u1005.heap.size (.slice A1005 z0.length c1005) z0 :: [])))))))) [⟨u1012.heap.size, 25, #[.int .i64 R1, .int .i64 R2, .int .i64 R3, .slice A1012 RX.length c1012]⟩, ⟨u1009.heap.size, 25, #[.int .i64 W0, .int .i64 H0, .int .i64 P0, .slice A1009 z0.length c1009]⟩, ⟨u1007.heap.size, 25, #[.int .i64 R1, .int .i64 R2, .int .i64 R3, .slice A1007 RX.length c1007]⟩, ⟨w.heap.size, 45, #[.int .i64 W0, .int .i64 H0, .int .i64 P0, .slice a0 z0.length cap0]⟩] := by simpa only [List.append_assoc, List.cons_append, List.nil_append, List.append_nil] using hS1022
  clear hS1022 SM1022
  clear S1021
  obtain ⟨g00, g01, g02, g03⟩ := S1022.c4 (g := u1012.heap.size) (T := 25) (a0 := .int .i64 R1) (a1 := .int .i64 R2) (a2 := .int .i64 R3) (a3 := .slice A1012 RX.length c1012) (by simp)
  have g0l := S1022.lt (g := u1012.heap.size) (T := 25) (cs := #[.int .i64 R1, .int .i64 R2, .int .i64 R3, .slice A1012 RX.length c1012]) (by simp)
  obtain ⟨w00, w01, w02, w03⟩ := S1022.c4 (g := u1007.heap.size) (T := 25) (a0 := .int .i64 R1) (a1 := .int .i64 R2) (a2 := .int .i64 R3) (a3 := .slice A1007 RX.length c1007) (by simp)
  have w0l := S1022.lt (g := u1007.heap.size) (T := 25) (cs := #[.int .i64 R1, .int .i64 R2, .int .i64 R3, .slice A1007 RX.length c1007]) (by simp)
  go_wp2_with fail
  refine (eqImage_same R1 R2 R3 A1012 A1007 c1012 c1007 _ _ RX _ rfl rfl (S1022.rds (lo := u1011.heap.size) (hi := u1012.heap.size) (A := A1012) (n := RX.length) (c := c1012) (by simp)) (S1022.rds (lo := u1006.heap.size) (hi := u1007.heap.size) (A := A1007) (n := RX.length) (c := c1007) (by simp)) (by omega)).mono ?_
  rintro e u1023 ⟨rfl, hB1023⟩
  have S1023 := S1022.call hB1023
  clear g00 g01 g02 g03 g0l w00 w01 w02 w03 w0l
  clear hB1023
  clear S1022
  obtain ⟨g00, g01, g02, g03⟩ := S1023.c4 (g := u1012.heap.size) (T := 25) (a0 := .int .i64 R1) (a1 := .int .i64 R2) (a2 := .int .i64 R3) (a3 := .slice A1012 RX.length c1012) (by simp)
  have g0l := S1023.lt (g := u1012.heap.size) (T := 25) (cs := #[.int .i64 R1, .int .i64 R2, .int .i64 R3, .slice A1012 RX.length c1012]) (by simp)
  go_wp2_with fail
  obtain ⟨K1024, HK1024⟩ : ∃ K : Int, Hid (K = 1 + ((RX.length : Nat) : Int)) := ⟨_, Lib.hid rfl⟩
  have hK1024 : 0 ≤ K1024 ∧ K1024 ≤ 8000001 := by have := HK1024.out; omega
  refine (markImage_any R1 R2 R3 (.slice A1012 RX.length c1012) u1011.heap.size RX 1 _ (S1023.own (lo := u1011.heap.size) (hi := u1012.heap.size) (by simp)) (by omega) (by omega) (by omega)).mono ?_
  rintro e u1024 ⟨he, hO1024, hG1024⟩
  rw [← HK1024.out] at he
  subst he
  have SM1024 : GS w u1023 ((M1019 ++ (ri u1014.drew.heap.size u1016.heap.size (.slice A1016 z0.length c1016) z0 :: [])) ++ ri u1011.heap.size u1012.heap.size (.slice A1012 RX.length c1012) RX :: (M1022 ++ (ri u1008.heap.size u1009.heap.size (.slice A1009 z0.length c1009) (marks 1 (z0.length)) :: (ri u1006.heap.size u1007.heap.size (.slice A1007 RX.length c1007) RX :: (M1006 ++ (ri u1004.heap.size u1005.heap.size (.slice A1005 z0.length c1005) z0 :: [])))))) [⟨u1012.heap.size, 25, #[.int .i64 R1, .int .i64 R2, .int .i64 R3, .slice A1012 RX.length c1012]⟩, ⟨u1009.heap.size, 25, #[.int .i64 W0, .int .i64 H0, .int .i64 P0, .slice A1009 z0.length c1009]⟩, ⟨u1007.heap.size, 25, #[.int .i64 R1, .int .i64 R2, .int .i64 R3, .slice A1007 RX.length c1007]⟩, ⟨w.heap.size, 45, #[.int .i64 W0, .int .i64 H0, .int .i64 P0, .slice a0 z0.length cap0]⟩] := by simpa only [List.append_assoc, List.cons_append, List.nil_append, List.append_nil] using S1023
  have S1024 := GS.mark (L1 := (M1019 ++ (ri u1014.drew.heap.size u1016.heap.size (.slice A1016 z0.length c1016) z0 :: []))) (L2 := (M1022 ++ (ri u1008.heap.size u1009.heap.size (.slice A1009 z0.length c1009) (marks 1 (z0.length)) :: (ri u1006.heap.size u1007.heap.size (.slice A1007 RX.length c1007) RX :: (M1006 ++ (ri u1004.heap.size u1005.heap.size (.slice A1005 z0.length c1005) z0 :: [])))))) (lo := u1011.heap.size) (hi := u1012.heap.size) (v := .slice A1012 RX.length c1012) (xs := RX) SM1024 hO1024 (by simp [marks]) hG1024
  have T1024 : GS w u1024 (M1019 ++ (ri u1014.drew.heap.size u1016.heap.size (.slice A1016 z0.length c1016) z0 :: (ri u1011.heap.size u1012.heap.size (.slice A1012 RX.length c1012) (marks 1 (RX.length)) :: (M1022 ++ (ri u1008.heap.size u1009.heap.size (.slice A1009 z0.length c1009) (marks 1 (z0.length)) :: (ri u1006.heap.size u1007.heap.size (.slice A1007 RX.length c1007) RX :: (M1006 ++ (ri u1004.heap.size u1005.heap.size (.slice A1005 z0.length c1005) z0 :: [])))))))) [⟨u1012.heap.size, 25, #[.int .i64 R1, .int .i64 R2, .int .i64 R3, .slice A1012 RX.length c1012]⟩, ⟨u1009.heap.size, 25, #[.int .i64 W0, .int .i64 H0, .int .i64 P0, .slice A1009 z0.length c1009]⟩, ⟨u1007.heap.size, 25, #[.int .i64 R1, .int .i64 R2, .int .i64 R3, .slice A1007 RX.length c1007]⟩, ⟨w.heap.size, 45, #[.int .i64 W0, .int .i64 H0, .int .i64 P0, .slice a0 z0.length cap0]⟩] := by simpa only [List.append_assoc, List.cons_append, List.nil_append, List.append_nil] using S1024
  clear S1024 SM1024
  have S1024 := T1024
  clear T1024
  clear g00 g01 g02 g03 g0l
  clear hO1024 hG1024
  clear S1023
  obtain ⟨g00, g01, g02, g03⟩ := S1024.c4 (g := u1012.heap.size) (T := 25) (a0 := .int .i64 R1) (a1 := .int .i64 R2) (a2 := .int .i64 R3) (a3 := .slice A1012 RX.length c1012) (by simp)
  have g0l := S1024.lt (g := u1012.heap.size) (T := 25) (cs := #[.int .i64 R1, .int .i64 R2, .int .i64 R3, .slice A1012 RX.length c1012]) (by simp)
  go_wp2_with fail
  refine (heldImage_any R1 R2 R3 A1012 c1012 RX.length 1 _ (S1024.rds (lo := u1011.heap.size) (hi := u1012.heap.size) (A := A1012) (n := RX.length) (c := c1012) (by simp)) (by omega) (by omega) (by omega)).mono ?_
  rintro e u1025 ⟨he, hB1025⟩
  rw [← HK1024.out] at he
  subst he
  have S1025 := S1024.call hB1025
  clear g00 g01 g02 g03 g0l
  clear hB1025
  clear S1024
  obtain ⟨b00, b01, b02, b03⟩ := S1025.c4 (g := w.heap.size) (T := 45) (a0 := .int .i64 W0) (a1 := .int .i64 H0) (a2 := .int .i64 P0) (a3 := .slice a0 z0.length cap0) (by simp)
  have b0l := S1025.lt (g := w.heap.size) (T := 45) (cs := #[.int .i64 W0, .int .i64 H0, .int .i64 P0, .slice a0 z0.length cap0]) (by simp)
  go_wp2_with fail
  refine (toImage_any W0 H0 P0 a0 cap0 z0 _ (S1025.arg HR0.out) (by omega)).mono ?_
  rintro e u1026 ⟨v1026, rfl, hO1026, hB1026⟩
  obtain ⟨A1026, c1026, rfl, hc1026⟩ := hO1026.slice
  have S1026 := S1025.add hO1026 hB1026
  clear b00 b01 b02 b03 b0l
  clear hB1026 hO1026
  clear S1025
  go_wp2_with fail
  refine (toIntSS_any a1 cap1 z1 _ (S1026.argSS HR1.out) (by omega)).mono ?_
  rintro e u1027 ⟨M1027, A1027, c1027, rfl, hc1027, hM1027, hB1027⟩
  have S1027 := S1026.addM hB1027
  clear hB1027
  clear S1026
  go_wp2_with fail
  refine (HI.out A1026 c1026 A1027 c1027 _ (S1027.rds (lo := u1025.heap.size) (hi := u1026.heap.size) (A := A1026) (n := z0.length) (c := c1026) (by simp)) hc1026 (LsM.rds S1027 hM1027 (fun t ht => by simp [ht])) hc1027).mono ?_
  rintro e u1028 ⟨v1028, rfl, hO1028, hB1028⟩
  obtain ⟨A1028, c1028, rfl, hc1028⟩ := hO1028.slice
  have S1028 := S1027.add hO1028 hB1028
  clear hB1028 hO1028
  clear S1027
  obtain ⟨w00, w01, w02, w03⟩ := S1028.c4 (g := u1007.heap.size) (T := 25) (a0 := .int .i64 R1) (a1 := .int .i64 R2) (a2 := .int .i64 R3) (a3 := .slice A1007 RX.length c1007) (by simp)
  have w0l := S1028.lt (g := u1007.heap.size) (T := 25) (cs := #[.int .i64 R1, .int .i64 R2, .int .i64 R3, .slice A1007 RX.length c1007]) (by simp)
  have S1029 : GS w (u1028.alloc (.cells #[.int .i64 R1, .int .i64 R2, .int .i64 R3, .slice A1028 RX.length c1028] 25)) (ri u1027.heap.size u1028.heap.size (.slice A1028 RX.length c1028) RX :: (M1027 ++ (ri u1025.heap.size u1026.heap.size (.slice A1026 z0.length c1026) z0 :: (M1019 ++ (ri u1014.drew.heap.size u1016.heap.size (.slice A1016 z0.length c1016) z0 :: (ri u1011.heap.size u1012.heap.size (.slice A1012 RX.length c1012) (marks 1 (RX.length)) :: (M1022 ++ (ri u1008.heap.size u1009.heap.size (.slice A1009 z0.length c1009) (marks 1 (z0.length)) :: (ri u1006.heap.size u1007.heap.size (.slice A1007 RX.length c1007) RX :: (M1006 ++ (ri u1004.heap.size u1005.heap.size (.slice A1005 z0.length c1005) z0 :: []))))))))))) [⟨u1028.heap.size, 25, #[.int .i64 R1, .int .i64 R2, .int .i64 R3, .slice A1028 RX.length c1028]⟩, ⟨u1012.heap.size, 25, #[.int .i64 R1, .int .i64 R2, .int .i64 R3, .slice A1012 RX.length c1012]⟩, ⟨u1009.heap.size, 25, #[.int .i64 W0, .int .i64 H0, .int .i64 P0, .slice A1009 z0.length c1009]⟩, ⟨u1007.heap.size, 25, #[.int .i64 R1, .int .i64 R2, .int .i64 R3, .slice A1007 RX.length c1007]⟩, ⟨w.heap.size, 45, #[.int .i64 W0, .int .i64 H0, .int .i64 P0, .slice a0 z0.length cap0]⟩] := GS.box S1028 25 #[.int .i64 R1, .int .i64 R2, .int .i64 R3, .slice A1028 RX.length c1028]
  go_wp2_with fail
  clear w00 w01 w02 w03 w0l
  clear S1028
  generalize u1028.alloc (.cells #[.int .i64 R1, .int .i64 R2, .int .i64 R3, .slice A1028 RX.length c1028] 25) = u1029 at *
  refine (eqImage_same R1 R2 R3 A1028 A1007 c1028 c1007 _ _ RX _ rfl rfl (S1029.rds (lo := u1027.heap.size) (hi := u1028.heap.size) (A := A1028) (n := RX.length) (c := c1028) (by simp)) (S1029.rds (lo := u1006.heap.size) (hi := u1007.heap.size) (A := A1007) (n := RX.length) (c := c1007) (by simp)) (by omega)).mono ?_
  rintro e u1030 ⟨rfl, hB1030⟩
  have S1030 := S1029.call hB1030
  clear hB1030
  clear S1029
  obtain ⟨g00, g01, g02, g03⟩ := S1030.c4 (g := u1012.heap.size) (T := 25) (a0 := .int .i64 R1) (a1 := .int .i64 R2) (a2 := .int .i64 R3) (a3 := .slice A1012 RX.length c1012) (by simp)
  have g0l := S1030.lt (g := u1012.heap.size) (T := 25) (cs := #[.int .i64 R1, .int .i64 R2, .int .i64 R3, .slice A1012 RX.length c1012]) (by simp)
  go_wp2_with fail
  refine (heldImage_any R1 R2 R3 A1012 c1012 RX.length 1 _ (S1030.rds (lo := u1011.heap.size) (hi := u1012.heap.size) (A := A1012) (n := RX.length) (c := c1012) (by simp)) (by omega) (by omega) (by omega)).mono ?_
  rintro e u1031 ⟨he, hB1031⟩
  rw [← HK1024.out] at he
  subst he
  have S1031 := S1030.call hB1031
  clear g00 g01 g02 g03 g0l
  clear hB1031
  clear S1030
  go_wp2
  go_ret
  exact ⟨rfl, S1031.below⟩

/-! ### From the walk to the statement. -/
theorem own : ownKnob Try.prog.godebug = none := by kernel_rfl
theorem laidOut : laidOutB Try.prog = true := by kernel_rfl
set_option maxRecDepth 100000 in
theorem lifted (os : Os) (started : os.Started) (H : Type) (enc : TypeId × Value → H) :
    ReturnsInHanded {} Try.checked os 9 .any (Rows.fnExactIndexImageSpec.pre6 enc Try.prog Try.f9 Rows.fnExactIndexImageRow.domain false) (Rows.fnExactIndexImageSpec.post enc Try.prog Try.f9 false true false false) := by
  refine returnsInHanded_of_change (C := Try.checked) own started (by kernel_rfl) Try.func9
    (ChangeSpec.witness6 (enc := enc) (C := Try.checked) false ⟨#[], #[.agg #[.int .i64 0, .int .i64 0, .int .i64 0, .slice none 0 0], .slice none 0 0], []⟩ 8 (by kernel_rfl) (by kernel_rfl) (by kernel_rfl) (by kernel_rfl)) ?_
  intro W base args ds gs before hval0 hW hcnd _
  have hval : ∀ (j : Nat) t v, Try.f9.params[j]? = some t → args[j]? = some v → Value.okWide Try.prog W .any base t v := hval0
  have hW' := hW
  obtain ⟨p, q, hA0, hV, rfl, hfz, hnd⟩ := hW
  have hA : DataW.TrodAll enc Try.prog W 0 (fun _ => true) true Try.f9.params.toList args.toList ds p := hA0
  rw [Try.params9] at hA hval
  obtain ⟨v0, vs0, d0, ds0, p0, q0, hargs, rfl, rfl, h0, r0⟩ := trodAll_cons hA
  obtain ⟨v1, vs1, d1, ds1, p1, q1, rfl, rfl, rfl, h1, r1⟩ := trodAll_cons r0
  obtain ⟨rfl, rfl, rfl⟩ := trodAll_nil r1
  obtain rfl : args = #[v0, v1] := by cases args; simp_all
  obtain ⟨rfl, rfl⟩ := trodVars_none hV
  have k0 := h0
  have lt0 : ∀ x ∈ p0, x.block < W.heap.size := by obtain ⟨m, hm⟩ := k0; exact DataW.trod_lt m _ _ _ hm
  obtain ⟨x0a, x0b, x0c, x0d, y0a, y0b, y0c, y0d, m0, rfl, rfl, rfl, g0a, g0b, g0c, g0d⟩ := Joins.open_agg4 Try.underlying45 (by kernel_rfl) (by kernel_rfl) (hval 0 45 v0 rfl rfl) h0
  obtain ⟨n0a, e0a, rfl, f0a⟩ := DataW.trod_int Try.underlying3 g0a
  simp at e0a
  subst e0a
  obtain ⟨n0b, e0b, rfl, f0b⟩ := DataW.trod_int Try.underlying3 g0b
  simp at e0b
  subst e0b
  obtain ⟨n0c, e0c, rfl, f0c⟩ := DataW.trod_int Try.underlying3 g0c
  simp at e0c
  subst e0c
  obtain ⟨a0, cap0, z0, hv0, hc0, w0⟩ : ∃ (A : Option Addr) (c : Nat) (zs : List Int), x0d = .slice A zs.length c ∧ zs.length ≤ c ∧ Rdw .i64 W W.heap.size A zs := by
    rcases open_ints Try.underlying23 Try.underlying3 (by kernel_rfl) g0d with ⟨hcs, _⟩ | ⟨x, l, c, zs, hcs, _, hl, hm, hz, _, hcell, hwz⟩
    · simp at hcs
      exact ⟨none, 0, [], hcs, Nat.le_refl _, Rdw.nil⟩
    · simp at hcs
      have hzl : (zs.take l).length = l := by simp at hz ⊢; omega
      exact ⟨some x, c, zs.take l, by rw [hzl]; exact hcs, by rw [hzl]; exact hl, Rdw.of_row hl hm (by simpa using hz) hcell hwz⟩
  subst hv0
  obtain ⟨a1, len1, cap1, rfl⟩ := okWide_slice Try.underlying27 (hval 1 27 v1 rfl rfl)
  have k1 := h1
  have lt1 : ∀ x ∈ p1, x.block < W.heap.size := by obtain ⟨m, hm⟩ := k1; exact DataW.trod_lt m _ _ _ hm
  obtain ⟨z1, hn1, hc1, hm1, w1, f1⟩ : ∃ zs : List (List Int), len1 = zs.length ∧ zs.length ≤ cap1 ∧ zs.length ≤ maxLen ∧ Rdss W W.heap.size a1 zs ∧ ∀ i, i < zs.length → (zs.getD i []).length ≤ maxLen := by
    obtain ⟨fuel, hf⟩ := h1
    obtain ⟨A, c, zs, hcs, r⟩ := open_lists Try.underlying27 Try.underlying23 Try.underlying3 (by kernel_rfl) (by kernel_rfl) hf
    simp [Value.cells] at hcs
    obtain ⟨rfl, rfl, rfl⟩ := hcs
    exact ⟨zs, rfl, r⟩
  subst hn1
  clear hA0 hval0
  refine (walk W n0a n0b n0c a0 cap0 z0 hc0 w0 a1 cap1 z1 hc1 hm1 w1 f1).mono fun e W' ⟨he, bel⟩ => ?_
  subst he
  exact ⟨_, rfl, _, _, _, [], _, [], hW', trodAll_mk1 (shut_bool Try.underlying4 _), (trodAll_cons_mk (Below.trod laidOut (by kernel_rfl) (of_decide_eq_true (by kernel_rfl)) k0 bel lt0) (trodAll_cons_mk (Below.trod laidOut (by kernel_rfl) (of_decide_eq_true (by kernel_rfl)) k1 bel lt1) trodAll_mk0)), rfl, bel.frame _, fun h => by cases h⟩

theorem over : Rows.fnExactIndexImageRow.holds Try.pinned (OpenSpec.ofChange Rows.fnExactIndexImageSpec) :=
  OpenClaim.holds_of_wide 9 Try.f9 rfl rfl rfl rfl rfl rfl rfl ⟨rfl, rfl, rfl, rfl, rfl⟩ rfl rfl rfl rfl rfl (by kernel_rfl) Try.func9 (by kernel_rfl)
    (of_decide_eq_true (by kernel_rfl)) (by unfold Func.isWrapper; first | (rw [if_pos (by decide +kernel)]; kernel_rfl) | (rw [if_neg (by decide +kernel)]; exact ⟨rfl, rfl⟩))
    (fun os started H enc _ => lifted os started H enc)

theorem proved : Rows.FnExactIndexImageSaid := over
end Go.Proofs.Ytkjebidkkopalaa.fnExactIndexImage
