/- FindImage of the program answers what the model answers, for every two images, and changes nothing of them. -/
import Derived.Test.YtfjcbdpepbcjcaaRows
import Derived.WalkKit
import Derived.ProofKit
import Derived.OpenShut
import Derived.ShutString
import Derived.ChangeOld
import Derived.Below
import Derived.Lib.SmallJoins
import Derived.Test.YtfjcbdpepbcjcaaGen
import Derived.Test.YtfjcbdpepbcjcaaSz
import Derived.Deep.Cut
import Derived.Deep.RegionHeld3
import Derived.Test.YtfjcbdpepbcjcaaFndI
import Derived.Test.YtfjcbdpepbcjcaaIStL
import Derived.Test.YtfjcbdpepbcjcaaEqB1
namespace Go.Proofs.Ytfjcbdpepbcjcaa.fnExactFindImage
open Go.ChangeShapes Go.WideShapes Go.ChangeAt Go.RowKit
open Go.ChangeMaps (open_string shut_string)
set_option linter.unusedVariables false

def FC (f : FuncId) (W0 H0 P0 : Int) (z0 : List Int) (W1 H1 P1 : Int) (z1 : List Int) (R1 R2 R3 R4 : Int) (n1 : Int) : Prop :=
  ∀ (A0 : Option Addr) (c0 : Nat) (A1 : Option Addr) (c1 : Nat) (w : World), Rds .i64 w w.heap.size A0 z0 → z0.length ≤ c0 → Rds .i64 w w.heap.size A1 z1 → z1.length ≤ c1 → Calls Try.prog f #[.agg #[.int .i64 W0, .int .i64 H0, .int .i64 P0, .slice A0 z0.length c0], .agg #[.int .i64 W1, .int .i64 H1, .int .i64 P1, .slice A1 z1.length c1]] w fun e w' => e = .returned (.tuple #[.agg #[.int .i64 R1, .int .i64 R2, .int .i64 R3, .int .i64 R4], .int .i64 n1]) ∧ Below w.heap.size w w'
set_option maxHeartbeats 16000000 in
set_option maxRecDepth 8000 in
theorem walk (w : World) (W0 H0 P0 : Int) (a0 : Option Addr) (cap0 : Nat) (z0 : List Int) (hc0 : z0.length ≤ cap0) (w0 : Rdw .i64 w w.heap.size a0 z0) (W1 H1 P1 : Int) (a1 : Option Addr) (cap1 : Nat) (z1 : List Int) (hc1 : z1.length ≤ cap1) (w1 : Rdw .i64 w w.heap.size a1 z1) :
    Calls Try.prog 3 #[.agg #[.int .i64 W0, .int .i64 H0, .int .i64 P0, .slice a0 z0.length cap0], .agg #[.int .i64 W1, .int .i64 H1, .int .i64 P1, .slice a1 z1.length cap1]] w fun e w' => e = .returned (.bool true) ∧ Below w.heap.size w w' := by
  have hm0 := w0.2.1
  unfold maxLen at hm0
  have HR0 := Lib.hid w0.1
  clear w0
  have hm1 := w1.2.1
  unfold maxLen at hm1
  have HR1 := Lib.hid w1.1
  clear w1
  have S0 : GS w ((w.alloc (.cells #[.int .i64 W0, .int .i64 H0, .int .i64 P0, .slice a0 z0.length cap0] 24)).alloc (.cells #[.int .i64 W1, .int .i64 H1, .int .i64 P1, .slice a1 z1.length cap1] 24)) [] [⟨(w.heap.size + 1), 24, #[.int .i64 W1, .int .i64 H1, .int .i64 P1, .slice a1 z1.length cap1]⟩, ⟨w.heap.size, 24, #[.int .i64 W0, .int .i64 H0, .int .i64 P0, .slice a0 z0.length cap0]⟩] := GS.box' (GS.box' (GS.start w) 24 #[.int .i64 W0, .int .i64 H0, .int .i64 P0, .slice a0 z0.length cap0] w.heap.size (by simp)) 24 #[.int .i64 W1, .int .i64 H1, .int .i64 P1, .slice a1 z1.length cap1] (w.heap.size + 1) (by simp)
  go_enter Try.func3, Try.ntmps3
  go_wp2_with fail
  generalize (w.alloc (.cells #[.int .i64 W0, .int .i64 H0, .int .i64 P0, .slice a0 z0.length cap0] 24)).alloc (.cells #[.int .i64 W1, .int .i64 H1, .int .i64 P1, .slice a1 z1.length cap1] 24) = u0 at *
  by_cases hs1001 : (1048576 : Int) < (z0.length : Nat)
  · refine (szImage_gt W0 H0 P0 a0 cap0 _ (1048576) _ (by omega) (by omega) hs1001 (by omega)).mono ?_
    rintro e uz ⟨rfl, hBz⟩
    have HSz := Lib.hid (S0.call hBz)
    clear hBz
    go_wp2
    go_ret
    exact ⟨rfl, HSz.out.below⟩
  obtain ⟨K1002, HK1002⟩ : ∃ K : Int, Hid (K = 1048576 - ((z0.length : Nat) : Int)) := ⟨_, Lib.hid rfl⟩
  have hK1002 : 0 ≤ K1002 ∧ K1002 ≤ 1048576 := by have := HK1002.out; omega
  have hb0 : z0.length ≤ 1048576 := by omega
  refine (szImage_le W0 H0 P0 a0 cap0 _ (1048576) _ (by omega) (by omega) (by omega)).mono ?_
  rintro e u1002 ⟨he, hB1002⟩
  rw [← HK1002.out] at he
  subst he
  have S1002 := S0.call hB1002
  clear hB1002
  clear S0
  obtain ⟨b10, b11, b12, b13⟩ := S1002.c4 (g := (w.heap.size + 1)) (T := 24) (a0 := .int .i64 W1) (a1 := .int .i64 H1) (a2 := .int .i64 P1) (a3 := .slice a1 z1.length cap1) (by simp)
  have b1l := S1002.lt (g := (w.heap.size + 1)) (T := 24) (cs := #[.int .i64 W1, .int .i64 H1, .int .i64 P1, .slice a1 z1.length cap1]) (by simp)
  go_wp2_with fail
  by_cases hs1003 : (K1002 : Int) < (z1.length : Nat)
  · refine (szImage_gt W1 H1 P1 a1 cap1 _ (K1002) _ (by omega) (by omega) hs1003 (by omega)).mono ?_
    rintro e uz ⟨rfl, hBz⟩
    have HSz := Lib.hid (S1002.call hBz)
    clear hBz
    go_wp2
    go_ret
    exact ⟨rfl, HSz.out.below⟩
  obtain ⟨K1004, HK1004⟩ : ∃ K : Int, Hid (K = K1002 - ((z1.length : Nat) : Int)) := ⟨_, Lib.hid rfl⟩
  have hK1004 : 0 ≤ K1004 ∧ K1004 ≤ 1048576 := by have := HK1004.out; omega
  have hb1 : z1.length ≤ 1048576 := by omega
  refine (szImage_le W1 H1 P1 a1 cap1 _ (K1002) _ (by omega) (by omega) (by omega)).mono ?_
  rintro e u1004 ⟨he, hB1004⟩
  rw [← HK1004.out] at he
  subst he
  have S1004 := S1002.call hB1004
  clear b10 b11 b12 b13 b1l
  clear hB1004
  clear S1002
  obtain ⟨R1, R2, R3, R4, n1, HI, HS⟩ : ∃ (R1 R2 R3 R4 : Int) (n1 : Int), Hid (FC 12 W0 H0 P0 z0 W1 H1 P1 z1 R1 R2 R3 R4 n1) ∧ Hid (FC 10 W0 H0 P0 z0 W1 H1 P1 z1 R1 R2 R3 R4 n1) :=
      ⟨_, _, _, _, _, Lib.hid (fun A c A2 c2 w hx hc hp hpc => i_FindImage W0 H0 P0 W1 H1 P1 A A2 c c2 z0 z1 w hx (by omega) hc hp (by omega) hpc), Lib.hid (fun A c A2 c2 w hx hc hp hpc => s_FindImage W0 H0 P0 W1 H1 P1 A A2 c c2 z0 z1 w hx (by omega) hc hp (by omega) hpc)⟩
  go_upto_region 8 with fail
  go_cut [6, 7] from 12 (fun s6 s7 wx => ∃ (gb1009 : Nat) (lo1007 hi1007 : Nat) (A1007 : Option Addr) (c1007 : Nat) (lo1006 hi1006 : Nat) (A1006 : Option Addr) (c1006 : Nat), s6 = .pointer (some ⟨gb1009, 0, none⟩) ∧ s7 = .int .i64 n1 ∧ z1.length ≤ c1007 ∧ z0.length ≤ c1006 ∧ Hid (GS w wx [ri lo1007 hi1007 (.slice A1007 z1.length c1007) z1, ri lo1006 hi1006 (.slice A1006 z0.length c1006) z0] [⟨gb1009, 27, #[.int .i64 R1, .int .i64 R2, .int .i64 R3, .int .i64 R4]⟩, ⟨(w.heap.size + 1), 24, #[.int .i64 W1, .int .i64 H1, .int .i64 P1, .slice a1 z1.length cap1]⟩, ⟨w.heap.size, 24, #[.int .i64 W0, .int .i64 H0, .int .i64 P0, .slice a0 z0.length cap0]⟩]))
  case first =>
    have HC := Lib.hid S1004.drew
    clear S1004
    go_region_held3 (fun w' => (w'.cell? ⟨w.heap.size, 0, none⟩ = some (.int .i64 W0) ∧ w'.cell? ⟨w.heap.size, 1, none⟩ = some (.int .i64 H0) ∧ w'.cell? ⟨w.heap.size, 2, none⟩ = some (.int .i64 P0) ∧ w'.cell? ⟨w.heap.size, 3, none⟩ = some (.slice a0 z0.length cap0)) ∧ (w'.cell? ⟨(w.heap.size + 1), 0, none⟩ = some (.int .i64 W1) ∧ w'.cell? ⟨(w.heap.size + 1), 1, none⟩ = some (.int .i64 H1) ∧ w'.cell? ⟨(w.heap.size + 1), 2, none⟩ = some (.int .i64 P1) ∧ w'.cell? ⟨(w.heap.size + 1), 3, none⟩ = some (.slice a1 z1.length cap1))) (first | (with_reducible exact ⟨(HC.out).c4 (T := 24) (by simp), (HC.out).c4 (T := 24) (by simp)⟩) | (with_reducible exact ⟨((GS.box HC.out 27 #[.int .i64 0, .int .i64 0, .int .i64 0, .int .i64 0])).c4 (T := 24) (by simp), ((GS.box HC.out 27 #[.int .i64 0, .int .i64 0, .int .i64 0, .int .i64 0])).c4 (T := 24) (by simp)⟩) | (with_reducible exact ⟨((GS.box HC.out 27 _)).c4 (T := 24) (by simp), ((GS.box HC.out 27 _)).c4 (T := 24) (by simp)⟩) | (with_reducible exact ⟨((GS.fill4 HC.out _ _ _ _)).c4 (T := 24) (by simp), ((GS.fill4 HC.out _ _ _ _)).c4 (T := 24) (by simp)⟩) | (exact ⟨((GS.box HC.out 27 _)).c4 (T := 24) (by simp), ((GS.box HC.out 27 _)).c4 (T := 24) (by simp)⟩)) (first | (go_at_call 11; (with_reducible refine Calls.mono (toImage_any W0 H0 P0 a0 cap0 z0 _ ?_ ?_) ?_); (first | exact HC.out.arg HR0.out | exact (GS.box HC.out 27 #[.int .i64 0, .int .i64 0, .int .i64 0, .int .i64 0]).arg HR0.out); omega; rintro e u1006 ⟨v1006, rfl, hO1006, hB1006⟩; obtain ⟨A1006, c1006, rfl, hc1006⟩ := hO1006.slice; (first | (have HD := Lib.hid (GS.add HC.out hO1006 hB1006)) | (have HD := Lib.hid (GS.add (GS.box' HC.out 27 #[.int .i64 0, .int .i64 0, .int .i64 0, .int .i64 0] (u1004.heap.size) rfl) hO1006 hB1006))); clear hB1006 hO1006; clear HC; have HC := HD; clear HD) | (go_at_call 11; (with_reducible refine Calls.mono (toImage_any W1 H1 P1 a1 cap1 z1 _ ?_ ?_) ?_); (first | exact HC.out.arg HR1.out | exact (GS.box HC.out 27 #[.int .i64 0, .int .i64 0, .int .i64 0, .int .i64 0]).arg HR1.out); omega; rintro e u1007 ⟨v1007, rfl, hO1007, hB1007⟩; obtain ⟨A1007, c1007, rfl, hc1007⟩ := hO1007.slice; (first | (have HD := Lib.hid (GS.add HC.out hO1007 hB1007)) | (have HD := Lib.hid (GS.add (GS.box' HC.out 27 #[.int .i64 0, .int .i64 0, .int .i64 0, .int .i64 0] (u1004.heap.size) rfl) hO1007 hB1007)) | (have HD := Lib.hid (GS.add (GS.box' HC.out 27 #[.int .i64 0, .int .i64 0, .int .i64 0, .int .i64 0] (u1006.heap.size) rfl) hO1007 hB1007))); clear hB1007 hO1007; clear HC; have HC := HD; clear HD) | (go_at_call 10; (refine (HS.out A1006 c1006 A1007 c1007 _ (by first | exact HC.out.rds (A := A1006) (n := z0.length) (c := c1006) (by first | exact List.mem_cons_self | exact List.mem_cons_of_mem _ List.mem_cons_self | exact List.mem_cons_of_mem _ (List.mem_cons_of_mem _ List.mem_cons_self) | exact List.mem_cons_of_mem _ (List.mem_cons_of_mem _ (List.mem_cons_of_mem _ List.mem_cons_self))) | exact (GS.box HC.out 27 #[.int .i64 0, .int .i64 0, .int .i64 0, .int .i64 0]).rds (A := A1006) (n := z0.length) (c := c1006) (by first | exact List.mem_cons_self | exact List.mem_cons_of_mem _ List.mem_cons_self | exact List.mem_cons_of_mem _ (List.mem_cons_of_mem _ List.mem_cons_self) | exact List.mem_cons_of_mem _ (List.mem_cons_of_mem _ (List.mem_cons_of_mem _ List.mem_cons_self)))) hc1006 (by first | exact HC.out.rds (A := A1007) (n := z1.length) (c := c1007) (by first | exact List.mem_cons_self | exact List.mem_cons_of_mem _ List.mem_cons_self | exact List.mem_cons_of_mem _ (List.mem_cons_of_mem _ List.mem_cons_self) | exact List.mem_cons_of_mem _ (List.mem_cons_of_mem _ (List.mem_cons_of_mem _ List.mem_cons_self))) | exact (GS.box HC.out 27 #[.int .i64 0, .int .i64 0, .int .i64 0, .int .i64 0]).rds (A := A1007) (n := z1.length) (c := c1007) (by first | exact List.mem_cons_self | exact List.mem_cons_of_mem _ List.mem_cons_self | exact List.mem_cons_of_mem _ (List.mem_cons_of_mem _ List.mem_cons_self) | exact List.mem_cons_of_mem _ (List.mem_cons_of_mem _ (List.mem_cons_of_mem _ List.mem_cons_self)))) hc1007).mono ?_); rintro e u1008 ⟨rfl, hB1008⟩; (first | (have HD := Lib.hid (GS.call HC.out hB1008)) | (have HD := Lib.hid (GS.call (GS.box' HC.out 27 #[.int .i64 0, .int .i64 0, .int .i64 0, .int .i64 0] (u1004.heap.size) rfl) hB1008)) | (have HD := Lib.hid (GS.call (GS.box' HC.out 27 #[.int .i64 0, .int .i64 0, .int .i64 0, .int .i64 0] (u1006.heap.size) rfl) hB1008)) | (have HD := Lib.hid (GS.call (GS.box' HC.out 27 #[.int .i64 0, .int .i64 0, .int .i64 0, .int .i64 0] (u1007.heap.size) rfl) hB1008))); clear hB1008; clear HC; have HC := HD; clear HD; (try (have hzb := HC.out.bx (g := _) (T := 27) (cs := #[.int .i64 0, .int .i64 0, .int .i64 0, .int .i64 0]) List.mem_cons_self; have zb0 := cell_of_row _ _ 0 _ _ _ hzb; have zb1 := cell_of_row _ _ 1 _ _ _ hzb; have zb2 := cell_of_row _ _ 2 _ _ _ hzb; have zb3 := cell_of_row _ _ 3 _ _ _ hzb; have zf0 := frozen_of_row _ _ 0 _ _ hzb; have zf1 := frozen_of_row _ _ 1 _ _ hzb; have zf2 := frozen_of_row _ _ 2 _ _ hzb; have zf3 := frozen_of_row _ _ 3 _ _ hzb; clear hzb))))
    all_goals
      (go_wp2_with fail; go_meet; exact ⟨_, _, _, _, _, _, _, _, _, rfl, rfl, hc1007, hc1006, Lib.hid (by first | exact GS.fill4 HC.out _ _ _ _ | exact GS.box HC.out 27 #[.int .i64 R1, .int .i64 R2, .int .i64 R3, .int .i64 R4])⟩)
  case rest =>
  obtain ⟨gb1009, lo1007, hi1007, A1007, c1007, lo1006, hi1006, A1006, c1006, rfl, rfl, hc1007, hc1006, HC⟩ := hcut
  have S1009 := HC.out
  clear HC S1004
  generalize wc = u1009 at *
  obtain ⟨b00, b01, b02, b03⟩ := S1009.c4 (g := w.heap.size) (T := 24) (a0 := .int .i64 W0) (a1 := .int .i64 H0) (a2 := .int .i64 P0) (a3 := .slice a0 z0.length cap0) (by simp)
  have b0l := S1009.lt (g := w.heap.size) (T := 24) (cs := #[.int .i64 W0, .int .i64 H0, .int .i64 P0, .slice a0 z0.length cap0]) (by simp)
  go_wp2_with fail
  refine (toImage_any W0 H0 P0 a0 cap0 z0 _ (S1009.arg HR0.out) (by omega)).mono ?_
  rintro e u1010 ⟨v1010, rfl, hO1010, hB1010⟩
  obtain ⟨A1010, c1010, rfl, hc1010⟩ := hO1010.slice
  have S1010 := S1009.add hO1010 hB1010
  clear b00 b01 b02 b03 b0l
  clear hB1010 hO1010
  clear S1009
  obtain ⟨b10, b11, b12, b13⟩ := S1010.c4 (g := (w.heap.size + 1)) (T := 24) (a0 := .int .i64 W1) (a1 := .int .i64 H1) (a2 := .int .i64 P1) (a3 := .slice a1 z1.length cap1) (by simp)
  have b1l := S1010.lt (g := (w.heap.size + 1)) (T := 24) (cs := #[.int .i64 W1, .int .i64 H1, .int .i64 P1, .slice a1 z1.length cap1]) (by simp)
  have S1011 : GS w (u1010.alloc (.cells #[.int .i64 W0, .int .i64 H0, .int .i64 P0, .slice A1010 z0.length c1010] 30)) [ri u1009.heap.size u1010.heap.size (.slice A1010 z0.length c1010) z0, ri lo1007 hi1007 (.slice A1007 z1.length c1007) z1, ri lo1006 hi1006 (.slice A1006 z0.length c1006) z0] [⟨u1010.heap.size, 30, #[.int .i64 W0, .int .i64 H0, .int .i64 P0, .slice A1010 z0.length c1010]⟩, ⟨gb1009, 27, #[.int .i64 R1, .int .i64 R2, .int .i64 R3, .int .i64 R4]⟩, ⟨(w.heap.size + 1), 24, #[.int .i64 W1, .int .i64 H1, .int .i64 P1, .slice a1 z1.length cap1]⟩, ⟨w.heap.size, 24, #[.int .i64 W0, .int .i64 H0, .int .i64 P0, .slice a0 z0.length cap0]⟩] := GS.box S1010 30 #[.int .i64 W0, .int .i64 H0, .int .i64 P0, .slice A1010 z0.length c1010]
  go_wp2_with fail
  clear b10 b11 b12 b13 b1l
  clear S1010
  generalize u1010.alloc (.cells #[.int .i64 W0, .int .i64 H0, .int .i64 P0, .slice A1010 z0.length c1010] 30) = u1011 at *
  refine (toImage_any W1 H1 P1 a1 cap1 z1 _ (S1011.arg HR1.out) (by omega)).mono ?_
  rintro e u1012 ⟨v1012, rfl, hO1012, hB1012⟩
  obtain ⟨A1012, c1012, rfl, hc1012⟩ := hO1012.slice
  have S1012 := S1011.add hO1012 hB1012
  clear hB1012 hO1012
  clear S1011
  obtain ⟨x00, x01, x02, x03⟩ := S1012.c4 (g := u1010.heap.size) (T := 30) (a0 := .int .i64 W0) (a1 := .int .i64 H0) (a2 := .int .i64 P0) (a3 := .slice A1010 z0.length c1010) (by simp)
  have x0l := S1012.lt (g := u1010.heap.size) (T := 30) (cs := #[.int .i64 W0, .int .i64 H0, .int .i64 P0, .slice A1010 z0.length c1010]) (by simp)
  have S1013 : GS w (u1012.alloc (.cells #[.int .i64 W1, .int .i64 H1, .int .i64 P1, .slice A1012 z1.length c1012] 30)) [ri u1011.heap.size u1012.heap.size (.slice A1012 z1.length c1012) z1, ri u1009.heap.size u1010.heap.size (.slice A1010 z0.length c1010) z0, ri lo1007 hi1007 (.slice A1007 z1.length c1007) z1, ri lo1006 hi1006 (.slice A1006 z0.length c1006) z0] [⟨u1012.heap.size, 30, #[.int .i64 W1, .int .i64 H1, .int .i64 P1, .slice A1012 z1.length c1012]⟩, ⟨u1010.heap.size, 30, #[.int .i64 W0, .int .i64 H0, .int .i64 P0, .slice A1010 z0.length c1010]⟩, ⟨gb1009, 27, #[.int .i64 R1, .int .i64 R2, .int .i64 R3, .int .i64 R4]⟩, ⟨(w.heap.size + 1), 24, #[.int .i64 W1, .int .i64 H1, .int .i64 P1, .slice a1 z1.length cap1]⟩, ⟨w.heap.size, 24, #[.int .i64 W0, .int .i64 H0, .int .i64 P0, .slice a0 z0.length cap0]⟩] := GS.box S1012 30 #[.int .i64 W1, .int .i64 H1, .int .i64 P1, .slice A1012 z1.length c1012]
  go_wp2_with fail
  clear x00 x01 x02 x03 x0l
  clear S1012
  generalize u1012.alloc (.cells #[.int .i64 W1, .int .i64 H1, .int .i64 P1, .slice A1012 z1.length c1012] 30) = u1013 at *
  refine (HI.out A1010 c1010 A1012 c1012 _ (S1013.rds (lo := u1009.heap.size) (hi := u1010.heap.size) (A := A1010) (n := z0.length) (c := c1010) (by simp)) hc1010 (S1013.rds (lo := u1011.heap.size) (hi := u1012.heap.size) (A := A1012) (n := z1.length) (c := c1012) (by simp)) hc1012).mono ?_
  rintro e u1014 ⟨rfl, hB1014⟩
  have S1014 := S1013.call hB1014
  clear hB1014
  clear S1013
  obtain ⟨w00, w01, w02, w03⟩ := S1014.c4 (g := gb1009) (T := 27) (a0 := .int .i64 R1) (a1 := .int .i64 R2) (a2 := .int .i64 R3) (a3 := .int .i64 R4) (by simp)
  have w0l := S1014.lt (g := gb1009) (T := 27) (cs := #[.int .i64 R1, .int .i64 R2, .int .i64 R3, .int .i64 R4]) (by simp)
  have S1015 : GS w (u1014.alloc (.cells #[.int .i64 R1, .int .i64 R2, .int .i64 R3, .int .i64 R4] 27)) [ri u1011.heap.size u1012.heap.size (.slice A1012 z1.length c1012) z1, ri u1009.heap.size u1010.heap.size (.slice A1010 z0.length c1010) z0, ri lo1007 hi1007 (.slice A1007 z1.length c1007) z1, ri lo1006 hi1006 (.slice A1006 z0.length c1006) z0] [⟨u1014.heap.size, 27, #[.int .i64 R1, .int .i64 R2, .int .i64 R3, .int .i64 R4]⟩, ⟨u1012.heap.size, 30, #[.int .i64 W1, .int .i64 H1, .int .i64 P1, .slice A1012 z1.length c1012]⟩, ⟨u1010.heap.size, 30, #[.int .i64 W0, .int .i64 H0, .int .i64 P0, .slice A1010 z0.length c1010]⟩, ⟨gb1009, 27, #[.int .i64 R1, .int .i64 R2, .int .i64 R3, .int .i64 R4]⟩, ⟨(w.heap.size + 1), 24, #[.int .i64 W1, .int .i64 H1, .int .i64 P1, .slice a1 z1.length cap1]⟩, ⟨w.heap.size, 24, #[.int .i64 W0, .int .i64 H0, .int .i64 P0, .slice a0 z0.length cap0]⟩] := GS.box S1014 27 #[.int .i64 R1, .int .i64 R2, .int .i64 R3, .int .i64 R4]
  go_wp2_with fail
  clear w00 w01 w02 w03 w0l
  clear S1014
  generalize u1014.alloc (.cells #[.int .i64 R1, .int .i64 R2, .int .i64 R3, .int .i64 R4] 27) = u1015 at *
  refine (eqBox_same R1 R2 R3 R4 _).mono ?_
  rintro e u1016 ⟨rfl, hB1016⟩
  have S1016 := S1015.call hB1016
  clear hB1016
  clear S1015
  go_upto_region 14 with fail
  have HC := Lib.hid S1016.drew
  clear S1016
  go_region_held3 (fun w' => (w'.cell? ⟨u1010.heap.size, 0, none⟩ = some (.int .i64 W0) ∧ w'.cell? ⟨u1010.heap.size, 1, none⟩ = some (.int .i64 H0) ∧ w'.cell? ⟨u1010.heap.size, 2, none⟩ = some (.int .i64 P0) ∧ w'.cell? ⟨u1010.heap.size, 3, none⟩ = some (.slice A1010 z0.length c1010)) ∧ (w'.cell? ⟨w.heap.size, 0, none⟩ = some (.int .i64 W0) ∧ w'.cell? ⟨w.heap.size, 1, none⟩ = some (.int .i64 H0) ∧ w'.cell? ⟨w.heap.size, 2, none⟩ = some (.int .i64 P0) ∧ w'.cell? ⟨w.heap.size, 3, none⟩ = some (.slice a0 z0.length cap0))) (first | (with_reducible exact ⟨(HC.out).c4 (T := 30) (by simp), (HC.out).c4 (T := 24) (by simp)⟩) | (exact ⟨(HC.out).c4 (T := 30) (by simp), (HC.out).c4 (T := 24) (by simp)⟩)) (first | (go_at_call 11; (with_reducible refine Calls.mono (toImage_any W0 H0 P0 a0 cap0 z0 _ ?_ ?_) ?_); (exact HC.out.arg HR0.out); omega; rintro e u1018 ⟨v1018, rfl, hO1018, hB1018⟩; obtain ⟨A1018, c1018, rfl, hc1018⟩ := hO1018.slice; (first | (have HD := Lib.hid (GS.add HC.out hO1018 hB1018))); clear hB1018 hO1018; clear HC; have HC := HD; clear HD) | (go_at_call 14; (refine (eqImage_same W0 H0 P0 A1010 A1018 c1010 c1018 _ _ z0 _ rfl rfl (by exact HC.out.rds (lo := u1009.heap.size) (hi := u1010.heap.size) (A := A1010) (n := z0.length) (c := c1010) (by simp)) (by exact HC.out.rds (A := A1018) (n := z0.length) (c := c1018) (by first | exact List.mem_cons_self | exact List.mem_cons_of_mem _ List.mem_cons_self | exact List.mem_cons_of_mem _ (List.mem_cons_of_mem _ List.mem_cons_self) | exact List.mem_cons_of_mem _ (List.mem_cons_of_mem _ (List.mem_cons_of_mem _ List.mem_cons_self)))) (by omega)).mono ?_); rintro e u1019 ⟨rfl, hB1019⟩; (first | (have HD := Lib.hid (GS.call HC.out hB1019))); clear hB1019; clear HC; have HC := HD; clear HD))
  have S1020 := HC.out
  clear HC
  go_upto_region 16 with fail
  have HC := Lib.hid S1020.drew
  clear S1020
  go_region_held3 (fun w' => (w'.cell? ⟨u1012.heap.size, 0, none⟩ = some (.int .i64 W1) ∧ w'.cell? ⟨u1012.heap.size, 1, none⟩ = some (.int .i64 H1) ∧ w'.cell? ⟨u1012.heap.size, 2, none⟩ = some (.int .i64 P1) ∧ w'.cell? ⟨u1012.heap.size, 3, none⟩ = some (.slice A1012 z1.length c1012)) ∧ (w'.cell? ⟨(w.heap.size + 1), 0, none⟩ = some (.int .i64 W1) ∧ w'.cell? ⟨(w.heap.size + 1), 1, none⟩ = some (.int .i64 H1) ∧ w'.cell? ⟨(w.heap.size + 1), 2, none⟩ = some (.int .i64 P1) ∧ w'.cell? ⟨(w.heap.size + 1), 3, none⟩ = some (.slice a1 z1.length cap1))) (first | (with_reducible exact ⟨(HC.out).c4 (T := 30) (by simp), (HC.out).c4 (T := 24) (by simp)⟩) | (exact ⟨(HC.out).c4 (T := 30) (by simp), (HC.out).c4 (T := 24) (by simp)⟩)) (first | (go_at_call 11; (with_reducible refine Calls.mono (toImage_any W1 H1 P1 a1 cap1 z1 _ ?_ ?_) ?_); (exact HC.out.arg HR1.out); omega; rintro e u1022 ⟨v1022, rfl, hO1022, hB1022⟩; obtain ⟨A1022, c1022, rfl, hc1022⟩ := hO1022.slice; (first | (have HD := Lib.hid (GS.add HC.out hO1022 hB1022))); clear hB1022 hO1022; clear HC; have HC := HD; clear HD) | (go_at_call 14; (refine (eqImage_same W1 H1 P1 A1012 A1022 c1012 c1022 _ _ z1 _ rfl rfl (by exact HC.out.rds (lo := u1011.heap.size) (hi := u1012.heap.size) (A := A1012) (n := z1.length) (c := c1012) (by simp)) (by exact HC.out.rds (A := A1022) (n := z1.length) (c := c1022) (by first | exact List.mem_cons_self | exact List.mem_cons_of_mem _ List.mem_cons_self | exact List.mem_cons_of_mem _ (List.mem_cons_of_mem _ List.mem_cons_self) | exact List.mem_cons_of_mem _ (List.mem_cons_of_mem _ (List.mem_cons_of_mem _ List.mem_cons_self)))) (by omega)).mono ?_); rintro e u1023 ⟨rfl, hB1023⟩; (first | (have HD := Lib.hid (GS.call HC.out hB1023))); clear hB1023; clear HC; have HC := HD; clear HD))
  have S1024 := HC.out
  clear HC
  go_wp2
  go_ret
  exact ⟨rfl, S1024.below⟩

/-! ### From the walk to the statement. -/
theorem own : ownKnob Try.prog.godebug = none := by kernel_rfl
theorem laidOut : laidOutB Try.prog = true := by kernel_rfl
set_option maxRecDepth 100000 in
theorem lifted (os : Os) (started : os.Started) (H : Type) (enc : TypeId × Value → H) :
    ReturnsInHanded {} Try.checked os 3 .any (Rows.fnExactFindImageSpec.pre6 enc Try.prog Try.f3 Rows.fnExactFindImageRow.domain false) (Rows.fnExactFindImageSpec.post enc Try.prog Try.f3 false true false false) := by
  refine returnsInHanded_of_change (C := Try.checked) own started (by kernel_rfl) Try.func3
    (ChangeSpec.witness6 (enc := enc) (C := Try.checked) false ⟨#[], #[.agg #[.int .i64 0, .int .i64 0, .int .i64 0, .slice none 0 0], .agg #[.int .i64 0, .int .i64 0, .int .i64 0, .slice none 0 0]], []⟩ 8 (by kernel_rfl) (by kernel_rfl) (by kernel_rfl) (by kernel_rfl)) ?_
  intro W base args ds gs before hval0 hW hcnd _
  have hval : ∀ (j : Nat) t v, Try.f3.params[j]? = some t → args[j]? = some v → Value.okWide Try.prog W .any base t v := hval0
  have hW' := hW
  obtain ⟨p, q, hA0, hV, rfl, hfz, hnd⟩ := hW
  have hA : DataW.TrodAll enc Try.prog W 0 (fun _ => true) true Try.f3.params.toList args.toList ds p := hA0
  rw [Try.params3] at hA hval
  obtain ⟨v0, vs0, d0, ds0, p0, q0, hargs, rfl, rfl, h0, r0⟩ := trodAll_cons hA
  obtain ⟨v1, vs1, d1, ds1, p1, q1, rfl, rfl, rfl, h1, r1⟩ := trodAll_cons r0
  obtain ⟨rfl, rfl, rfl⟩ := trodAll_nil r1
  obtain rfl : args = #[v0, v1] := by cases args; simp_all
  obtain ⟨rfl, rfl⟩ := trodVars_none hV
  have k0 := h0
  have lt0 : ∀ x ∈ p0, x.block < W.heap.size := by obtain ⟨m, hm⟩ := k0; exact DataW.trod_lt m _ _ _ hm
  obtain ⟨x0a, x0b, x0c, x0d, y0a, y0b, y0c, y0d, m0, rfl, rfl, rfl, g0a, g0b, g0c, g0d⟩ := Joins.open_agg4 Try.underlying24 (by kernel_rfl) (by kernel_rfl) (hval 0 24 v0 rfl rfl) h0
  obtain ⟨n0a, e0a, rfl, f0a⟩ := DataW.trod_int Try.underlying3 g0a
  simp at e0a
  subst e0a
  obtain ⟨n0b, e0b, rfl, f0b⟩ := DataW.trod_int Try.underlying3 g0b
  simp at e0b
  subst e0b
  obtain ⟨n0c, e0c, rfl, f0c⟩ := DataW.trod_int Try.underlying3 g0c
  simp at e0c
  subst e0c
  obtain ⟨a0, cap0, z0, hv0, hc0, w0⟩ : ∃ (A : Option Addr) (c : Nat) (zs : List Int), x0d = .slice A zs.length c ∧ zs.length ≤ c ∧ Rdw .i64 W W.heap.size A zs := by
    rcases open_ints Try.underlying22 Try.underlying3 (by kernel_rfl) g0d with ⟨hcs, _⟩ | ⟨x, l, c, zs, hcs, _, hl, hm, hz, _, hcell, hwz⟩
    · simp at hcs
      exact ⟨none, 0, [], hcs, Nat.le_refl _, Rdw.nil⟩
    · simp at hcs
      have hzl : (zs.take l).length = l := by simp at hz ⊢; omega
      exact ⟨some x, c, zs.take l, by rw [hzl]; exact hcs, by rw [hzl]; exact hl, Rdw.of_row hl hm (by simpa using hz) hcell hwz⟩
  subst hv0
  have k1 := h1
  have lt1 : ∀ x ∈ p1, x.block < W.heap.size := by obtain ⟨m, hm⟩ := k1; exact DataW.trod_lt m _ _ _ hm
  obtain ⟨x1a, x1b, x1c, x1d, y1a, y1b, y1c, y1d, m1, rfl, rfl, rfl, g1a, g1b, g1c, g1d⟩ := Joins.open_agg4 Try.underlying24 (by kernel_rfl) (by kernel_rfl) (hval 1 24 v1 rfl rfl) h1
  obtain ⟨n1a, e1a, rfl, f1a⟩ := DataW.trod_int Try.underlying3 g1a
  simp at e1a
  subst e1a
  obtain ⟨n1b, e1b, rfl, f1b⟩ := DataW.trod_int Try.underlying3 g1b
  simp at e1b
  subst e1b
  obtain ⟨n1c, e1c, rfl, f1c⟩ := DataW.trod_int Try.underlying3 g1c
  simp at e1c
  subst e1c
  obtain ⟨a1, cap1, z1, hv1, hc1, w1⟩ : ∃ (A : Option Addr) (c : Nat) (zs : List Int), x1d = .slice A zs.length c ∧ zs.length ≤ c ∧ Rdw .i64 W W.heap.size A zs := by
    rcases open_ints Try.underlying22 Try.underlying3 (by kernel_rfl) g1d with ⟨hcs, _⟩ | ⟨x, l, c, zs, hcs, _, hl, hm, hz, _, hcell, hwz⟩
    · simp at hcs
      exact ⟨none, 0, [], hcs, Nat.le_refl _, Rdw.nil⟩
    · simp at hcs
      have hzl : (zs.take l).length = l := by simp at hz ⊢; omega
      exact ⟨some x, c, zs.take l, by rw [hzl]; exact hcs, by rw [hzl]; exact hl, Rdw.of_row hl hm (by simpa using hz) hcell hwz⟩
  subst hv1
  clear hA0 hval0
  refine (walk W n0a n0b n0c a0 cap0 z0 hc0 w0 n1a n1b n1c a1 cap1 z1 hc1 w1).mono fun e W' ⟨he, bel⟩ => ?_
  subst he
  exact ⟨_, rfl, _, _, _, [], _, [], hW', trodAll_mk1 (shut_bool Try.underlying4 _), (trodAll_cons_mk (Below.trod laidOut (by kernel_rfl) (of_decide_eq_true (by kernel_rfl)) k0 bel lt0) (trodAll_cons_mk (Below.trod laidOut (by kernel_rfl) (of_decide_eq_true (by kernel_rfl)) k1 bel lt1) trodAll_mk0)), rfl, bel.frame _, fun h => by cases h⟩

theorem over : Rows.fnExactFindImageRow.holds Try.pinned (OpenSpec.ofChange Rows.fnExactFindImageSpec) :=
  OpenClaim.holds_of_wide 3 Try.f3 rfl rfl rfl rfl rfl rfl rfl ⟨rfl, rfl, rfl, rfl, rfl⟩ rfl rfl rfl rfl rfl (by kernel_rfl) Try.func3 (by kernel_rfl)
    (of_decide_eq_true (by kernel_rfl)) (by unfold Func.isWrapper; first | (rw [if_pos (by decide +kernel)]; kernel_rfl) | (rw [if_neg (by decide +kernel)]; exact ⟨rfl, rfl⟩))
    (fun os started H enc _ => lifted os started H enc)

theorem proved : Rows.FnExactFindImageSaid := over
end Go.Proofs.Ytfjcbdpepbcjcaa.fnExactFindImage
