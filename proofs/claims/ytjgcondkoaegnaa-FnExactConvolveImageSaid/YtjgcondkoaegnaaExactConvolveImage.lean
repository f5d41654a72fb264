/- ConvolveImage of the program answers what the model answers, for every image and every kernel; it writes into no argument, and its answer owns its memory. -/
import Derived.Test.YtjgcondkoaegnaaRows
import Derived.WalkKit
import Derived.ProofKit
import Derived.OpenShut
import Derived.ShutString
import Derived.ChangeOld
import Derived.Below
import Derived.Lib.SmallJoins
import Derived.Test.YtjgcondkoaegnaaGen
import Derived.Test.YtjgcondkoaegnaaSz
import Derived.Deep.Cut
import Derived.Deep.RegionHeld3
import Derived.Test.YtjgcondkoaegnaaCvlS
import Derived.Test.YtjgcondkoaegnaaIStL
namespace Go.Proofs.Ytjgcondkoaegnaa.fnExactConvolveImage
open Go.ChangeShapes Go.WideShapes Go.ChangeAt Go.RowKit
open Go.ChangeMaps (open_string shut_string)
set_option linter.unusedVariables false

theorem cv_len (W H P : Int) (xs : List Int) (R : Int) (ks : List Int) (D : Int) : (cond (cvOk W H P xs R ks D) (cvL W.toNat H.toNat P.toNat xs R.toNat ks D.toNat) []).length ≤ 2000000 := by
  cases h : cvOk W H P xs R ks D
  · simp
  · unfold cvOk at h
    rw [Bool.and_eq_true] at h
    obtain ⟨W, H, P, rfl, rfl, rfl, _, hW, _, hH, _, hP, _⟩ := vim_nat h.1
    show (cvL W H P xs R.toNat ks D.toNat).length ≤ 2000000
    unfold cvL
    rw [img_len]
    have h1 := Nat.mul_le_mul hW hH
    have h2 := Nat.mul_le_mul h1 hP
    omega
def FC (f : FuncId) (W0 H0 P0 : Int) (z0 : List Int) (kr1 kd1 : Int) (z1 : List Int) (R1 R2 R3 : Int) (RX : List Int) : Prop :=
  ∀ (A0 : Option Addr) (c0 : Nat) (A1 : Option Addr) (c1 : Nat) (w : World), Rds .i64 w w.heap.size A0 z0 → z0.length ≤ c0 → Rds .i64 w w.heap.size A1 z1 → z1.length ≤ c1 → Calls Try.prog f #[.agg #[.int .i64 W0, .int .i64 H0, .int .i64 P0, .slice A0 z0.length c0], .agg #[.int .i64 kr1, .slice A1 z1.length c1, .int .i64 kd1]] w fun e w' => ∃ v, e = .returned (.agg #[.int .i64 R1, .int .i64 R2, .int .i64 R3, v]) ∧ Own w' w.heap.size v RX ∧ Below w.heap.size w w'
set_option maxHeartbeats 16000000 in
set_option maxRecDepth 8000 in
theorem walk (w : World) (W0 H0 P0 : Int) (a0 : Option Addr) (cap0 : Nat) (z0 : List Int) (hc0 : z0.length ≤ cap0) (w0 : Rdw .i64 w w.heap.size a0 z0) (kr1 kd1 : Int) (a1 : Option Addr) (cap1 : Nat) (z1 : List Int) (hc1 : z1.length ≤ cap1) (w1 : Rdw .i64 w w.heap.size a1 z1) :
    Calls Try.prog 3 #[.agg #[.int .i64 W0, .int .i64 H0, .int .i64 P0, .slice a0 z0.length cap0], .agg #[.int .i64 kr1, .slice a1 z1.length cap1, .int .i64 kd1]] w fun e w' => e = .returned (.bool true) ∧ Below w.heap.size w w' := by
  have hm0 := w0.2.1
  unfold maxLen at hm0
  have HR0 := Lib.hid w0.1
  clear w0
  have hm1 := w1.2.1
  unfold maxLen at hm1
  have HR1 := Lib.hid w1.1
  clear w1
  have S0 : GS w ((w.alloc (.cells #[.int .i64 W0, .int .i64 H0, .int .i64 P0, .slice a0 z0.length cap0] 24)).alloc (.cells #[.int .i64 kr1, .slice a1 z1.length cap1, .int .i64 kd1] 26)) [] [⟨(w.heap.size + 1), 26, #[.int .i64 kr1, .slice a1 z1.length cap1, .int .i64 kd1]⟩, ⟨w.heap.size, 24, #[.int .i64 W0, .int .i64 H0, .int .i64 P0, .slice a0 z0.length cap0]⟩] := GS.box' (GS.box' (GS.start w) 24 #[.int .i64 W0, .int .i64 H0, .int .i64 P0, .slice a0 z0.length cap0] w.heap.size (by simp)) 26 #[.int .i64 kr1, .slice a1 z1.length cap1, .int .i64 kd1] (w.heap.size + 1) (by simp)
  go_enter Try.func3, Try.ntmps3
  go_wp2_with fail
  generalize (w.alloc (.cells #[.int .i64 W0, .int .i64 H0, .int .i64 P0, .slice a0 z0.length cap0] 24)).alloc (.cells #[.int .i64 kr1, .slice a1 z1.length cap1, .int .i64 kd1] 26) = u0 at *
  by_cases hs1001 : (1048576 : Int) < (z0.length : Nat)
  · refine (szImage_gt W0 H0 P0 a0 cap0 _ (1048576) _ (by omega) (by omega) hs1001 (by omega)).mono ?_
    rintro e uz ⟨rfl, hBz⟩
    have HSz := Lib.hid (S0.call hBz)
    clear hBz
    go_wp2
    go_ret
    exact ⟨rfl, HSz.out.below⟩
  obtain ⟨K1002, HK1002⟩ : ∃ K : Int, Hid (K = 1048576 - ((z0.length : Nat) : Int)) := ⟨_, Lib.hid rfl⟩
  have hK1002 : 0 ≤ K1002 ∧ K1002 ≤ 1048576 := by have := HK1002.out; omega
  have hb0 : z0.length ≤ 1048576 := by omega
  refine (szImage_le W0 H0 P0 a0 cap0 _ (1048576) _ (by omega) (by omega) (by omega)).mono ?_
  rintro e u1002 ⟨he, hB1002⟩
  rw [← HK1002.out] at he
  subst he
  have S1002 := S0.call hB1002
  clear hB1002
  clear S0
  obtain ⟨b10, b11, b12⟩ := S1002.c3 (g := (w.heap.size + 1)) (T := 26) (a0 := .int .i64 kr1) (a1 := .slice a1 z1.length cap1) (a2 := .int .i64 kd1) (by simp)
  have b1l := S1002.lt (g := (w.heap.size + 1)) (T := 26) (cs := #[.int .i64 kr1, .slice a1 z1.length cap1, .int .i64 kd1]) (by simp)
  go_wp2_with fail
  by_cases hs1003 : (K1002 : Int) < (z1.length : Nat)
  · refine (szKernel_gt kr1 kd1 a1 cap1 _ (K1002) _ (by omega) (by omega) hs1003 (by omega)).mono ?_
    rintro e uz ⟨rfl, hBz⟩
    have HSz := Lib.hid (S1002.call hBz)
    clear hBz
    go_wp2
    go_ret
    exact ⟨rfl, HSz.out.below⟩
  obtain ⟨K1004, HK1004⟩ : ∃ K : Int, Hid (K = K1002 - ((z1.length : Nat) : Int)) := ⟨_, Lib.hid rfl⟩
  have hK1004 : 0 ≤ K1004 ∧ K1004 ≤ 1048576 := by have := HK1004.out; omega
  have hb1 : z1.length ≤ 1048576 := by omega
  refine (szKernel_le kr1 kd1 a1 cap1 _ (K1002) _ (by omega) (by omega) (by omega)).mono ?_
  rintro e u1004 ⟨he, hB1004⟩
  rw [← HK1004.out] at he
  subst he
  have S1004 := S1002.call hB1004
  clear b10 b11 b12 b1l
  clear hB1004
  clear S1002
  obtain ⟨R1, R2, R3, RX, hRX, HI, HS⟩ : ∃ (R1 R2 R3 : Int) (RX : List Int), RX.length ≤ 2000000 ∧ Hid (FC 11 W0 H0 P0 z0 kr1 kd1 z1 R1 R2 R3 RX) ∧ Hid (FC 8 W0 H0 P0 z0 kr1 kd1 z1 R1 R2 R3 RX) :=
      ⟨_, _, _, _, cv_len W0 H0 P0 z0 kr1 z1 kd1, Lib.hid (fun A c A2 c2 w hx hc hk hkc => i_ConvolveImage W0 H0 P0 A c z0 kr1 kd1 A2 c2 z1 w hx (by omega) hc hk (by omega)), Lib.hid (fun A c A2 c2 w hx hc hk hkc => s_ConvolveImage W0 H0 P0 A c z0 kr1 kd1 A2 c2 z1 w hx (by omega) hc hk (by omega))⟩
  go_upto_region 8 with fail
  go_cut [6] from 14 (fun s6 wx => ∃ (gb1009 : Nat) (lo1008 hi1008 : Nat) (A1008 : Option Addr) (c1008 : Nat) (lo1007 hi1007 : Nat) (A1007 : Option Addr) (c1007 : Nat) (lo1006 hi1006 : Nat) (A1006 : Option Addr) (c1006 : Nat), s6 = .pointer (some ⟨gb1009, 0, none⟩) ∧ RX.length ≤ c1008 ∧ z1.length ≤ c1007 ∧ z0.length ≤ c1006 ∧ Hid (GS w wx [ri lo1008 hi1008 (.slice A1008 RX.length c1008) RX, ri lo1007 hi1007 (.slice A1007 z1.length c1007) z1, ri lo1006 hi1006 (.slice A1006 z0.length c1006) z0] [⟨gb1009, 29, #[.int .i64 R1, .int .i64 R2, .int .i64 R3, .slice A1008 RX.length c1008]⟩, ⟨(w.heap.size + 1), 26, #[.int .i64 kr1, .slice a1 z1.length cap1, .int .i64 kd1]⟩, ⟨w.heap.size, 24, #[.int .i64 W0, .int .i64 H0, .int .i64 P0, .slice a0 z0.length cap0]⟩]))
  case first =>
    have HC := Lib.hid S1004.drew
    clear S1004
    go_region_held3 (fun w' => (w'.cell? ⟨w.heap.size, 0, none⟩ = some (.int .i64 W0) ∧ w'.cell? ⟨w.heap.size, 1, none⟩ = some (.int .i64 H0) ∧ w'.cell? ⟨w.heap.size, 2, none⟩ = some (.int .i64 P0) ∧ w'.cell? ⟨w.heap.size, 3, none⟩ = some (.slice a0 z0.length cap0)) ∧ (w'.cell? ⟨(w.heap.size + 1), 0, none⟩ = some (.int .i64 kr1) ∧ w'.cell? ⟨(w.heap.size + 1), 1, none⟩ = some (.slice a1 z1.length cap1) ∧ w'.cell? ⟨(w.heap.size + 1), 2, none⟩ = some (.int .i64 kd1))) (first | (with_reducible exact ⟨(HC.out).c4 (T := 24) (by simp), (HC.out).c3 (T := 26) (by simp)⟩) | (with_reducible exact ⟨((GS.box HC.out 29 #[.int .i64 0, .int .i64 0, .int .i64 0, .slice none 0 0])).c4 (T := 24) (by simp), ((GS.box HC.out 29 #[.int .i64 0, .int .i64 0, .int .i64 0, .slice none 0 0])).c3 (T := 26) (by simp)⟩) | (with_reducible exact ⟨((GS.box HC.out 29 _)).c4 (T := 24) (by simp), ((GS.box HC.out 29 _)).c3 (T := 26) (by simp)⟩) | (with_reducible exact ⟨((GS.fill4 HC.out _ _ _ _)).c4 (T := 24) (by simp), ((GS.fill4 HC.out _ _ _ _)).c3 (T := 26) (by simp)⟩) | (exact ⟨((GS.box HC.out 29 _)).c4 (T := 24) (by simp), ((GS.box HC.out 29 _)).c3 (T := 26) (by simp)⟩)) (first | (go_at_call 9; (with_reducible refine Calls.mono (toImage_any W0 H0 P0 a0 cap0 z0 _ ?_ ?_) ?_); (first | exact HC.out.arg HR0.out | exact (GS.box HC.out 29 #[.int .i64 0, .int .i64 0, .int .i64 0, .slice none 0 0]).arg HR0.out); omega; rintro e u1006 ⟨v1006, rfl, hO1006, hB1006⟩; obtain ⟨A1006, c1006, rfl, hc1006⟩ := hO1006.slice; (first | (have HD := Lib.hid (GS.add HC.out hO1006 hB1006)) | (have HD := Lib.hid (GS.add (GS.box' HC.out 29 #[.int .i64 0, .int .i64 0, .int .i64 0, .slice none 0 0] (u1004.heap.size) rfl) hO1006 hB1006))); clear hB1006 hO1006; clear HC; have HC := HD; clear HD) | (go_at_call 10; (with_reducible refine Calls.mono (toKernel_any kr1 kd1 a1 cap1 z1 _ ?_ ?_) ?_); (first | exact HC.out.arg HR1.out | exact (GS.box HC.out 29 #[.int .i64 0, .int .i64 0, .int .i64 0, .slice none 0 0]).arg HR1.out); omega; rintro e u1007 ⟨v1007, rfl, hO1007, hB1007⟩; obtain ⟨A1007, c1007, rfl, hc1007⟩ := hO1007.slice; (first | (have HD := Lib.hid (GS.add HC.out hO1007 hB1007)) | (have HD := Lib.hid (GS.add (GS.box' HC.out 29 #[.int .i64 0, .int .i64 0, .int .i64 0, .slice none 0 0] (u1004.heap.size) rfl) hO1007 hB1007)) | (have HD := Lib.hid (GS.add (GS.box' HC.out 29 #[.int .i64 0, .int .i64 0, .int .i64 0, .slice none 0 0] (u1006.heap.size) rfl) hO1007 hB1007))); clear hB1007 hO1007; clear HC; have HC := HD; clear HD) | (go_at_call 8; (refine (HS.out A1006 c1006 A1007 c1007 _ (by first | exact HC.out.rds (A := A1006) (n := z0.length) (c := c1006) (by first | exact List.mem_cons_self | exact List.mem_cons_of_mem _ List.mem_cons_self | exact List.mem_cons_of_mem _ (List.mem_cons_of_mem _ List.mem_cons_self) | exact List.mem_cons_of_mem _ (List.mem_cons_of_mem _ (List.mem_cons_of_mem _ List.mem_cons_self))) | exact (GS.box HC.out 29 #[.int .i64 0, .int .i64 0, .int .i64 0, .slice none 0 0]).rds (A := A1006) (n := z0.length) (c := c1006) (by first | exact List.mem_cons_self | exact List.mem_cons_of_mem _ List.mem_cons_self | exact List.mem_cons_of_mem _ (List.mem_cons_of_mem _ List.mem_cons_self) | exact List.mem_cons_of_mem _ (List.mem_cons_of_mem _ (List.mem_cons_of_mem _ List.mem_cons_self)))) hc1006 (by first | exact HC.out.rds (A := A1007) (n := z1.length) (c := c1007) (by first | exact List.mem_cons_self | exact List.mem_cons_of_mem _ List.mem_cons_self | exact List.mem_cons_of_mem _ (List.mem_cons_of_mem _ List.mem_cons_self) | exact List.mem_cons_of_mem _ (List.mem_cons_of_mem _ (List.mem_cons_of_mem _ List.mem_cons_self))) | exact (GS.box HC.out 29 #[.int .i64 0, .int .i64 0, .int .i64 0, .slice none 0 0]).rds (A := A1007) (n := z1.length) (c := c1007) (by first | exact List.mem_cons_self | exact List.mem_cons_of_mem _ List.mem_cons_self | exact List.mem_cons_of_mem _ (List.mem_cons_of_mem _ List.mem_cons_self) | exact List.mem_cons_of_mem _ (List.mem_cons_of_mem _ (List.mem_cons_of_mem _ List.mem_cons_self)))) hc1007).mono ?_); rintro e u1008 ⟨v1008, rfl, hO1008, hB1008⟩; obtain ⟨A1008, c1008, rfl, hc1008⟩ := hO1008.slice; (first | (have HD := Lib.hid (GS.add HC.out hO1008 hB1008)) | (have HD := Lib.hid (GS.add (GS.box' HC.out 29 #[.int .i64 0, .int .i64 0, .int .i64 0, .slice none 0 0] (u1004.heap.size) rfl) hO1008 hB1008)) | (have HD := Lib.hid (GS.add (GS.box' HC.out 29 #[.int .i64 0, .int .i64 0, .int .i64 0, .slice none 0 0] (u1006.heap.size) rfl) hO1008 hB1008)) | (have HD := Lib.hid (GS.add (GS.box' HC.out 29 #[.int .i64 0, .int .i64 0, .int .i64 0, .slice none 0 0] (u1007.heap.size) rfl) hO1008 hB1008))); clear hB1008 hO1008; clear HC; have HC := HD; clear HD; (try (have hzb := HC.out.bx (g := _) (T := 29) (cs := #[.int .i64 0, .int .i64 0, .int .i64 0, .slice none 0 0]) List.mem_cons_self; have zb0 := cell_of_row _ _ 0 _ _ _ hzb; have zb1 := cell_of_row _ _ 1 _ _ _ hzb; have zb2 := cell_of_row _ _ 2 _ _ _ hzb; have zb3 := cell_of_row _ _ 3 _ _ _ hzb; have zf0 := frozen_of_row _ _ 0 _ _ hzb; have zf1 := frozen_of_row _ _ 1 _ _ hzb; have zf2 := frozen_of_row _ _ 2 _ _ hzb; have zf3 := frozen_of_row _ _ 3 _ _ hzb; clear hzb))))
    all_goals
      (go_wp2_with fail; go_meet; exact ⟨_, _, _, _, _, _, _, _, _, _, _, _, _, rfl, hc1008, hc1007, hc1006, Lib.hid (by first | exact GS.fill4 HC.out _ _ _ _ | exact GS.box HC.out 29 #[.int .i64 R1, .int .i64 R2, .int .i64 R3, .slice A1008 RX.length c1008])⟩)
  case rest =>
  obtain ⟨gb1009, lo1008, hi1008, A1008, c1008, lo1007, hi1007, A1007, c1007, lo1006, hi1006, A1006, c1006, rfl, hc1008, hc1007, hc1006, HC⟩ := hcut
  have S1009 := HC.out
  clear HC S1004
  generalize wc = u1009 at *
  obtain ⟨b00, b01, b02, b03⟩ := S1009.c4 (g := w.heap.size) (T := 24) (a0 := .int .i64 W0) (a1 := .int .i64 H0) (a2 := .int .i64 P0) (a3 := .slice a0 z0.length cap0) (by simp)
  have b0l := S1009.lt (g := w.heap.size) (T := 24) (cs := #[.int .i64 W0, .int .i64 H0, .int .i64 P0, .slice a0 z0.length cap0]) (by simp)
  go_wp2_with fail
  refine (toImage_any W0 H0 P0 a0 cap0 z0 _ (S1009.arg HR0.out) (by omega)).mono ?_
  rintro e u1010 ⟨v1010, rfl, hO1010, hB1010⟩
  obtain ⟨A1010, c1010, rfl, hc1010⟩ := hO1010.slice
  have S1010 := S1009.add hO1010 hB1010
  clear b00 b01 b02 b03 b0l
  clear hB1010 hO1010
  clear S1009
  obtain ⟨b10, b11, b12⟩ := S1010.c3 (g := (w.heap.size + 1)) (T := 26) (a0 := .int .i64 kr1) (a1 := .slice a1 z1.length cap1) (a2 := .int .i64 kd1) (by simp)
  have b1l := S1010.lt (g := (w.heap.size + 1)) (T := 26) (cs := #[.int .i64 kr1, .slice a1 z1.length cap1, .int .i64 kd1]) (by simp)
  have S1011 : GS w (u1010.alloc (.cells #[.int .i64 W0, .int .i64 H0, .int .i64 P0, .slice A1010 z0.length c1010] 29)) [ri u1009.heap.size u1010.heap.size (.slice A1010 z0.length c1010) z0, ri lo1008 hi1008 (.slice A1008 RX.length c1008) RX, ri lo1007 hi1007 (.slice A1007 z1.length c1007) z1, ri lo1006 hi1006 (.slice A1006 z0.length c1006) z0] [⟨u1010.heap.size, 29, #[.int .i64 W0, .int .i64 H0, .int .i64 P0, .slice A1010 z0.length c1010]⟩, ⟨gb1009, 29, #[.int .i64 R1, .int .i64 R2, .int .i64 R3, .slice A1008 RX.length c1008]⟩, ⟨(w.heap.size + 1), 26, #[.int .i64 kr1, .slice a1 z1.length cap1, .int .i64 kd1]⟩, ⟨w.heap.size, 24, #[.int .i64 W0, .int .i64 H0, .int .i64 P0, .slice a0 z0.length cap0]⟩] := GS.box S1010 29 #[.int .i64 W0, .int .i64 H0, .int .i64 P0, .slice A1010 z0.length c1010]
  go_wp2_with fail
  clear b10 b11 b12 b1l
  clear S1010
  generalize u1010.alloc (.cells #[.int .i64 W0, .int .i64 H0, .int .i64 P0, .slice A1010 z0.length c1010] 29) = u1011 at *
  refine (toKernel_any kr1 kd1 a1 cap1 z1 _ (S1011.arg HR1.out) (by omega)).mono ?_
  rintro e u1012 ⟨v1012, rfl, hO1012, hB1012⟩
  obtain ⟨A1012, c1012, rfl, hc1012⟩ := hO1012.slice
  have S1012 := S1011.add hO1012 hB1012
  clear hB1012 hO1012
  clear S1011
  obtain ⟨x00, x01, x02, x03⟩ := S1012.c4 (g := u1010.heap.size) (T := 29) (a0 := .int .i64 W0) (a1 := .int .i64 H0) (a2 := .int .i64 P0) (a3 := .slice A1010 z0.length c1010) (by simp)
  have x0l := S1012.lt (g := u1010.heap.size) (T := 29) (cs := #[.int .i64 W0, .int .i64 H0, .int .i64 P0, .slice A1010 z0.length c1010]) (by simp)
  have S1013 : GS w (u1012.alloc (.cells #[.int .i64 kr1, .slice A1012 z1.length c1012, .int .i64 kd1] 32)) [ri u1011.heap.size u1012.heap.size (.slice A1012 z1.length c1012) z1, ri u1009.heap.size u1010.heap.size (.slice A1010 z0.length c1010) z0, ri lo1008 hi1008 (.slice A1008 RX.length c1008) RX, ri lo1007 hi1007 (.slice A1007 z1.length c1007) z1, ri lo1006 hi1006 (.slice A1006 z0.length c1006) z0] [⟨u1012.heap.size, 32, #[.int .i64 kr1, .slice A1012 z1.length c1012, .int .i64 kd1]⟩, ⟨u1010.heap.size, 29, #[.int .i64 W0, .int .i64 H0, .int .i64 P0, .slice A1010 z0.length c1010]⟩, ⟨gb1009, 29, #[.int .i64 R1, .int .i64 R2, .int .i64 R3, .slice A1008 RX.length c1008]⟩, ⟨(w.heap.size + 1), 26, #[.int .i64 kr1, .slice a1 z1.length cap1, .int .i64 kd1]⟩, ⟨w.heap.size, 24, #[.int .i64 W0, .int .i64 H0, .int .i64 P0, .slice a0 z0.length cap0]⟩] := GS.box S1012 32 #[.int .i64 kr1, .slice A1012 z1.length c1012, .int .i64 kd1]
  go_wp2_with fail
  clear x00 x01 x02 x03 x0l
  clear S1012
  generalize u1012.alloc (.cells #[.int .i64 kr1, .slice A1012 z1.length c1012, .int .i64 kd1] 32) = u1013 at *
  refine (HI.out A1010 c1010 A1012 c1012 _ (S1013.rds (lo := u1009.heap.size) (hi := u1010.heap.size) (A := A1010) (n := z0.length) (c := c1010) (by simp)) hc1010 (S1013.rds (lo := u1011.heap.size) (hi := u1012.heap.size) (A := A1012) (n := z1.length) (c := c1012) (by simp)) hc1012).mono ?_
  rintro e u1014 ⟨v1014, rfl, hO1014, hB1014⟩
  obtain ⟨A1014, c1014, rfl, hc1014⟩ := hO1014.slice
  have S1014 := S1013.add hO1014 hB1014
  clear hB1014 hO1014
  clear S1013
  obtain ⟨w00, w01, w02, w03⟩ := S1014.c4 (g := gb1009) (T := 29) (a0 := .int .i64 R1) (a1 := .int .i64 R2) (a2 := .int .i64 R3) (a3 := .slice A1008 RX.length c1008) (by simp)
  have w0l := S1014.lt (g := gb1009) (T := 29) (cs := #[.int .i64 R1, .int .i64 R2, .int .i64 R3, .slice A1008 RX.length c1008]) (by simp)
  have S1015 : GS w (u1014.alloc (.cells #[.int .i64 R1, .int .i64 R2, .int .i64 R3, .slice A1014 RX.length c1014] 29)) [ri u1013.heap.size u1014.heap.size (.slice A1014 RX.length c1014) RX, ri u1011.heap.size u1012.heap.size (.slice A1012 z1.length c1012) z1, ri u1009.heap.size u1010.heap.size (.slice A1010 z0.length c1010) z0, ri lo1008 hi1008 (.slice A1008 RX.length c1008) RX, ri lo1007 hi1007 (.slice A1007 z1.length c1007) z1, ri lo1006 hi1006 (.slice A1006 z0.length c1006) z0] [⟨u1014.heap.size, 29, #[.int .i64 R1, .int .i64 R2, .int .i64 R3, .slice A1014 RX.length c1014]⟩, ⟨u1012.heap.size, 32, #[.int .i64 kr1, .slice A1012 z1.length c1012, .int .i64 kd1]⟩, ⟨u1010.heap.size, 29, #[.int .i64 W0, .int .i64 H0, .int .i64 P0, .slice A1010 z0.length c1010]⟩, ⟨gb1009, 29, #[.int .i64 R1, .int .i64 R2, .int .i64 R3, .slice A1008 RX.length c1008]⟩, ⟨(w.heap.size + 1), 26, #[.int .i64 kr1, .slice a1 z1.length cap1, .int .i64 kd1]⟩, ⟨w.heap.size, 24, #[.int .i64 W0, .int .i64 H0, .int .i64 P0, .slice a0 z0.length cap0]⟩] := GS.box S1014 29 #[.int .i64 R1, .int .i64 R2, .int .i64 R3, .slice A1014 RX.length c1014]
  go_wp2_with fail
  clear w00 w01 w02 w03 w0l
  clear S1014
  generalize u1014.alloc (.cells #[.int .i64 R1, .int .i64 R2, .int .i64 R3, .slice A1014 RX.length c1014] 29) = u1015 at *
  refine (eqImage_same R1 R2 R3 A1014 A1008 c1014 c1008 _ _ RX _ rfl rfl (S1015.rds (lo := u1013.heap.size) (hi := u1014.heap.size) (A := A1014) (n := RX.length) (c := c1014) (by simp)) (S1015.rds (lo := lo1008) (hi := hi1008) (A := A1008) (n := RX.length) (c := c1008) (by simp)) (by omega)).mono ?_
  rintro e u1016 ⟨rfl, hB1016⟩
  have S1016 := S1015.call hB1016
  clear hB1016
  clear S1015
  go_upto_region 14 with fail
  have HC := Lib.hid S1016.drew
  clear S1016
  go_region_held3 (fun w' => (w'.cell? ⟨u1010.heap.size, 0, none⟩ = some (.int .i64 W0) ∧ w'.cell? ⟨u1010.heap.size, 1, none⟩ = some (.int .i64 H0) ∧ w'.cell? ⟨u1010.heap.size, 2, none⟩ = some (.int .i64 P0) ∧ w'.cell? ⟨u1010.heap.size, 3, none⟩ = some (.slice A1010 z0.length c1010)) ∧ (w'.cell? ⟨w.heap.size, 0, none⟩ = some (.int .i64 W0) ∧ w'.cell? ⟨w.heap.size, 1, none⟩ = some (.int .i64 H0) ∧ w'.cell? ⟨w.heap.size, 2, none⟩ = some (.int .i64 P0) ∧ w'.cell? ⟨w.heap.size, 3, none⟩ = some (.slice a0 z0.length cap0))) (first | (with_reducible exact ⟨(HC.out).c4 (T := 29) (by simp), (HC.out).c4 (T := 24) (by simp)⟩) | (exact ⟨(HC.out).c4 (T := 29) (by simp), (HC.out).c4 (T := 24) (by simp)⟩)) (first | (go_at_call 9; (with_reducible refine Calls.mono (toImage_any W0 H0 P0 a0 cap0 z0 _ ?_ ?_) ?_); (exact HC.out.arg HR0.out); omega; rintro e u1018 ⟨v1018, rfl, hO1018, hB1018⟩; obtain ⟨A1018, c1018, rfl, hc1018⟩ := hO1018.slice; (first | (have HD := Lib.hid (GS.add HC.out hO1018 hB1018))); clear hB1018 hO1018; clear HC; have HC := HD; clear HD) | (go_at_call 12; (refine (eqImage_same W0 H0 P0 A1010 A1018 c1010 c1018 _ _ z0 _ rfl rfl (by exact HC.out.rds (lo := u1009.heap.size) (hi := u1010.heap.size) (A := A1010) (n := z0.length) (c := c1010) (by simp)) (by exact HC.out.rds (A := A1018) (n := z0.length) (c := c1018) (by first | exact List.mem_cons_self | exact List.mem_cons_of_mem _ List.mem_cons_self | exact List.mem_cons_of_mem _ (List.mem_cons_of_mem _ List.mem_cons_self) | exact List.mem_cons_of_mem _ (List.mem_cons_of_mem _ (List.mem_cons_of_mem _ List.mem_cons_self)))) (by omega)).mono ?_); rintro e u1019 ⟨rfl, hB1019⟩; (first | (have HD := Lib.hid (GS.call HC.out hB1019))); clear hB1019; clear HC; have HC := HD; clear HD))
  have S1020 := HC.out
  clear HC
  go_upto_region 16 with fail
  have HC := Lib.hid S1020.drew
  clear S1020
  go_region_held3 (fun w' => (w'.cell? ⟨u1012.heap.size, 0, none⟩ = some (.int .i64 kr1) ∧ w'.cell? ⟨u1012.heap.size, 1, none⟩ = some (.slice A1012 z1.length c1012) ∧ w'.cell? ⟨u1012.heap.size, 2, none⟩ = some (.int .i64 kd1)) ∧ (w'.cell? ⟨(w.heap.size + 1), 0, none⟩ = some (.int .i64 kr1) ∧ w'.cell? ⟨(w.heap.size + 1), 1, none⟩ = some (.slice a1 z1.length cap1) ∧ w'.cell? ⟨(w.heap.size + 1), 2, none⟩ = some (.int .i64 kd1))) (first | (with_reducible exact ⟨(HC.out).c3 (T := 32) (by simp), (HC.out).c3 (T := 26) (by simp)⟩) | (exact ⟨(HC.out).c3 (T := 32) (by simp), (HC.out).c3 (T := 26) (by simp)⟩)) (first | (go_at_call 10; (with_reducible refine Calls.mono (toKernel_any kr1 kd1 a1 cap1 z1 _ ?_ ?_) ?_); (exact HC.out.arg HR1.out); omega; rintro e u1022 ⟨v1022, rfl, hO1022, hB1022⟩; obtain ⟨A1022, c1022, rfl, hc1022⟩ := hO1022.slice; (first | (have HD := Lib.hid (GS.add HC.out hO1022 hB1022))); clear hB1022 hO1022; clear HC; have HC := HD; clear HD) | (go_at_call 13; (refine (eqKernel_same kr1 kd1 A1012 A1022 c1012 c1022 _ _ z1 _ rfl rfl (by exact HC.out.rds (lo := u1011.heap.size) (hi := u1012.heap.size) (A := A1012) (n := z1.length) (c := c1012) (by simp)) (by exact HC.out.rds (A := A1022) (n := z1.length) (c := c1022) (by first | exact List.mem_cons_self | exact List.mem_cons_of_mem _ List.mem_cons_self | exact List.mem_cons_of_mem _ (List.mem_cons_of_mem _ List.mem_cons_self) | exact List.mem_cons_of_mem _ (List.mem_cons_of_mem _ (List.mem_cons_of_mem _ List.mem_cons_self)))) (by omega)).mono ?_); rintro e u1023 ⟨rfl, hB1023⟩; (first | (have HD := Lib.hid (GS.call HC.out hB1023))); clear hB1023; clear HC; have HC := HD; clear HD))
  have S1024 := HC.out
  clear HC
  obtain ⟨x00, x01, x02, x03⟩ := S1024.c4 (g := u1010.heap.size) (T := 29) (a0 := .int .i64 W0) (a1 := .int .i64 H0) (a2 := .int .i64 P0) (a3 := .slice A1010 z0.length c1010) (by simp)
  have x0l := S1024.lt (g := u1010.heap.size) (T := 29) (cs := #[.int .i64 W0, .int .i64 H0, .int .i64 P0, .slice A1010 z0.length c1010]) (by simp)
  go_wp2_with fail
  obtain ⟨K1025, HK1025⟩ : ∃ K : Int, Hid (K = 1 + ((z0.length : Nat) : Int)) := ⟨_, Lib.hid rfl⟩
  have hK1025 : 0 ≤ K1025 ∧ K1025 ≤ 8000001 := by have := HK1025.out; omega
  refine (markImage_any W0 H0 P0 (.slice A1010 z0.length c1010) u1009.heap.size z0 1 _ (S1024.own (lo := u1009.heap.size) (hi := u1010.heap.size) (by simp)) (by omega) (by omega) (by omega)).mono ?_
  rintro e u1025 ⟨he, hO1025, hG1025⟩
  rw [← HK1025.out] at he
  subst he
  have S1025 := GS.mark (L1 := [ri u1019.drew.heap.size u1022.heap.size (.slice A1022 z1.length c1022) z1, ri u1016.drew.heap.size u1018.heap.size (.slice A1018 z0.length c1018) z0, ri u1013.heap.size u1014.heap.size (.slice A1014 RX.length c1014) RX, ri u1011.heap.size u1012.heap.size (.slice A1012 z1.length c1012) z1]) (L2 := [ri lo1008 hi1008 (.slice A1008 RX.length c1008) RX, ri lo1007 hi1007 (.slice A1007 z1.length c1007) z1, ri lo1006 hi1006 (.slice A1006 z0.length c1006) z0]) (lo := u1009.heap.size) (hi := u1010.heap.size) (v := .slice A1010 z0.length c1010) (xs := z0) S1024 hO1025 (by simp [marks]) hG1025
  clear x00 x01 x02 x03 x0l
  clear hO1025 hG1025
  clear S1024
  obtain ⟨x10, x11, x12⟩ := S1025.c3 (g := u1012.heap.size) (T := 32) (a0 := .int .i64 kr1) (a1 := .slice A1012 z1.length c1012) (a2 := .int .i64 kd1) (by simp)
  have x1l := S1025.lt (g := u1012.heap.size) (T := 32) (cs := #[.int .i64 kr1, .slice A1012 z1.length c1012, .int .i64 kd1]) (by simp)
  go_wp2_with fail
  obtain ⟨K1026, HK1026⟩ : ∃ K : Int, Hid (K = K1025 + ((z1.length : Nat) : Int)) := ⟨_, Lib.hid rfl⟩
  have hK1026 : 0 ≤ K1026 ∧ K1026 ≤ 16000001 := by have := HK1026.out; omega
  refine (markKernel_any kr1 kd1 (.slice A1012 z1.length c1012) u1011.heap.size z1 K1025 _ (S1025.own (lo := u1011.heap.size) (hi := u1012.heap.size) (by simp)) (by omega) (by omega) (by omega)).mono ?_
  rintro e u1026 ⟨he, hO1026, hG1026⟩
  rw [← HK1026.out] at he
  subst he
  have S1026 := GS.mark (L1 := [ri u1019.drew.heap.size u1022.heap.size (.slice A1022 z1.length c1022) z1, ri u1016.drew.heap.size u1018.heap.size (.slice A1018 z0.length c1018) z0, ri u1013.heap.size u1014.heap.size (.slice A1014 RX.length c1014) RX]) (L2 := [ri u1009.heap.size u1010.heap.size (.slice A1010 z0.length c1010) (marks 1 (z0.length)), ri lo1008 hi1008 (.slice A1008 RX.length c1008) RX, ri lo1007 hi1007 (.slice A1007 z1.length c1007) z1, ri lo1006 hi1006 (.slice A1006 z0.length c1006) z0]) (lo := u1011.heap.size) (hi := u1012.heap.size) (v := .slice A1012 z1.length c1012) (xs := z1) S1025 hO1026 (by simp [marks]) hG1026
  clear x10 x11 x12 x1l
  clear hO1026 hG1026
  clear S1025
  obtain ⟨g00, g01, g02, g03⟩ := S1026.c4 (g := u1014.heap.size) (T := 29) (a0 := .int .i64 R1) (a1 := .int .i64 R2) (a2 := .int .i64 R3) (a3 := .slice A1014 RX.length c1014) (by simp)
  have g0l := S1026.lt (g := u1014.heap.size) (T := 29) (cs := #[.int .i64 R1, .int .i64 R2, .int .i64 R3, .slice A1014 RX.length c1014]) (by simp)
  obtain ⟨w00, w01, w02, w03⟩ := S1026.c4 (g := gb1009) (T := 29) (a0 := .int .i64 R1) (a1 := .int .i64 R2) (a2 := .int .i64 R3) (a3 := .slice A1008 RX.length c1008) (by simp)
  have w0l := S1026.lt (g := gb1009) (T := 29) (cs := #[.int .i64 R1, .int .i64 R2, .int .i64 R3, .slice A1008 RX.length c1008]) (by simp)
  go_wp2_with fail
  refine (eqImage_same R1 R2 R3 A1014 A1008 c1014 c1008 _ _ RX _ rfl rfl (S1026.rds (lo := u1013.heap.size) (hi := u1014.heap.size) (A := A1014) (n := RX.length) (c := c1014) (by simp)) (S1026.rds (lo := lo1008) (hi := hi1008) (A := A1008) (n := RX.length) (c := c1008) (by simp)) (by omega)).mono ?_
  rintro e u1027 ⟨rfl, hB1027⟩
  have S1027 := S1026.call hB1027
  clear g00 g01 g02 g03 g0l w00 w01 w02 w03 w0l
  clear hB1027
  clear S1026
  obtain ⟨g00, g01, g02, g03⟩ := S1027.c4 (g := u1014.heap.size) (T := 29) (a0 := .int .i64 R1) (a1 := .int .i64 R2) (a2 := .int .i64 R3) (a3 := .slice A1014 RX.length c1014) (by simp)
  have g0l := S1027.lt (g := u1014.heap.size) (T := 29) (cs := #[.int .i64 R1, .int .i64 R2, .int .i64 R3, .slice A1014 RX.length c1014]) (by simp)
  go_wp2_with fail
  obtain ⟨K1028, HK1028⟩ : ∃ K : Int, Hid (K = 1 + ((RX.length : Nat) : Int)) := ⟨_, Lib.hid rfl⟩
  have hK1028 : 0 ≤ K1028 ∧ K1028 ≤ 8000001 := by have := HK1028.out; omega
  refine (markImage_any R1 R2 R3 (.slice A1014 RX.length c1014) u1013.heap.size RX 1 _ (S1027.own (lo := u1013.heap.size) (hi := u1014.heap.size) (by simp)) (by omega) (by omega) (by omega)).mono ?_
  rintro e u1028 ⟨he, hO1028, hG1028⟩
  rw [← HK1028.out] at he
  subst he
  have S1028 := GS.mark (L1 := [ri u1019.drew.heap.size u1022.heap.size (.slice A1022 z1.length c1022) z1, ri u1016.drew.heap.size u1018.heap.size (.slice A1018 z0.length c1018) z0]) (L2 := [ri u1011.heap.size u1012.heap.size (.slice A1012 z1.length c1012) (marks K1025 (z1.length)), ri u1009.heap.size u1010.heap.size (.slice A1010 z0.length c1010) (marks 1 (z0.length)), ri lo1008 hi1008 (.slice A1008 RX.length c1008) RX, ri lo1007 hi1007 (.slice A1007 z1.length c1007) z1, ri lo1006 hi1006 (.slice A1006 z0.length c1006) z0]) (lo := u1013.heap.size) (hi := u1014.heap.size) (v := .slice A1014 RX.length c1014) (xs := RX) S1027 hO1028 (by simp [marks]) hG1028
  clear g00 g01 g02 g03 g0l
  clear hO1028 hG1028
  clear S1027
  obtain ⟨g00, g01, g02, g03⟩ := S1028.c4 (g := u1014.heap.size) (T := 29) (a0 := .int .i64 R1) (a1 := .int .i64 R2) (a2 := .int .i64 R3) (a3 := .slice A1014 RX.length c1014) (by simp)
  have g0l := S1028.lt (g := u1014.heap.size) (T := 29) (cs := #[.int .i64 R1, .int .i64 R2, .int .i64 R3, .slice A1014 RX.length c1014]) (by simp)
  go_wp2_with fail
  refine (heldImage_any R1 R2 R3 A1014 c1014 RX.length 1 _ (S1028.rds (lo := u1013.heap.size) (hi := u1014.heap.size) (A := A1014) (n := RX.length) (c := c1014) (by simp)) (by omega) (by omega) (by omega)).mono ?_
  rintro e u1029 ⟨he, hB1029⟩
  rw [← HK1028.out] at he
  subst he
  have S1029 := S1028.call hB1029
  clear g00 g01 g02 g03 g0l
  clear hB1029
  clear S1028
  go_upto_region 31 with fail
  go_cut [13] from 14 (fun s13 wx => ∃ (gb1034 : Nat) (lo1033 hi1033 : Nat) (A1033 : Option Addr) (c1033 : Nat) (lo1032 hi1032 : Nat) (A1032 : Option Addr) (c1032 : Nat) (lo1031 hi1031 : Nat) (A1031 : Option Addr) (c1031 : Nat), s13 = .pointer (some ⟨gb1034, 0, none⟩) ∧ RX.length ≤ c1033 ∧ z1.length ≤ c1032 ∧ z0.length ≤ c1031 ∧ Hid (GS w wx [ri lo1033 hi1033 (.slice A1033 RX.length c1033) RX, ri lo1032 hi1032 (.slice A1032 z1.length c1032) z1, ri lo1031 hi1031 (.slice A1031 z0.length c1031) z0, ri u1019.drew.heap.size u1022.heap.size (.slice A1022 z1.length c1022) z1, ri u1016.drew.heap.size u1018.heap.size (.slice A1018 z0.length c1018) z0, ri u1013.heap.size u1014.heap.size (.slice A1014 RX.length c1014) (marks 1 (RX.length)), ri u1011.heap.size u1012.heap.size (.slice A1012 z1.length c1012) (marks K1025 (z1.length)), ri u1009.heap.size u1010.heap.size (.slice A1010 z0.length c1010) (marks 1 (z0.length)), ri lo1008 hi1008 (.slice A1008 RX.length c1008) RX, ri lo1007 hi1007 (.slice A1007 z1.length c1007) z1, ri lo1006 hi1006 (.slice A1006 z0.length c1006) z0] [⟨gb1034, 29, #[.int .i64 R1, .int .i64 R2, .int .i64 R3, .slice A1033 RX.length c1033]⟩, ⟨u1014.heap.size, 29, #[.int .i64 R1, .int .i64 R2, .int .i64 R3, .slice A1014 RX.length c1014]⟩, ⟨u1012.heap.size, 32, #[.int .i64 kr1, .slice A1012 z1.length c1012, .int .i64 kd1]⟩, ⟨u1010.heap.size, 29, #[.int .i64 W0, .int .i64 H0, .int .i64 P0, .slice A1010 z0.length c1010]⟩, ⟨gb1009, 29, #[.int .i64 R1, .int .i64 R2, .int .i64 R3, .slice A1008 RX.length c1008]⟩, ⟨(w.heap.size + 1), 26, #[.int .i64 kr1, .slice a1 z1.length cap1, .int .i64 kd1]⟩, ⟨w.heap.size, 24, #[.int .i64 W0, .int .i64 H0, .int .i64 P0, .slice a0 z0.length cap0]⟩]))
  case first =>
    have HC := Lib.hid S1029.drew
    clear S1029
    go_region_held3 (fun w' => (w'.cell? ⟨w.heap.size, 0, none⟩ = some (.int .i64 W0) ∧ w'.cell? ⟨w.heap.size, 1, none⟩ = some (.int .i64 H0) ∧ w'.cell? ⟨w.heap.size, 2, none⟩ = some (.int .i64 P0) ∧ w'.cell? ⟨w.heap.size, 3, none⟩ = some (.slice a0 z0.length cap0)) ∧ (w'.cell? ⟨(w.heap.size + 1), 0, none⟩ = some (.int .i64 kr1) ∧ w'.cell? ⟨(w.heap.size + 1), 1, none⟩ = some (.slice a1 z1.length cap1) ∧ w'.cell? ⟨(w.heap.size + 1), 2, none⟩ = some (.int .i64 kd1))) (first | (with_reducible exact ⟨(HC.out).c4 (T := 24) (by simp), (HC.out).c3 (T := 26) (by simp)⟩) | (with_reducible exact ⟨((GS.box HC.out 29 #[.int .i64 0, .int .i64 0, .int .i64 0, .slice none 0 0])).c4 (T := 24) (by simp), ((GS.box HC.out 29 #[.int .i64 0, .int .i64 0, .int .i64 0, .slice none 0 0])).c3 (T := 26) (by simp)⟩) | (with_reducible exact ⟨((GS.box HC.out 29 _)).c4 (T := 24) (by simp), ((GS.box HC.out 29 _)).c3 (T := 26) (by simp)⟩) | (with_reducible exact ⟨((GS.fill4 HC.out _ _ _ _)).c4 (T := 24) (by simp), ((GS.fill4 HC.out _ _ _ _)).c3 (T := 26) (by simp)⟩) | (exact ⟨((GS.box HC.out 29 _)).c4 (T := 24) (by simp), ((GS.box HC.out 29 _)).c3 (T := 26) (by simp)⟩)) (first | (go_at_call 9; (with_reducible refine Calls.mono (toImage_any W0 H0 P0 a0 cap0 z0 _ ?_ ?_) ?_); (first | exact HC.out.arg HR0.out | exact (GS.box HC.out 29 #[.int .i64 0, .int .i64 0, .int .i64 0, .slice none 0 0]).arg HR0.out); omega; rintro e u1031 ⟨v1031, rfl, hO1031, hB1031⟩; obtain ⟨A1031, c1031, rfl, hc1031⟩ := hO1031.slice; (first | (have HD := Lib.hid (GS.add HC.out hO1031 hB1031)) | (have HD := Lib.hid (GS.add (GS.box' HC.out 29 #[.int .i64 0, .int .i64 0, .int .i64 0, .slice none 0 0] (u1029.heap.size) rfl) hO1031 hB1031))); clear hB1031 hO1031; clear HC; have HC := HD; clear HD) | (go_at_call 10; (with_reducible refine Calls.mono (toKernel_any kr1 kd1 a1 cap1 z1 _ ?_ ?_) ?_); (first | exact HC.out.arg HR1.out | exact (GS.box HC.out 29 #[.int .i64 0, .int .i64 0, .int .i64 0, .slice none 0 0]).arg HR1.out); omega; rintro e u1032 ⟨v1032, rfl, hO1032, hB1032⟩; obtain ⟨A1032, c1032, rfl, hc1032⟩ := hO1032.slice; (first | (have HD := Lib.hid (GS.add HC.out hO1032 hB1032)) | (have HD := Lib.hid (GS.add (GS.box' HC.out 29 #[.int .i64 0, .int .i64 0, .int .i64 0, .slice none 0 0] (u1029.heap.size) rfl) hO1032 hB1032)) | (have HD := Lib.hid (GS.add (GS.box' HC.out 29 #[.int .i64 0, .int .i64 0, .int .i64 0, .slice none 0 0] (u1031.heap.size) rfl) hO1032 hB1032))); clear hB1032 hO1032; clear HC; have HC := HD; clear HD) | (go_at_call 11; (refine (HI.out A1031 c1031 A1032 c1032 _ (by first | exact HC.out.rds (A := A1031) (n := z0.length) (c := c1031) (by first | exact List.mem_cons_self | exact List.mem_cons_of_mem _ List.mem_cons_self | exact List.mem_cons_of_mem _ (List.mem_cons_of_mem _ List.mem_cons_self) | exact List.mem_cons_of_mem _ (List.mem_cons_of_mem _ (List.mem_cons_of_mem _ List.mem_cons_self))) | exact (GS.box HC.out 29 #[.int .i64 0, .int .i64 0, .int .i64 0, .slice none 0 0]).rds (A := A1031) (n := z0.length) (c := c1031) (by first | exact List.mem_cons_self | exact List.mem_cons_of_mem _ List.mem_cons_self | exact List.mem_cons_of_mem _ (List.mem_cons_of_mem _ List.mem_cons_self) | exact List.mem_cons_of_mem _ (List.mem_cons_of_mem _ (List.mem_cons_of_mem _ List.mem_cons_self)))) hc1031 (by first | exact HC.out.rds (A := A1032) (n := z1.length) (c := c1032) (by first | exact List.mem_cons_self | exact List.mem_cons_of_mem _ List.mem_cons_self | exact List.mem_cons_of_mem _ (List.mem_cons_of_mem _ List.mem_cons_self) | exact List.mem_cons_of_mem _ (List.mem_cons_of_mem _ (List.mem_cons_of_mem _ List.mem_cons_self))) | exact (GS.box HC.out 29 #[.int .i64 0, .int .i64 0, .int .i64 0, .slice none 0 0]).rds (A := A1032) (n := z1.length) (c := c1032) (by first | exact List.mem_cons_self | exact List.mem_cons_of_mem _ List.mem_cons_self | exact List.mem_cons_of_mem _ (List.mem_cons_of_mem _ List.mem_cons_self) | exact List.mem_cons_of_mem _ (List.mem_cons_of_mem _ (List.mem_cons_of_mem _ List.mem_cons_self)))) hc1032).mono ?_); rintro e u1033 ⟨v1033, rfl, hO1033, hB1033⟩; obtain ⟨A1033, c1033, rfl, hc1033⟩ := hO1033.slice; (first | (have HD := Lib.hid (GS.add HC.out hO1033 hB1033)) | (have HD := Lib.hid (GS.add (GS.box' HC.out 29 #[.int .i64 0, .int .i64 0, .int .i64 0, .slice none 0 0] (u1029.heap.size) rfl) hO1033 hB1033)) | (have HD := Lib.hid (GS.add (GS.box' HC.out 29 #[.int .i64 0, .int .i64 0, .int .i64 0, .slice none 0 0] (u1031.heap.size) rfl) hO1033 hB1033)) | (have HD := Lib.hid (GS.add (GS.box' HC.out 29 #[.int .i64 0, .int .i64 0, .int .i64 0, .slice none 0 0] (u1032.heap.size) rfl) hO1033 hB1033))); clear hB1033 hO1033; clear HC; have HC := HD; clear HD; (try (have hzb := HC.out.bx (g := _) (T := 29) (cs := #[.int .i64 0, .int .i64 0, .int .i64 0, .slice none 0 0]) List.mem_cons_self; have zb0 := cell_of_row _ _ 0 _ _ _ hzb; have zb1 := cell_of_row _ _ 1 _ _ _ hzb; have zb2 := cell_of_row _ _ 2 _ _ _ hzb; have zb3 := cell_of_row _ _ 3 _ _ _ hzb; have zf0 := frozen_of_row _ _ 0 _ _ hzb; have zf1 := frozen_of_row _ _ 1 _ _ hzb; have zf2 := frozen_of_row _ _ 2 _ _ hzb; have zf3 := frozen_of_row _ _ 3 _ _ hzb; clear hzb))))
    all_goals
      (go_wp2_with fail; go_meet; exact ⟨_, _, _, _, _, _, _, _, _, _, _, _, _, rfl, hc1033, hc1032, hc1031, Lib.hid (by first | exact GS.fill4 HC.out _ _ _ _ | exact GS.box HC.out 29 #[.int .i64 R1, .int .i64 R2, .int .i64 R3, .slice A1033 RX.length c1033])⟩)
  case rest =>
  obtain ⟨gb1034, lo1033, hi1033, A1033, c1033, lo1032, hi1032, A1032, c1032, lo1031, hi1031, A1031, c1031, rfl, hc1033, hc1032, hc1031, HC⟩ := hcut
  have S1034 := HC.out
  clear HC S1029
  generalize wc = u1034 at *
  obtain ⟨h00, h01, h02, h03⟩ := S1034.c4 (g := gb1034) (T := 29) (a0 := .int .i64 R1) (a1 := .int .i64 R2) (a2 := .int .i64 R3) (a3 := .slice A1033 RX.length c1033) (by simp)
  have h0l := S1034.lt (g := gb1034) (T := 29) (cs := #[.int .i64 R1, .int .i64 R2, .int .i64 R3, .slice A1033 RX.length c1033]) (by simp)
  obtain ⟨w00, w01, w02, w03⟩ := S1034.c4 (g := gb1009) (T := 29) (a0 := .int .i64 R1) (a1 := .int .i64 R2) (a2 := .int .i64 R3) (a3 := .slice A1008 RX.length c1008) (by simp)
  have w0l := S1034.lt (g := gb1009) (T := 29) (cs := #[.int .i64 R1, .int .i64 R2, .int .i64 R3, .slice A1008 RX.length c1008]) (by simp)
  go_wp2_with fail
  refine (eqImage_same R1 R2 R3 A1033 A1008 c1033 c1008 _ _ RX _ rfl rfl (S1034.rds (lo := lo1033) (hi := hi1033) (A := A1033) (n := RX.length) (c := c1033) (by simp)) (S1034.rds (lo := lo1008) (hi := hi1008) (A := A1008) (n := RX.length) (c := c1008) (by simp)) (by omega)).mono ?_
  rintro e u1035 ⟨rfl, hB1035⟩
  have S1035 := S1034.call hB1035
  clear h00 h01 h02 h03 h0l w00 w01 w02 w03 w0l
  clear hB1035
  clear S1034
  obtain ⟨g00, g01, g02, g03⟩ := S1035.c4 (g := u1014.heap.size) (T := 29) (a0 := .int .i64 R1) (a1 := .int .i64 R2) (a2 := .int .i64 R3) (a3 := .slice A1014 RX.length c1014) (by simp)
  have g0l := S1035.lt (g := u1014.heap.size) (T := 29) (cs := #[.int .i64 R1, .int .i64 R2, .int .i64 R3, .slice A1014 RX.length c1014]) (by simp)
  go_wp2_with fail
  refine (heldImage_any R1 R2 R3 A1014 c1014 RX.length 1 _ (S1035.rds (lo := u1013.heap.size) (hi := u1014.heap.size) (A := A1014) (n := RX.length) (c := c1014) (by simp)) (by omega) (by omega) (by omega)).mono ?_
  rintro e u1036 ⟨he, hB1036⟩
  rw [← HK1028.out] at he
  subst he
  have S1036 := S1035.call hB1036
  clear g00 g01 g02 g03 g0l
  clear hB1036
  clear S1035
  go_wp2
  go_ret
  exact ⟨rfl, S1036.below⟩

/-! ### From the walk to the statement. -/
theorem own : ownKnob Try.prog.godebug = none := by kernel_rfl
theorem laidOut : laidOutB Try.prog = true := by kernel_rfl
set_option maxRecDepth 100000 in
theorem lifted (os : Os) (started : os.Started) (H : Type) (enc : TypeId × Value → H) :
    ReturnsInHanded {} Try.checked os 3 .any (Rows.fnExactConvolveImageSpec.pre6 enc Try.prog Try.f3 Rows.fnExactConvolveImageRow.domain false) (Rows.fnExactConvolveImageSpec.post enc Try.prog Try.f3 false true false false) := by
  refine returnsInHanded_of_change (C := Try.checked) own started (by kernel_rfl) Try.func3
    (ChangeSpec.witness6 (enc := enc) (C := Try.checked) false ⟨#[], #[.agg #[.int .i64 0, .int .i64 0, .int .i64 0, .slice none 0 0], .agg #[.int .i64 0, .slice none 0 0, .int .i64 0]], []⟩ 8 (by kernel_rfl) (by kernel_rfl) (by kernel_rfl) (by kernel_rfl)) ?_
  intro W base args ds gs before hval0 hW hcnd _
  have hval : ∀ (j : Nat) t v, Try.f3.params[j]? = some t → args[j]? = some v → Value.okWide Try.prog W .any base t v := hval0
  have hW' := hW
  obtain ⟨p, q, hA0, hV, rfl, hfz, hnd⟩ := hW
  have hA : DataW.TrodAll enc Try.prog W 0 (fun _ => true) true Try.f3.params.toList args.toList ds p := hA0
  rw [Try.params3] at hA hval
  obtain ⟨v0, vs0, d0, ds0, p0, q0, hargs, rfl, rfl, h0, r0⟩ := trodAll_cons hA
  obtain ⟨v1, vs1, d1, ds1, p1, q1, rfl, rfl, rfl, h1, r1⟩ := trodAll_cons r0
  obtain ⟨rfl, rfl, rfl⟩ := trodAll_nil r1
  obtain rfl : args = #[v0, v1] := by cases args; simp_all
  obtain ⟨rfl, rfl⟩ := trodVars_none hV
  have k0 := h0
  have lt0 : ∀ x ∈ p0, x.block < W.heap.size := by obtain ⟨m, hm⟩ := k0; exact DataW.trod_lt m _ _ _ hm
  obtain ⟨x0a, x0b, x0c, x0d, y0a, y0b, y0c, y0d, m0, rfl, rfl, rfl, g0a, g0b, g0c, g0d⟩ := Joins.open_agg4 Try.underlying24 (by kernel_rfl) (by kernel_rfl) (hval 0 24 v0 rfl rfl) h0
  obtain ⟨n0a, e0a, rfl, f0a⟩ := DataW.trod_int Try.underlying3 g0a
  simp at e0a
  subst e0a
  obtain ⟨n0b, e0b, rfl, f0b⟩ := DataW.trod_int Try.underlying3 g0b
  simp at e0b
  subst e0b
  obtain ⟨n0c, e0c, rfl, f0c⟩ := DataW.trod_int Try.underlying3 g0c
  simp at e0c
  subst e0c
  obtain ⟨a0, cap0, z0, hv0, hc0, w0⟩ : ∃ (A : Option Addr) (c : Nat) (zs : List Int), x0d = .slice A zs.length c ∧ zs.length ≤ c ∧ Rdw .i64 W W.heap.size A zs := by
    rcases open_ints Try.underlying22 Try.underlying3 (by kernel_rfl) g0d with ⟨hcs, _⟩ | ⟨x, l, c, zs, hcs, _, hl, hm, hz, _, hcell, hwz⟩
    · simp at hcs
      exact ⟨none, 0, [], hcs, Nat.le_refl _, Rdw.nil⟩
    · simp at hcs
      have hzl : (zs.take l).length = l := by simp at hz ⊢; omega
      exact ⟨some x, c, zs.take l, by rw [hzl]; exact hcs, by rw [hzl]; exact hl, Rdw.of_row hl hm (by simpa using hz) hcell hwz⟩
  subst hv0
  have k1 := h1
  have lt1 : ∀ x ∈ p1, x.block < W.heap.size := by obtain ⟨m, hm⟩ := k1; exact DataW.trod_lt m _ _ _ hm
  obtain ⟨x1a, x1b, x1c, y1a, y1b, y1c, m1, rfl, rfl, rfl, g1a, g1b, g1c⟩ := Joins.open_agg3 Try.underlying26 (by kernel_rfl) (by kernel_rfl) (hval 1 26 v1 rfl rfl) h1
  obtain ⟨n1a, e1a, rfl, f1a⟩ := DataW.trod_int Try.underlying3 g1a
  simp at e1a
  subst e1a
  obtain ⟨n1c, e1c, rfl, f1c⟩ := DataW.trod_int Try.underlying3 g1c
  simp at e1c
  subst e1c
  obtain ⟨a1, cap1, z1, hv1, hc1, w1⟩ : ∃ (A : Option Addr) (c : Nat) (zs : List Int), x1b = .slice A zs.length c ∧ zs.length ≤ c ∧ Rdw .i64 W W.heap.size A zs := by
    rcases open_ints Try.underlying22 Try.underlying3 (by kernel_rfl) g1b with ⟨hcs, _⟩ | ⟨x, l, c, zs, hcs, _, hl, hm, hz, _, hcell, hwz⟩
    · simp at hcs
      exact ⟨none, 0, [], hcs, Nat.le_refl _, Rdw.nil⟩
    · simp at hcs
      have hzl : (zs.take l).length = l := by simp at hz ⊢; omega
      exact ⟨some x, c, zs.take l, by rw [hzl]; exact hcs, by rw [hzl]; exact hl, Rdw.of_row hl hm (by simpa using hz) hcell hwz⟩
  subst hv1
  clear hA0 hval0
  refine (walk W n0a n0b n0c a0 cap0 z0 hc0 w0 n1a n1c a1 cap1 z1 hc1 w1).mono fun e W' ⟨he, bel⟩ => ?_
  subst he
  exact ⟨_, rfl, _, _, _, [], _, [], hW', trodAll_mk1 (shut_bool Try.underlying4 _), (trodAll_cons_mk (Below.trod laidOut (by kernel_rfl) (of_decide_eq_true (by kernel_rfl)) k0 bel lt0) (trodAll_cons_mk (Below.trod laidOut (by kernel_rfl) (of_decide_eq_true (by kernel_rfl)) k1 bel lt1) trodAll_mk0)), rfl, bel.frame _, fun h => by cases h⟩

theorem over : Rows.fnExactConvolveImageRow.holds Try.pinned (OpenSpec.ofChange Rows.fnExactConvolveImageSpec) :=
  OpenClaim.holds_of_wide 3 Try.f3 rfl rfl rfl rfl rfl rfl rfl ⟨rfl, rfl, rfl, rfl, rfl⟩ rfl rfl rfl rfl rfl (by kernel_rfl) Try.func3 (by kernel_rfl)
    (of_decide_eq_true (by kernel_rfl)) (by unfold Func.isWrapper; first | (rw [if_pos (by decide +kernel)]; kernel_rfl) | (rw [if_neg (by decide +kernel)]; exact ⟨rfl, rfl⟩))
    (fun os started H enc _ => lifted os started H enc)

theorem proved : Rows.FnExactConvolveImageSaid := over
end Go.Proofs.Ytjgcondkoaegnaa.fnExactConvolveImage
