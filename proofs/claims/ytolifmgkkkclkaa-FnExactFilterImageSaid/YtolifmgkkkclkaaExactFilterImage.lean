/- FilterImage of the program answers what the model answers, for every image; it writes into no argument, and its answer owns its memory. -/
import Derived.Test.YtolifmgkkkclkaaRows
import Derived.WalkKit
import Derived.ProofKit
import Derived.OpenShut
import Derived.ShutString
import Derived.ChangeOld
import Derived.Below
import Derived.Lib.SmallJoins
import Derived.Test.YtolifmgkkkclkaaGen
import Derived.Test.YtolifmgkkkclkaaSz
import Derived.Deep.Cut
import Derived.Deep.RegionHeld3
import Derived.Test.YtolifmgkkkclkaaFlI
import Derived.Test.YtolifmgkkkclkaaFlS
import Derived.Test.YtolifmgkkkclkaaIStM
namespace Go.Proofs.Ytolifmgkkkclkaa.fnExactFilterImage
open Go.ChangeShapes Go.WideShapes Go.ChangeAt Go.RowKit
open Go.ChangeMaps (open_string shut_string)
set_option linter.unusedVariables false

theorem fim_len (W H P : Int) (xs : List Int) : (fimV W H P xs).length ≤ 2000000 := by
  unfold fimV
  cases h : vim W H P xs
  · simp
  · obtain ⟨W, H, P, rfl, rfl, rfl, hW1, hW, hH1, hH, hP1, hP, hln, hby⟩ := vim_nat h
    show (fiL (W * P) P xs H).length ≤ 2000000
    rw [fiL_len]
    have h64 : W * P ≤ 64 := Nat.mul_le_mul hW hP
    have := Nat.mul_le_mul hH (show W * P + 1 ≤ 65 by omega)
    omega
def FC (f : FuncId) (W0 H0 P0 : Int) (z0 : List Int) (RX : List Int) : Prop :=
  ∀ (A0 : Option Addr) (c0 : Nat) (w : World), Rds .i64 w w.heap.size A0 z0 → z0.length ≤ c0 → Calls Try.prog f #[.agg #[.int .i64 W0, .int .i64 H0, .int .i64 P0, .slice A0 z0.length c0]] w fun e w' => ∃ v, e = .returned (v) ∧ Own w' w.heap.size v RX ∧ Below w.heap.size w w'
set_option maxHeartbeats 16000000 in
set_option maxRecDepth 8000 in
theorem walk (w : World) (W0 H0 P0 : Int) (a0 : Option Addr) (cap0 : Nat) (z0 : List Int) (hc0 : z0.length ≤ cap0) (w0 : Rdw .i64 w w.heap.size a0 z0) :
    Calls Try.prog 5 #[.agg #[.int .i64 W0, .int .i64 H0, .int .i64 P0, .slice a0 z0.length cap0]] w fun e w' => e = .returned (.bool true) ∧ Below w.heap.size w w' := by
  have hm0 := w0.2.1
  unfold maxLen at hm0
  have HR0 := Lib.hid w0.1
  clear w0
  have S0 : GS w (w.alloc (.cells #[.int .i64 W0, .int .i64 H0, .int .i64 P0, .slice a0 z0.length cap0] 36)) [] [⟨w.heap.size, 36, #[.int .i64 W0, .int .i64 H0, .int .i64 P0, .slice a0 z0.length cap0]⟩] := GS.box' (GS.start w) 36 #[.int .i64 W0, .int .i64 H0, .int .i64 P0, .slice a0 z0.length cap0] w.heap.size (by simp)
  go_enter Try.func5, Try.ntmps5
  go_wp2_with fail
  generalize w.alloc (.cells #[.int .i64 W0, .int .i64 H0, .int .i64 P0, .slice a0 z0.length cap0] 36) = u0 at *
  by_cases hs1001 : (1048576 : Int) < (z0.length : Nat)
  · refine (szImage_gt W0 H0 P0 a0 cap0 _ (1048576) _ (by omega) (by omega) hs1001 (by omega)).mono ?_
    rintro e uz ⟨rfl, hBz⟩
    have HSz := Lib.hid (S0.call hBz)
    clear hBz
    go_wp2
    go_ret
    exact ⟨rfl, HSz.out.below⟩
  obtain ⟨K1002, HK1002⟩ : ∃ K : Int, Hid (K = 1048576 - ((z0.length : Nat) : Int)) := ⟨_, Lib.hid rfl⟩
  have hK1002 : 0 ≤ K1002 ∧ K1002 ≤ 1048576 := by have := HK1002.out; omega
  have hb0 : z0.length ≤ 1048576 := by omega
  refine (szImage_le W0 H0 P0 a0 cap0 _ (1048576) _ (by omega) (by omega) (by omega)).mono ?_
  rintro e u1002 ⟨he, hB1002⟩
  rw [← HK1002.out] at he
  subst he
  have S1002 := S0.call hB1002
  clear hB1002
  clear S0
  obtain ⟨RX, hRX, HI, HS⟩ : ∃ (RX : List Int), RX.length ≤ 2000000 ∧ Hid (FC 8 W0 H0 P0 z0 RX) ∧ Hid (FC 10 W0 H0 P0 z0 RX) :=
      ⟨_, fim_len W0 H0 P0 z0, Lib.hid (fun A c w hx hc => i_FilterImage W0 H0 P0 A c z0 w hx (by omega) hc), Lib.hid (fun A c w hx hc => s_FilterImage W0 H0 P0 A c z0 w hx (by omega) hc)⟩
  obtain ⟨b00, b01, b02, b03⟩ := S1002.c4 (g := w.heap.size) (T := 36) (a0 := .int .i64 W0) (a1 := .int .i64 H0) (a2 := .int .i64 P0) (a3 := .slice a0 z0.length cap0) (by simp)
  have b0l := S1002.lt (g := w.heap.size) (T := 36) (cs := #[.int .i64 W0, .int .i64 H0, .int .i64 P0, .slice a0 z0.length cap0]) (by simp)
  go_wp2_with fail
  refine (toImage_any W0 H0 P0 a0 cap0 z0 _ (S1002.arg HR0.out) (by omega)).mono ?_
  rintro e u1003 ⟨v1003, rfl, hO1003, hB1003⟩
  obtain ⟨A1003, c1003, rfl, hc1003⟩ := hO1003.slice
  have S1003 := S1002.add hO1003 hB1003
  clear b00 b01 b02 b03 b0l
  clear hB1003 hO1003
  clear S1002
  go_wp2_with fail
  refine (HS.out A1003 c1003 _ (S1003.rds (lo := u1002.heap.size) (hi := u1003.heap.size) (A := A1003) (n := z0.length) (c := c1003) (by simp)) hc1003).mono ?_
  rintro e u1004 ⟨v1004, rfl, hO1004, hB1004⟩
  obtain ⟨A1004, c1004, rfl, hc1004⟩ := hO1004.slice
  have S1004 := S1003.add hO1004 hB1004
  clear hB1004 hO1004
  clear S1003
  obtain ⟨b00, b01, b02, b03⟩ := S1004.c4 (g := w.heap.size) (T := 36) (a0 := .int .i64 W0) (a1 := .int .i64 H0) (a2 := .int .i64 P0) (a3 := .slice a0 z0.length cap0) (by simp)
  have b0l := S1004.lt (g := w.heap.size) (T := 36) (cs := #[.int .i64 W0, .int .i64 H0, .int .i64 P0, .slice a0 z0.length cap0]) (by simp)
  go_wp2_with fail
  refine (toImage_any W0 H0 P0 a0 cap0 z0 _ (S1004.arg HR0.out) (by omega)).mono ?_
  rintro e u1005 ⟨v1005, rfl, hO1005, hB1005⟩
  obtain ⟨A1005, c1005, rfl, hc1005⟩ := hO1005.slice
  have S1005 := S1004.add hO1005 hB1005
  clear b00 b01 b02 b03 b0l
  clear hB1005 hO1005
  clear S1004
  have S1006 : GS w (u1005.alloc (.cells #[.int .i64 W0, .int .i64 H0, .int .i64 P0, .slice A1005 z0.length c1005] 25)) [ri u1004.heap.size u1005.heap.size (.slice A1005 z0.length c1005) z0, ri u1003.heap.size u1004.heap.size (.slice A1004 RX.length c1004) RX, ri u1002.heap.size u1003.heap.size (.slice A1003 z0.length c1003) z0] [⟨u1005.heap.size, 25, #[.int .i64 W0, .int .i64 H0, .int .i64 P0, .slice A1005 z0.length c1005]⟩, ⟨w.heap.size, 36, #[.int .i64 W0, .int .i64 H0, .int .i64 P0, .slice a0 z0.length cap0]⟩] := GS.box S1005 25 #[.int .i64 W0, .int .i64 H0, .int .i64 P0, .slice A1005 z0.length c1005]
  go_wp2_with fail
  clear S1005
  generalize u1005.alloc (.cells #[.int .i64 W0, .int .i64 H0, .int .i64 P0, .slice A1005 z0.length c1005] 25) = u1006 at *
  refine (HI.out A1005 c1005 _ (S1006.rds (lo := u1004.heap.size) (hi := u1005.heap.size) (A := A1005) (n := z0.length) (c := c1005) (by simp)) hc1005).mono ?_
  rintro e u1007 ⟨v1007, rfl, hO1007, hB1007⟩
  obtain ⟨A1007, c1007, rfl, hc1007⟩ := hO1007.slice
  have S1007 := S1006.add hO1007 hB1007
  clear hB1007 hO1007
  clear S1006
  go_wp2_with fail
  refine (eqIntS_same A1007 A1004 c1007 c1004 _ _ RX _ rfl rfl (S1007.rds (lo := u1006.heap.size) (hi := u1007.heap.size) (A := A1007) (n := RX.length) (c := c1007) (by simp)) (S1007.rds (lo := u1003.heap.size) (hi := u1004.heap.size) (A := A1004) (n := RX.length) (c := c1004) (by simp)) (by omega)).mono ?_
  rintro e u1008 ⟨rfl, hB1008⟩
  have S1008 := S1007.call hB1008
  clear hB1008
  clear S1007
  go_upto_region 10 with fail
  have HC := Lib.hid S1008.drew
  clear S1008
  go_region_held3 (fun w' => (w'.cell? ⟨u1005.heap.size, 0, none⟩ = some (.int .i64 W0) ∧ w'.cell? ⟨u1005.heap.size, 1, none⟩ = some (.int .i64 H0) ∧ w'.cell? ⟨u1005.heap.size, 2, none⟩ = some (.int .i64 P0) ∧ w'.cell? ⟨u1005.heap.size, 3, none⟩ = some (.slice A1005 z0.length c1005)) ∧ (w'.cell? ⟨w.heap.size, 0, none⟩ = some (.int .i64 W0) ∧ w'.cell? ⟨w.heap.size, 1, none⟩ = some (.int .i64 H0) ∧ w'.cell? ⟨w.heap.size, 2, none⟩ = some (.int .i64 P0) ∧ w'.cell? ⟨w.heap.size, 3, none⟩ = some (.slice a0 z0.length cap0))) (first | (with_reducible exact ⟨(HC.out).c4 (T := 25) (by simp), (HC.out).c4 (T := 36) (by simp)⟩) | (exact ⟨(HC.out).c4 (T := 25) (by simp), (HC.out).c4 (T := 36) (by simp)⟩)) (first | (go_at_call 17; (with_reducible refine Calls.mono (toImage_any W0 H0 P0 a0 cap0 z0 _ ?_ ?_) ?_); (exact HC.out.arg HR0.out); omega; rintro e u1010 ⟨v1010, rfl, hO1010, hB1010⟩; obtain ⟨A1010, c1010, rfl, hc1010⟩ := hO1010.slice; (first | (have HD := Lib.hid (GS.add HC.out hO1010 hB1010))); clear hB1010 hO1010; clear HC; have HC := HD; clear HD) | (go_at_call 19; (refine (eqImage_same W0 H0 P0 A1005 A1010 c1005 c1010 _ _ z0 _ rfl rfl (by exact HC.out.rds (lo := u1004.heap.size) (hi := u1005.heap.size) (A := A1005) (n := z0.length) (c := c1005) (by simp)) (by exact HC.out.rds (A := A1010) (n := z0.length) (c := c1010) (by first | exact List.mem_cons_self | exact List.mem_cons_of_mem _ List.mem_cons_self | exact List.mem_cons_of_mem _ (List.mem_cons_of_mem _ List.mem_cons_self) | exact List.mem_cons_of_mem _ (List.mem_cons_of_mem _ (List.mem_cons_of_mem _ List.mem_cons_self)))) (by omega)).mono ?_); rintro e u1011 ⟨rfl, hB1011⟩; (first | (have HD := Lib.hid (GS.call HC.out hB1011))); clear hB1011; clear HC; have HC := HD; clear HD))
  have S1012 := HC.out
  clear HC
  obtain ⟨x00, x01, x02, x03⟩ := S1012.c4 (g := u1005.heap.size) (T := 25) (a0 := .int .i64 W0) (a1 := .int .i64 H0) (a2 := .int .i64 P0) (a3 := .slice A1005 z0.length c1005) (by simp)
  have x0l := S1012.lt (g := u1005.heap.size) (T := 25) (cs := #[.int .i64 W0, .int .i64 H0, .int .i64 P0, .slice A1005 z0.length c1005]) (by simp)
  go_wp2_with fail
  obtain ⟨K1013, HK1013⟩ : ∃ K : Int, Hid (K = 1 + ((z0.length : Nat) : Int)) := ⟨_, Lib.hid rfl⟩
  have hK1013 : 0 ≤ K1013 ∧ K1013 ≤ 8000001 := by have := HK1013.out; omega
  refine (markImage_any W0 H0 P0 (.slice A1005 z0.length c1005) u1004.heap.size z0 1 _ (S1012.own (lo := u1004.heap.size) (hi := u1005.heap.size) (by simp)) (by omega) (by omega) (by omega)).mono ?_
  rintro e u1013 ⟨he, hO1013, hG1013⟩
  rw [← HK1013.out] at he
  subst he
  have S1013 := GS.mark (L1 := [ri u1008.drew.heap.size u1010.heap.size (.slice A1010 z0.length c1010) z0, ri u1006.heap.size u1007.heap.size (.slice A1007 RX.length c1007) RX]) (L2 := [ri u1003.heap.size u1004.heap.size (.slice A1004 RX.length c1004) RX, ri u1002.heap.size u1003.heap.size (.slice A1003 z0.length c1003) z0]) (lo := u1004.heap.size) (hi := u1005.heap.size) (v := .slice A1005 z0.length c1005) (xs := z0) S1012 hO1013 (by simp [marks]) hG1013
  clear x00 x01 x02 x03 x0l
  clear hO1013 hG1013
  clear S1012
  go_wp2_with fail
  refine (eqIntS_same A1007 A1004 c1007 c1004 _ _ RX _ rfl rfl (S1013.rds (lo := u1006.heap.size) (hi := u1007.heap.size) (A := A1007) (n := RX.length) (c := c1007) (by simp)) (S1013.rds (lo := u1003.heap.size) (hi := u1004.heap.size) (A := A1004) (n := RX.length) (c := c1004) (by simp)) (by omega)).mono ?_
  rintro e u1014 ⟨rfl, hB1014⟩
  have S1014 := S1013.call hB1014
  clear hB1014
  clear S1013
  go_wp2_with fail
  obtain ⟨K1015, HK1015⟩ : ∃ K : Int, Hid (K = 1 + ((RX.length : Nat) : Int)) := ⟨_, Lib.hid rfl⟩
  have hK1015 : 0 ≤ K1015 ∧ K1015 ≤ 8000001 := by have := HK1015.out; omega
  refine (markIntS_any (.slice A1007 RX.length c1007) u1006.heap.size RX 1 _ (S1014.own (lo := u1006.heap.size) (hi := u1007.heap.size) (by simp)) (by omega) (by omega) (by omega)).mono ?_
  rintro e u1015 ⟨he, hO1015, hG1015, _⟩
  rw [← HK1015.out] at he
  subst he
  have S1015 := GS.mark (L1 := [ri u1008.drew.heap.size u1010.heap.size (.slice A1010 z0.length c1010) z0]) (L2 := [ri u1004.heap.size u1005.heap.size (.slice A1005 z0.length c1005) (marks 1 (z0.length)), ri u1003.heap.size u1004.heap.size (.slice A1004 RX.length c1004) RX, ri u1002.heap.size u1003.heap.size (.slice A1003 z0.length c1003) z0]) (lo := u1006.heap.size) (hi := u1007.heap.size) (v := .slice A1007 RX.length c1007) (xs := RX) S1014 hO1015 (by simp [marks]) hG1015
  clear hO1015 hG1015
  clear S1014
  go_wp2_with fail
  refine (heldIntS_any A1007 c1007 _ RX.length 1 _ (S1015.rds (lo := u1006.heap.size) (hi := u1007.heap.size) (A := A1007) (n := RX.length) (c := c1007) (by simp)) (by omega) (by omega) (by omega)).mono ?_
  rintro e u1016 ⟨he, rfl⟩
  rw [← HK1015.out] at he
  subst he
  obtain ⟨b00, b01, b02, b03⟩ := S1015.c4 (g := w.heap.size) (T := 36) (a0 := .int .i64 W0) (a1 := .int .i64 H0) (a2 := .int .i64 P0) (a3 := .slice a0 z0.length cap0) (by simp)
  have b0l := S1015.lt (g := w.heap.size) (T := 36) (cs := #[.int .i64 W0, .int .i64 H0, .int .i64 P0, .slice a0 z0.length cap0]) (by simp)
  go_wp2_with fail
  refine (toImage_any W0 H0 P0 a0 cap0 z0 _ (S1015.arg HR0.out) (by omega)).mono ?_
  rintro e u1017 ⟨v1017, rfl, hO1017, hB1017⟩
  obtain ⟨A1017, c1017, rfl, hc1017⟩ := hO1017.slice
  have S1017 := S1015.add hO1017 hB1017
  clear b00 b01 b02 b03 b0l
  clear hB1017 hO1017
  clear S1015
  go_wp2_with fail
  refine (HI.out A1017 c1017 _ (S1017.rds (lo := u1015.heap.size) (hi := u1017.heap.size) (A := A1017) (n := z0.length) (c := c1017) (by simp)) hc1017).mono ?_
  rintro e u1018 ⟨v1018, rfl, hO1018, hB1018⟩
  obtain ⟨A1018, c1018, rfl, hc1018⟩ := hO1018.slice
  have S1018 := S1017.add hO1018 hB1018
  clear hB1018 hO1018
  clear S1017
  go_wp2_with fail
  refine (eqIntS_same A1018 A1004 c1018 c1004 _ _ RX _ rfl rfl (S1018.rds (lo := u1017.heap.size) (hi := u1018.heap.size) (A := A1018) (n := RX.length) (c := c1018) (by simp)) (S1018.rds (lo := u1003.heap.size) (hi := u1004.heap.size) (A := A1004) (n := RX.length) (c := c1004) (by simp)) (by omega)).mono ?_
  rintro e u1019 ⟨rfl, hB1019⟩
  have S1019 := S1018.call hB1019
  clear hB1019
  clear S1018
  go_wp2_with fail
  refine (heldIntS_any A1007 c1007 _ RX.length 1 _ (S1019.rds (lo := u1006.heap.size) (hi := u1007.heap.size) (A := A1007) (n := RX.length) (c := c1007) (by simp)) (by omega) (by omega) (by omega)).mono ?_
  rintro e u1020 ⟨he, rfl⟩
  rw [← HK1015.out] at he
  subst he
  go_wp2
  go_ret
  exact ⟨rfl, S1019.below⟩

/-! ### From the walk to the statement. -/
theorem own : ownKnob Try.prog.godebug = none := by kernel_rfl
theorem laidOut : laidOutB Try.prog = true := by kernel_rfl
set_option maxRecDepth 100000 in
theorem lifted (os : Os) (started : os.Started) (H : Type) (enc : TypeId × Value → H) :
    ReturnsInHanded {} Try.checked os 5 .any (Rows.fnExactFilterImageSpec.pre6 enc Try.prog Try.f5 Rows.fnExactFilterImageRow.domain false) (Rows.fnExactFilterImageSpec.post enc Try.prog Try.f5 false true false false) := by
  refine returnsInHanded_of_change (C := Try.checked) own started (by kernel_rfl) Try.func5
    (ChangeSpec.witness6 (enc := enc) (C := Try.checked) false ⟨#[], #[.agg #[.int .i64 0, .int .i64 0, .int .i64 0, .slice none 0 0]], []⟩ 8 (by kernel_rfl) (by kernel_rfl) (by kernel_rfl) (by kernel_rfl)) ?_
  intro W base args ds gs before hval0 hW hcnd _
  have hval : ∀ (j : Nat) t v, Try.f5.params[j]? = some t → args[j]? = some v → Value.okWide Try.prog W .any base t v := hval0
  have hW' := hW
  obtain ⟨p, q, hA0, hV, rfl, hfz, hnd⟩ := hW
  have hA : DataW.TrodAll enc Try.prog W 0 (fun _ => true) true Try.f5.params.toList args.toList ds p := hA0
  rw [Try.params5] at hA hval
  obtain ⟨v0, vs0, d0, ds0, p0, q0, hargs, rfl, rfl, h0, r0⟩ := trodAll_cons hA
  obtain ⟨rfl, rfl, rfl⟩ := trodAll_nil r0
  obtain rfl : args = #[v0] := by cases args; simp_all
  obtain ⟨rfl, rfl⟩ := trodVars_none hV
  have k0 := h0
  have lt0 : ∀ x ∈ p0, x.block < W.heap.size := by obtain ⟨m, hm⟩ := k0; exact DataW.trod_lt m _ _ _ hm
  obtain ⟨x0a, x0b, x0c, x0d, y0a, y0b, y0c, y0d, m0, rfl, rfl, rfl, g0a, g0b, g0c, g0d⟩ := Joins.open_agg4 Try.underlying36 (by kernel_rfl) (by kernel_rfl) (hval 0 36 v0 rfl rfl) h0
  obtain ⟨n0a, e0a, rfl, f0a⟩ := DataW.trod_int Try.underlying3 g0a
  simp at e0a
  subst e0a
  obtain ⟨n0b, e0b, rfl, f0b⟩ := DataW.trod_int Try.underlying3 g0b
  simp at e0b
  subst e0b
  obtain ⟨n0c, e0c, rfl, f0c⟩ := DataW.trod_int Try.underlying3 g0c
  simp at e0c
  subst e0c
  obtain ⟨a0, cap0, z0, hv0, hc0, w0⟩ : ∃ (A : Option Addr) (c : Nat) (zs : List Int), x0d = .slice A zs.length c ∧ zs.length ≤ c ∧ Rdw .i64 W W.heap.size A zs := by
    rcases open_ints Try.underlying23 Try.underlying3 (by kernel_rfl) g0d with ⟨hcs, _⟩ | ⟨x, l, c, zs, hcs, _, hl, hm, hz, _, hcell, hwz⟩
    · simp at hcs
      exact ⟨none, 0, [], hcs, Nat.le_refl _, Rdw.nil⟩
    · simp at hcs
      have hzl : (zs.take l).length = l := by simp at hz ⊢; omega
      exact ⟨some x, c, zs.take l, by rw [hzl]; exact hcs, by rw [hzl]; exact hl, Rdw.of_row hl hm (by simpa using hz) hcell hwz⟩
  subst hv0
  clear hA0 hval0
  refine (walk W n0a n0b n0c a0 cap0 z0 hc0 w0).mono fun e W' ⟨he, bel⟩ => ?_
  subst he
  exact ⟨_, rfl, _, _, _, [], _, [], hW', trodAll_mk1 (shut_bool Try.underlying4 _), (trodAll_cons_mk (Below.trod laidOut (by kernel_rfl) (of_decide_eq_true (by kernel_rfl)) k0 bel lt0) trodAll_mk0), rfl, bel.frame _, fun h => by cases h⟩

theorem over : Rows.fnExactFilterImageRow.holds Try.pinned (OpenSpec.ofChange Rows.fnExactFilterImageSpec) :=
  OpenClaim.holds_of_wide 5 Try.f5 rfl rfl rfl rfl rfl rfl rfl ⟨rfl, rfl, rfl, rfl, rfl⟩ rfl rfl rfl rfl rfl (by kernel_rfl) Try.func5 (by kernel_rfl)
    (of_decide_eq_true (by kernel_rfl)) (by unfold Func.isWrapper; first | (rw [if_pos (by decide +kernel)]; kernel_rfl) | (rw [if_neg (by decide +kernel)]; exact ⟨rfl, rfl⟩))
    (fun os started H enc _ => lifted os started H enc)

theorem proved : Rows.FnExactFilterImageSaid := over
end Go.Proofs.Ytolifmgkkkclkaa.fnExactFilterImage
