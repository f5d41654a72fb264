/- ThresholdOf of the program answers what the model answers, for every image; it writes into no argument. -/
import Derived.Test.YtaejhodikpjeoaaRows
import Derived.WalkKit
import Derived.ProofKit
import Derived.OpenShut
import Derived.ShutString
import Derived.ChangeOld
import Derived.Below
import Derived.Lib.SmallJoins
import Derived.Test.YtaejhodikpjeoaaGen
import Derived.Test.YtaejhodikpjeoaaSz
import Derived.Deep.Cut
import Derived.Deep.RegionHeld3
import Derived.Test.YtaejhodikpjeoaaThrJ
import Derived.Test.YtaejhodikpjeoaaIStL
namespace Go.Proofs.Ytaejhodikpjeoaa.fnExactThresholdOf
open Go.ChangeShapes Go.WideShapes Go.ChangeAt Go.RowKit
open Go.ChangeMaps (open_string shut_string)
set_option linter.unusedVariables false

def FC (f : FuncId) (W0 H0 P0 : Int) (z0 : List Int) (n0 : Int) : Prop :=
  ∀ (A0 : Option Addr) (c0 : Nat) (w : World), Rds .i64 w w.heap.size A0 z0 → z0.length ≤ c0 → Calls Try.prog f #[.agg #[.int .i64 W0, .int .i64 H0, .int .i64 P0, .slice A0 z0.length c0]] w fun e w' => e = .returned (.int .i64 n0) ∧ Below w.heap.size w w'
set_option maxHeartbeats 16000000 in
set_option maxRecDepth 8000 in
theorem walk (w : World) (W0 H0 P0 : Int) (a0 : Option Addr) (cap0 : Nat) (z0 : List Int) (hc0 : z0.length ≤ cap0) (w0 : Rdw .i64 w w.heap.size a0 z0) :
    Calls Try.prog 3 #[.agg #[.int .i64 W0, .int .i64 H0, .int .i64 P0, .slice a0 z0.length cap0]] w fun e w' => e = .returned (.bool true) ∧ Below w.heap.size w w' := by
  have hm0 := w0.2.1
  unfold maxLen at hm0
  have HR0 := Lib.hid w0.1
  clear w0
  have S0 : GS w (w.alloc (.cells #[.int .i64 W0, .int .i64 H0, .int .i64 P0, .slice a0 z0.length cap0] 24)) [] [⟨w.heap.size, 24, #[.int .i64 W0, .int .i64 H0, .int .i64 P0, .slice a0 z0.length cap0]⟩] := GS.box' (GS.start w) 24 #[.int .i64 W0, .int .i64 H0, .int .i64 P0, .slice a0 z0.length cap0] w.heap.size (by simp)
  go_enter Try.func3, Try.ntmps3
  go_wp2_with fail
  generalize w.alloc (.cells #[.int .i64 W0, .int .i64 H0, .int .i64 P0, .slice a0 z0.length cap0] 24) = u0 at *
  by_cases hs1001 : (1048576 : Int) < (z0.length : Nat)
  · refine (szImage_gt W0 H0 P0 a0 cap0 _ (1048576) _ (by omega) (by omega) hs1001 (by omega)).mono ?_
    rintro e uz ⟨rfl, hBz⟩
    have HSz := Lib.hid (S0.call hBz)
    clear hBz
    go_wp2
    go_ret
    exact ⟨rfl, HSz.out.below⟩
  obtain ⟨K1002, HK1002⟩ : ∃ K : Int, Hid (K = 1048576 - ((z0.length : Nat) : Int)) := ⟨_, Lib.hid rfl⟩
  have hK1002 : 0 ≤ K1002 ∧ K1002 ≤ 1048576 := by have := HK1002.out; omega
  have hb0 : z0.length ≤ 1048576 := by omega
  refine (szImage_le W0 H0 P0 a0 cap0 _ (1048576) _ (by omega) (by omega) (by omega)).mono ?_
  rintro e u1002 ⟨he, hB1002⟩
  rw [← HK1002.out] at he
  subst he
  have S1002 := S0.call hB1002
  clear hB1002
  clear S0
  obtain ⟨n0, HI, HS⟩ : ∃ (n0 : Int), Hid (FC 9 W0 H0 P0 z0 n0) ∧ Hid (FC 7 W0 H0 P0 z0 n0) :=
      ⟨_, Lib.hid (fun A c w hx hc => i_ThresholdOf W0 H0 P0 A c z0 w hx (by omega)), Lib.hid (fun A c w hx hc => s_ThresholdOf W0 H0 P0 A c z0 w hx (by omega))⟩
  obtain ⟨b00, b01, b02, b03⟩ := S1002.c4 (g := w.heap.size) (T := 24) (a0 := .int .i64 W0) (a1 := .int .i64 H0) (a2 := .int .i64 P0) (a3 := .slice a0 z0.length cap0) (by simp)
  have b0l := S1002.lt (g := w.heap.size) (T := 24) (cs := #[.int .i64 W0, .int .i64 H0, .int .i64 P0, .slice a0 z0.length cap0]) (by simp)
  go_wp2_with fail
  refine (toImage_any W0 H0 P0 a0 cap0 z0 _ (S1002.arg HR0.out) (by omega)).mono ?_
  rintro e u1003 ⟨v1003, rfl, hO1003, hB1003⟩
  obtain ⟨A1003, c1003, rfl, hc1003⟩ := hO1003.slice
  have S1003 := S1002.add hO1003 hB1003
  clear b00 b01 b02 b03 b0l
  clear hB1003 hO1003
  clear S1002
  go_wp2_with fail
  refine (HS.out A1003 c1003 _ (S1003.rds (lo := u1002.heap.size) (hi := u1003.heap.size) (A := A1003) (n := z0.length) (c := c1003) (by simp)) hc1003).mono ?_
  rintro e u1004 ⟨rfl, hB1004⟩
  have S1004 := S1003.call hB1004
  clear hB1004
  clear S1003
  obtain ⟨b00, b01, b02, b03⟩ := S1004.c4 (g := w.heap.size) (T := 24) (a0 := .int .i64 W0) (a1 := .int .i64 H0) (a2 := .int .i64 P0) (a3 := .slice a0 z0.length cap0) (by simp)
  have b0l := S1004.lt (g := w.heap.size) (T := 24) (cs := #[.int .i64 W0, .int .i64 H0, .int .i64 P0, .slice a0 z0.length cap0]) (by simp)
  go_wp2_with fail
  refine (toImage_any W0 H0 P0 a0 cap0 z0 _ (S1004.arg HR0.out) (by omega)).mono ?_
  rintro e u1005 ⟨v1005, rfl, hO1005, hB1005⟩
  obtain ⟨A1005, c1005, rfl, hc1005⟩ := hO1005.slice
  have S1005 := S1004.add hO1005 hB1005
  clear b00 b01 b02 b03 b0l
  clear hB1005 hO1005
  clear S1004
  have S1006 : GS w (u1005.alloc (.cells #[.int .i64 W0, .int .i64 H0, .int .i64 P0, .slice A1005 z0.length c1005] 27)) [ri u1004.heap.size u1005.heap.size (.slice A1005 z0.length c1005) z0, ri u1002.heap.size u1003.heap.size (.slice A1003 z0.length c1003) z0] [⟨u1005.heap.size, 27, #[.int .i64 W0, .int .i64 H0, .int .i64 P0, .slice A1005 z0.length c1005]⟩, ⟨w.heap.size, 24, #[.int .i64 W0, .int .i64 H0, .int .i64 P0, .slice a0 z0.length cap0]⟩] := GS.box S1005 27 #[.int .i64 W0, .int .i64 H0, .int .i64 P0, .slice A1005 z0.length c1005]
  go_wp2_with fail
  clear S1005
  generalize u1005.alloc (.cells #[.int .i64 W0, .int .i64 H0, .int .i64 P0, .slice A1005 z0.length c1005] 27) = u1006 at *
  refine (HI.out A1005 c1005 _ (S1006.rds (lo := u1004.heap.size) (hi := u1005.heap.size) (A := A1005) (n := z0.length) (c := c1005) (by simp)) hc1005).mono ?_
  rintro e u1007 ⟨rfl, hB1007⟩
  have S1007 := S1006.call hB1007
  clear hB1007
  clear S1006
  go_upto_region 10 with fail
  have HC := Lib.hid S1007.drew
  clear S1007
  go_region_held3 (fun w' => (w'.cell? ⟨u1005.heap.size, 0, none⟩ = some (.int .i64 W0) ∧ w'.cell? ⟨u1005.heap.size, 1, none⟩ = some (.int .i64 H0) ∧ w'.cell? ⟨u1005.heap.size, 2, none⟩ = some (.int .i64 P0) ∧ w'.cell? ⟨u1005.heap.size, 3, none⟩ = some (.slice A1005 z0.length c1005)) ∧ (w'.cell? ⟨w.heap.size, 0, none⟩ = some (.int .i64 W0) ∧ w'.cell? ⟨w.heap.size, 1, none⟩ = some (.int .i64 H0) ∧ w'.cell? ⟨w.heap.size, 2, none⟩ = some (.int .i64 P0) ∧ w'.cell? ⟨w.heap.size, 3, none⟩ = some (.slice a0 z0.length cap0))) (first | (with_reducible exact ⟨(HC.out).c4 (T := 27) (by simp), (HC.out).c4 (T := 24) (by simp)⟩) | (exact ⟨(HC.out).c4 (T := 27) (by simp), (HC.out).c4 (T := 24) (by simp)⟩)) (first | (go_at_call 8; (with_reducible refine Calls.mono (toImage_any W0 H0 P0 a0 cap0 z0 _ ?_ ?_) ?_); (exact HC.out.arg HR0.out); omega; rintro e u1009 ⟨v1009, rfl, hO1009, hB1009⟩; obtain ⟨A1009, c1009, rfl, hc1009⟩ := hO1009.slice; (first | (have HD := Lib.hid (GS.add HC.out hO1009 hB1009))); clear hB1009 hO1009; clear HC; have HC := HD; clear HD) | (go_at_call 10; (refine (eqImage_same W0 H0 P0 A1005 A1009 c1005 c1009 _ _ z0 _ rfl rfl (by exact HC.out.rds (lo := u1004.heap.size) (hi := u1005.heap.size) (A := A1005) (n := z0.length) (c := c1005) (by simp)) (by exact HC.out.rds (A := A1009) (n := z0.length) (c := c1009) (by first | exact List.mem_cons_self | exact List.mem_cons_of_mem _ List.mem_cons_self | exact List.mem_cons_of_mem _ (List.mem_cons_of_mem _ List.mem_cons_self) | exact List.mem_cons_of_mem _ (List.mem_cons_of_mem _ (List.mem_cons_of_mem _ List.mem_cons_self)))) (by omega)).mono ?_); rintro e u1010 ⟨rfl, hB1010⟩; (first | (have HD := Lib.hid (GS.call HC.out hB1010))); clear hB1010; clear HC; have HC := HD; clear HD))
  have S1011 := HC.out
  clear HC
  go_wp2
  go_ret
  exact ⟨rfl, S1011.below⟩

/-! ### From the walk to the statement. -/
theorem own : ownKnob Try.prog.godebug = none := by kernel_rfl
theorem laidOut : laidOutB Try.prog = true := by kernel_rfl
set_option maxRecDepth 100000 in
theorem lifted (os : Os) (started : os.Started) (H : Type) (enc : TypeId × Value → H) :
    ReturnsInHanded {} Try.checked os 3 .any (Rows.fnExactThresholdOfSpec.pre6 enc Try.prog Try.f3 Rows.fnExactThresholdOfRow.domain false) (Rows.fnExactThresholdOfSpec.post enc Try.prog Try.f3 false true false false) := by
  refine returnsInHanded_of_change (C := Try.checked) own started (by kernel_rfl) Try.func3
    (ChangeSpec.witness6 (enc := enc) (C := Try.checked) false ⟨#[], #[.agg #[.int .i64 0, .int .i64 0, .int .i64 0, .slice none 0 0]], []⟩ 8 (by kernel_rfl) (by kernel_rfl) (by kernel_rfl) (by kernel_rfl)) ?_
  intro W base args ds gs before hval0 hW hcnd _
  have hval : ∀ (j : Nat) t v, Try.f3.params[j]? = some t → args[j]? = some v → Value.okWide Try.prog W .any base t v := hval0
  have hW' := hW
  obtain ⟨p, q, hA0, hV, rfl, hfz, hnd⟩ := hW
  have hA : DataW.TrodAll enc Try.prog W 0 (fun _ => true) true Try.f3.params.toList args.toList ds p := hA0
  rw [Try.params3] at hA hval
  obtain ⟨v0, vs0, d0, ds0, p0, q0, hargs, rfl, rfl, h0, r0⟩ := trodAll_cons hA
  obtain ⟨rfl, rfl, rfl⟩ := trodAll_nil r0
  obtain rfl : args = #[v0] := by cases args; simp_all
  obtain ⟨rfl, rfl⟩ := trodVars_none hV
  have k0 := h0
  have lt0 : ∀ x ∈ p0, x.block < W.heap.size := by obtain ⟨m, hm⟩ := k0; exact DataW.trod_lt m _ _ _ hm
  obtain ⟨x0a, x0b, x0c, x0d, y0a, y0b, y0c, y0d, m0, rfl, rfl, rfl, g0a, g0b, g0c, g0d⟩ := Joins.open_agg4 Try.underlying24 (by kernel_rfl) (by kernel_rfl) (hval 0 24 v0 rfl rfl) h0
  obtain ⟨n0a, e0a, rfl, f0a⟩ := DataW.trod_int Try.underlying3 g0a
  simp at e0a
  subst e0a
  obtain ⟨n0b, e0b, rfl, f0b⟩ := DataW.trod_int Try.underlying3 g0b
  simp at e0b
  subst e0b
  obtain ⟨n0c, e0c, rfl, f0c⟩ := DataW.trod_int Try.underlying3 g0c
  simp at e0c
  subst e0c
  obtain ⟨a0, cap0, z0, hv0, hc0, w0⟩ : ∃ (A : Option Addr) (c : Nat) (zs : List Int), x0d = .slice A zs.length c ∧ zs.length ≤ c ∧ Rdw .i64 W W.heap.size A zs := by
    rcases open_ints Try.underlying22 Try.underlying3 (by kernel_rfl) g0d with ⟨hcs, _⟩ | ⟨x, l, c, zs, hcs, _, hl, hm, hz, _, hcell, hwz⟩
    · simp at hcs
      exact ⟨none, 0, [], hcs, Nat.le_refl _, Rdw.nil⟩
    · simp at hcs
      have hzl : (zs.take l).length = l := by simp at hz ⊢; omega
      exact ⟨some x, c, zs.take l, by rw [hzl]; exact hcs, by rw [hzl]; exact hl, Rdw.of_row hl hm (by simpa using hz) hcell hwz⟩
  subst hv0
  clear hA0 hval0
  refine (walk W n0a n0b n0c a0 cap0 z0 hc0 w0).mono fun e W' ⟨he, bel⟩ => ?_
  subst he
  exact ⟨_, rfl, _, _, _, [], _, [], hW', trodAll_mk1 (shut_bool Try.underlying4 _), (trodAll_cons_mk (Below.trod laidOut (by kernel_rfl) (of_decide_eq_true (by kernel_rfl)) k0 bel lt0) trodAll_mk0), rfl, bel.frame _, fun h => by cases h⟩

theorem over : Rows.fnExactThresholdOfRow.holds Try.pinned (OpenSpec.ofChange Rows.fnExactThresholdOfSpec) :=
  OpenClaim.holds_of_wide 3 Try.f3 rfl rfl rfl rfl rfl rfl rfl ⟨rfl, rfl, rfl, rfl, rfl⟩ rfl rfl rfl rfl rfl (by kernel_rfl) Try.func3 (by kernel_rfl)
    (of_decide_eq_true (by kernel_rfl)) (by unfold Func.isWrapper; first | (rw [if_pos (by decide +kernel)]; kernel_rfl) | (rw [if_neg (by decide +kernel)]; exact ⟨rfl, rfl⟩))
    (fun os started H enc _ => lifted os started H enc)

theorem proved : Rows.FnExactThresholdOfSaid := over
end Go.Proofs.Ytaejhodikpjeoaa.fnExactThresholdOf
