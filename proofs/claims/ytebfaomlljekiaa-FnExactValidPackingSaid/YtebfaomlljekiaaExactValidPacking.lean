/- ValidPacking of the program answers what the model answers, for every list of boxes, every width and every height, and changes nothing of the list. -/
import Derived.Test.YtebfaomlljekiaaRows
import Derived.WalkKit
import Derived.ProofKit
import Derived.OpenShut
import Derived.ShutString
import Derived.ChangeOld
import Derived.Below
import Derived.Lib.SmallJoins
import Derived.Test.YtebfaomlljekiaaGen
import Derived.Test.YtebfaomlljekiaaSz
import Derived.Deep.Cut
import Derived.Deep.RegionHeld3
import Derived.Test.YtebfaomlljekiaaVpk
import Derived.Test.YtebfaomlljekiaaNa
import Derived.Test.YtebfaomlljekiaaTriO
namespace Go.Proofs.Ytebfaomlljekiaa.fnExactValidPacking
open Go.ChangeShapes Go.WideShapes Go.ChangeAt Go.RowKit
open Go.ChangeMaps (open_string shut_string)
set_option linter.unusedVariables false

def FC (f : FuncId) (len0 : Nat) (z0 : List Int) (a1 : Int) (a2 : Int) (o0 : Bool) : Prop :=
  ∀ (A0 : Option Addr) (c0 : Nat) (w : World), Rds .i64 w w.heap.size A0 z0 → len0 ≤ c0 → Calls Try.prog f #[.slice A0 len0 c0, .int .i64 a1, .int .i64 a2] w fun e w' => e = .returned (.bool o0) ∧ Below w.heap.size w w'
set_option maxHeartbeats 16000000 in
set_option maxRecDepth 8000 in
theorem walk (w : World) (a0 : Option Addr) (len0 cap0 : Nat) (z0 : List Int) (hl0 : z0.length = 4 * len0) (hc0 : len0 ≤ cap0) (hm0 : cap0 ≤ maxLen) (w0 : Rds .i64 w w.heap.size a0 z0) (f0 : ∀ n ∈ z0, (Lit.int .i64 n).wf = true) (a1 : Int) (w1 : (Lit.int .i64 a1).wf = true) (a2 : Int) (w2 : (Lit.int .i64 a2).wf = true) :
    Calls Try.prog 13 #[.slice a0 len0 cap0, .int .i64 a1, .int .i64 a2] w fun e w' => e = .returned (.bool true) ∧ Below w.heap.size w w' := by
  unfold maxLen at *
  have HL0 := Lib.hid hl0
  have HR0 := Lib.hid w0
  clear hl0 w0 f0
  have S0 : GS w w [] [] := GS.start w
  go_enter Try.func13, Try.ntmps13
  go_wp2_with fail
  by_cases hs1001 : (1048576 : Int) < (len0 : Nat)
  · refine (szBoxS_gt a0 cap0 _ (1048576) _ (by omega) (by omega) hs1001 (by omega)).mono ?_
    rintro e uz ⟨rfl, hBz⟩
    have HSz := Lib.hid (S0.call hBz)
    clear hBz
    go_wp2
    go_ret
    exact ⟨rfl, HSz.out.below⟩
  obtain ⟨K1002, HK1002⟩ : ∃ K : Int, Hid (K = 1048576 - ((len0 : Nat) : Int)) := ⟨_, Lib.hid rfl⟩
  have hK1002 : 0 ≤ K1002 ∧ K1002 ≤ 1048576 := by have := HK1002.out; omega
  have hb0 : len0 ≤ 1048576 := by omega
  refine (szBoxS_le a0 cap0 _ (1048576) _ (by omega) (by omega) (by omega)).mono ?_
  rintro e u1002 ⟨he, hB1002⟩
  rw [← HK1002.out] at he
  subst he
  have S1002 := S0.call hB1002
  clear hB1002
  clear S0
  obtain ⟨o0, HI, HS⟩ : ∃ (o0 : Bool), Hid (FC 66 len0 z0 a1 a2 o0) ∧ Hid (FC 65 len0 z0 a1 a2 o0) :=
      ⟨_, Lib.hid (fun A c w hx hc => i_ValidPacking A len0 c w.heap.size z0 a1 a2 w HL0.out hc hx (Nat.le_refl _) (by omega)), Lib.hid (fun A c w hx hc => s_ValidPacking A len0 c w.heap.size z0 a1 a2 w w1 w2 HL0.out hx (Nat.le_refl _) (by omega))⟩
  go_wp2_with fail
  refine (toBoxS_any a0 len0 cap0 z0 _ HL0.out (S1002.arg HR0.out) (by omega)).mono ?_
  rintro e u1003 ⟨A1003, c1003, rfl, ⟨hc1003, hcx1003⟩, hr1003, hB1003, hf1003, hO1003⟩
  clear hr1003 hf1003 hcx1003
  have S1003 := S1002.addT hO1003 hB1003
  clear hB1003 hO1003
  clear S1002
  go_wp2_with fail
  refine (HS.out A1003 c1003 _ (S1003.rdsT (lo := u1002.heap.size) (hi := u1003.heap.size) (A := A1003) (E := 131) (C := 4) (n := len0) (m := len0) (c := c1003) (by simp)) hc1003).mono ?_
  rintro e u1004 ⟨rfl, hB1004⟩
  have S1004 := S1003.call hB1004
  clear hB1004
  clear S1003
  go_wp2_with fail
  refine (toBoxS_any a0 len0 cap0 z0 _ HL0.out (S1004.arg HR0.out) (by omega)).mono ?_
  rintro e u1005 ⟨A1005, c1005, rfl, ⟨hc1005, hcx1005⟩, hr1005, hB1005, hf1005, hO1005⟩
  clear hr1005 hf1005 hcx1005
  have S1005 := S1004.addT hO1005 hB1005
  clear hB1005 hO1005
  clear S1004
  go_wp2_with fail
  refine (HI.out A1005 c1005 _ (S1005.rdsT (lo := u1004.heap.size) (hi := u1005.heap.size) (A := A1005) (E := 131) (C := 4) (n := len0) (m := len0) (c := c1005) (by simp)) hc1005).mono ?_
  rintro e u1006 ⟨rfl, hB1006⟩
  have S1006 := S1005.call hB1006
  clear hB1006
  clear S1005
  go_wp2_with fail
  refine (toBoxS_any a0 len0 cap0 z0 _ HL0.out (S1006.arg HR0.out) (by omega)).mono ?_
  rintro e u1007 ⟨A1007, c1007, rfl, ⟨hc1007, hcx1007⟩, hr1007, hB1007, hf1007, hO1007⟩
  clear hr1007 hf1007 hcx1007
  have S1007 := S1006.addT hO1007 hB1007
  clear hB1007 hO1007
  clear S1006
  go_wp2_with fail
  refine (eqBoxS_same A1005 A1007 len0 c1005 c1007 z0 _ _ _ HL0.out (S1007.rdsT (lo := u1004.heap.size) (hi := u1005.heap.size) (A := A1005) (E := 131) (C := 4) (n := len0) (m := len0) (c := c1005) (by simp)) (S1007.rdsT (lo := u1006.heap.size) (hi := u1007.heap.size) (A := A1007) (E := 131) (C := 4) (n := len0) (m := len0) (c := c1007) (by simp)) (Nat.le_refl _) (Nat.le_refl _) (by omega)).mono ?_
  rintro e u1008 ⟨rfl, hB1008⟩
  have S1008 := S1007.call hB1008
  clear hB1008
  clear S1007
  go_wp2
  go_ret
  exact ⟨rfl, S1008.below⟩

/-! ### From the walk to the statement. -/
theorem own : ownKnob Try.prog.godebug = none := by kernel_rfl
theorem laidOut : laidOutB Try.prog = true := by kernel_rfl
set_option maxRecDepth 100000 in
theorem lifted (os : Os) (started : os.Started) (H : Type) (enc : TypeId × Value → H) :
    ReturnsInHanded {} Try.checked os 13 .any (Rows.fnExactValidPackingSpec.pre6 enc Try.prog Try.f13 Rows.fnExactValidPackingRow.domain false) (Rows.fnExactValidPackingSpec.post enc Try.prog Try.f13 false true false false) := by
  refine returnsInHanded_of_change (C := Try.checked) own started (by kernel_rfl) Try.func13
    (ChangeSpec.witness6 (enc := enc) (C := Try.checked) false ⟨#[], #[.slice none 0 0, .int .i64 0, .int .i64 0], []⟩ 8 (by kernel_rfl) (by kernel_rfl) (by kernel_rfl) (by kernel_rfl)) ?_
  intro W base args ds gs before hval0 hW hcnd _
  have hval : ∀ (j : Nat) t v, Try.f13.params[j]? = some t → args[j]? = some v → Value.okWide Try.prog W .any base t v := hval0
  have hW' := hW
  obtain ⟨p, q, hA0, hV, rfl, hfz, hnd⟩ := hW
  have hA : DataW.TrodAll enc Try.prog W 0 (fun _ => true) true Try.f13.params.toList args.toList ds p := hA0
  rw [Try.params13] at hA hval
  obtain ⟨v0, vs0, d0, ds0, p0, q0, hargs, rfl, rfl, h0, r0⟩ := trodAll_cons hA
  obtain ⟨v1, vs1, d1, ds1, p1, q1, rfl, rfl, rfl, h1, r1⟩ := trodAll_cons r0
  obtain ⟨v2, vs2, d2, ds2, p2, q2, rfl, rfl, rfl, h2, r2⟩ := trodAll_cons r1
  obtain ⟨rfl, rfl, rfl⟩ := trodAll_nil r2
  obtain rfl : args = #[v0, v1, v2] := by cases args; simp_all
  obtain ⟨rfl, rfl⟩ := trodVars_none hV
  obtain ⟨a0, len0, cap0, rfl⟩ := okWide_slice Try.underlying62 (hval 0 62 v0 rfl rfl)
  have k0 := h0
  have lt0 : ∀ x ∈ p0, x.block < W.heap.size := by obtain ⟨m, hm⟩ := k0; exact DataW.trod_lt m _ _ _ hm
  obtain ⟨z0, hl0, hc0, hm0, w0, f0⟩ : ∃ zs : List Int, zs.length = 4 * len0 ∧ len0 ≤ cap0 ∧ cap0 ≤ maxLen ∧ Rds .i64 W W.heap.size a0 zs ∧ ∀ n ∈ zs, (Lit.int .i64 n).wf = true := by
    obtain ⟨fuel, hf⟩ := h0
    obtain ⟨A, l, c, zs, hcs, r⟩ := open_flat (C := 4) Try.underlying62 Try.underlying135 Try.underlying3 (by decide) rfl (by kernel_rfl) (by kernel_rfl) (by intro q f hq; rcases q with _ | _ | _ | _ | q <;> simp at hq <;> (subst hq; exact ⟨rfl, rfl⟩)) hf
    simp [Value.cells] at hcs
    obtain ⟨rfl, rfl, rfl⟩ := hcs
    exact ⟨zs, r⟩
  obtain ⟨a1, rfl, rfl, rfl, w1⟩ := open_int Try.underlying3 (hval 1 3 v1 rfl rfl) h1
  obtain ⟨a2, rfl, rfl, rfl, w2⟩ := open_int Try.underlying3 (hval 2 3 v2 rfl rfl) h2
  clear hA0 hval0
  refine (walk W a0 len0 cap0 z0 hl0 hc0 hm0 w0 f0 a1 w1 a2 w2).mono fun e W' ⟨he, bel⟩ => ?_
  subst he
  exact ⟨_, rfl, _, _, _, [], _, [], hW', trodAll_mk1 (shut_bool Try.underlying4 _), (trodAll_cons_mk (Below.trod laidOut (by kernel_rfl) (of_decide_eq_true (by kernel_rfl)) k0 bel lt0) (trodAll_cons_mk (shut_int Try.underlying3 w1) (trodAll_cons_mk (shut_int Try.underlying3 w2) trodAll_mk0))), rfl, bel.frame _, fun h => by cases h⟩

theorem over : Rows.fnExactValidPackingRow.holds Try.pinned (OpenSpec.ofChange Rows.fnExactValidPackingSpec) :=
  OpenClaim.holds_of_wide 13 Try.f13 rfl rfl rfl rfl rfl rfl rfl ⟨rfl, rfl, rfl, rfl, rfl⟩ rfl rfl rfl rfl rfl (by kernel_rfl) Try.func13 (by kernel_rfl)
    (of_decide_eq_true (by kernel_rfl)) (by unfold Func.isWrapper; first | (rw [if_pos (by decide +kernel)]; kernel_rfl) | (rw [if_neg (by decide +kernel)]; exact ⟨rfl, rfl⟩))
    (fun os started H enc _ => lifted os started H enc)

theorem proved : Rows.FnExactValidPackingSaid := over
end Go.Proofs.Ytebfaomlljekiaa.fnExactValidPacking
