/- LineRegion of the program answers what the model answers, for every four numbers, where the table of math/bits is what the program lays; its answer owns its memory. -/
import Derived.Test.YtbjgjjhfnaiocaaDoorRows
import Derived.WalkKit
import Derived.ProofKit
import Derived.OpenShut
import Derived.ShutString
import Derived.ChangeOld
import Derived.Below
import Derived.Lib.SmallJoins
import Derived.Test.YtbjgjjhfnaiocaaDoorGen
import Derived.Test.YtbjgjjhfnaiocaaDoorSz
import Derived.Deep.Cut
import Derived.Deep.RegionHeld3
import Derived.Test.YtbjgjjhfnaiocaaDoorLnR
import Derived.Test.YtbjgjjhfnaiocaaDoorTri2
import Derived.Test.YtbjgjjhfnaiocaaDoorTriO
import Derived.Test.YtbjgjjhfnaiocaaDoorDoor
import Derived.Test.YtbjgjjhfnaiocaaDoorTie
import Derived.Test.YtbjgjjhfnaiocaaDoorCards
import Derived.SevenTiedAt
import Derived.LaidMore
namespace Go.Proofs.YtbjgjjhfnaiocaaDoor.fnExactLineRegion
open Go.ChangeShapes Go.WideShapes Go.ChangeAt Go.RowKit
open Go.ChangeMaps (open_string shut_string)
set_option linter.unusedVariables false

theorem rif_len (ok : Bool) (G : Nat → Nat → Bool) : (cond ok (rnN G) 0) ≤ 1000000 ∧ (cond ok (rnL G) []).length = 3 * (cond ok (rnN G) 0) := by
  cases ok
  · exact ⟨by show 0 ≤ _; omega, rfl⟩
  · have := rnL_len G
    exact ⟨by show rnN G ≤ _; omega, this.1⟩
def FC (f : FuncId) (a0 : Int) (a1 : Int) (a2 : Int) (a3 : Int) (RN : Nat) (RX : List Int) : Prop :=
  ∀  (w : World), Tab w → Calls Tryd.prog f #[.int .i64 a0, .int .i64 a1, .int .i64 a2, .int .i64 a3] w fun e w' => ∃ v, e = .returned (v) ∧ World.ownsRow w' w.heap.size 35 3 v RN (RX.map (.int .i64)) ∧ Below w.heap.size w w'
set_option maxHeartbeats 16000000 in
set_option maxRecDepth 8000 in
theorem walk (w : World) (a0 : Int) (w0 : (Lit.int .i64 a0).wf = true) (a1 : Int) (w1 : (Lit.int .i64 a1).wf = true) (a2 : Int) (w2 : (Lit.int .i64 a2).wf = true) (a3 : Int) (w3 : (Lit.int .i64 a3).wf = true) (hT : Tab w) :
    Calls Tryd.prog 3 #[.int .i64 a0, .int .i64 a1, .int .i64 a2, .int .i64 a3] w fun e w' => e = .returned (.bool true) ∧ Below w.heap.size w w' := by
  have HT := Lib.hid hT
  clear hT
  obtain ⟨RN, RX, ⟨hRN, HRL0⟩, HI, HS⟩ : ∃ (RN : Nat) (RX : List Int), (RN ≤ 1000000 ∧ RX.length = 3 * RN) ∧ Hid (FC 9 a0 a1 a2 a3 RN RX) ∧ Hid (FC 8 a0 a1 a2 a3 RN RX) :=
      ⟨_, _, rif_len _ _, Lib.hid (fun w ht => i_LineRegion a0 a1 a2 a3 w ht), Lib.hid (fun w _ => s_LineRegion a0 a1 a2 a3 w)⟩
  have HRL := Lib.hid HRL0
  clear HRL0
  have S0 : GS w w [] [] := GS.start w
  go_enter Tryd.func3, Tryd.ntmps3
  go_wp2_with fail
  refine (HS.out  _  (HT.out.below S0.below)).mono ?_
  rintro e u1001 ⟨v1001, rfl, hO1001, hB1001⟩
  obtain ⟨A1001, c1001, rfl, hc1001⟩ := OwnT.slice hO1001
  have S1001 := S0.addT hO1001 hB1001
  clear hB1001 hO1001
  clear S0
  go_wp2_with fail
  refine (HI.out  _  (HT.out.below S1001.below)).mono ?_
  rintro e u1002 ⟨v1002, rfl, hO1002, hB1002⟩
  obtain ⟨A1002, c1002, rfl, hc1002⟩ := OwnT.slice hO1002
  have S1002 := S1001.addT hO1002 hB1002
  clear hB1002 hO1002
  clear S1001
  go_wp2_with fail
  refine (eqRunS_same A1002 A1001 RN c1002 c1001 RX _ _ _ HRL.out (S1002.rdsT (lo := u1001.heap.size) (hi := u1002.heap.size) (A := A1002) (E := 35) (C := 3) (n := RN) (m := RN) (c := c1002) (by simp)) (S1002.rdsT (lo := w.heap.size) (hi := u1001.heap.size) (A := A1001) (E := 35) (C := 3) (n := RN) (m := RN) (c := c1001) (by simp)) (Nat.le_refl _) (Nat.le_refl _) (by omega)).mono ?_
  rintro e u1003 ⟨rfl, hB1003⟩
  have S1003 := S1002.call hB1003
  clear hB1003
  clear S1002
  go_wp2_with fail
  obtain ⟨K1004, HK1004⟩ : ∃ K : Int, Hid (K = 1 + ((RN * 3 : Nat) : Int)) := ⟨_, Lib.hid rfl⟩
  have hK1004 : 0 ≤ K1004 ∧ K1004 ≤ 8000001 := by have := HK1004.out; omega
  refine (markRunS_any (.slice A1002 RN c1002) u1001.heap.size RN RX 1 _ (S1003.ownT (lo := u1001.heap.size) (hi := u1002.heap.size) (by simp)) (by omega) (by omega) (by omega)).mono ?_
  rintro e u1004 ⟨he, hO1004, hG1004, _⟩
  rw [← HK1004.out] at he
  subst he
  have S1004 := GS.markT (L1 := []) (L2 := [rt 35 3 w.heap.size u1001.heap.size (.slice A1001 RN c1001) RN RX]) (E := 35) (C := 3) (lo := u1001.heap.size) (hi := u1002.heap.size) (v := .slice A1002 RN c1002) (n := RN) (xs := RX) (ys := marks 1 (RN * 3)) S1003 hO1004 hG1004
  clear hO1004 hG1004
  clear S1003
  go_wp2_with fail
  refine (heldRunS_any A1002 RN c1002 _ 1 _ (S1004.rdsT (lo := u1001.heap.size) (hi := u1002.heap.size) (A := A1002) (E := 35) (C := 3) (n := RN) (m := RN) (c := c1002) (by simp)) (by omega) (by omega) (by omega)).mono ?_
  rintro e u1005 ⟨he, rfl⟩
  rw [← HK1004.out] at he
  subst he
  go_wp2_with fail
  refine (HI.out  _  (HT.out.below S1004.below)).mono ?_
  rintro e u1006 ⟨v1006, rfl, hO1006, hB1006⟩
  obtain ⟨A1006, c1006, rfl, hc1006⟩ := OwnT.slice hO1006
  have S1006 := S1004.addT hO1006 hB1006
  clear hB1006 hO1006
  clear S1004
  go_wp2_with fail
  refine (eqRunS_same A1006 A1001 RN c1006 c1001 RX _ _ _ HRL.out (S1006.rdsT (lo := u1004.heap.size) (hi := u1006.heap.size) (A := A1006) (E := 35) (C := 3) (n := RN) (m := RN) (c := c1006) (by simp)) (S1006.rdsT (lo := w.heap.size) (hi := u1001.heap.size) (A := A1001) (E := 35) (C := 3) (n := RN) (m := RN) (c := c1001) (by simp)) (Nat.le_refl _) (Nat.le_refl _) (by omega)).mono ?_
  rintro e u1007 ⟨rfl, hB1007⟩
  have S1007 := S1006.call hB1007
  clear hB1007
  clear S1006
  go_wp2_with fail
  refine (heldRunS_any A1002 RN c1002 _ 1 _ (S1007.rdsT (lo := u1001.heap.size) (hi := u1002.heap.size) (A := A1002) (E := 35) (C := 3) (n := RN) (m := RN) (c := c1002) (by simp)) (by omega) (by omega) (by omega)).mono ?_
  rintro e u1008 ⟨he, rfl⟩
  rw [← HK1004.out] at he
  subst he
  go_wp2
  go_ret
  exact ⟨rfl, S1007.below⟩

/-! ### From the walk to the statement. -/
theorem own : ownKnob Tryd.prog.godebug = none := by kernel_rfl
theorem laidOut : laidOutB Tryd.prog = true := by kernel_rfl
set_option maxRecDepth 100000 in
theorem lifted (os : Os) (started : os.Started) (H : Type) (enc : TypeId × Value → H) :
    ReturnsInHanded {} Tryd.checked os 3 .any (fun w args => (Rows.fnExactLineRegionSpec.pre enc Tryd.prog Tryd.f3 [] false w args ∧ laidMetH Tryd.prog laidTab w) ∧ sizedMet enc Tryd.prog Tryd.f3 (OpenSpec.ofChange Rows.fnExactLineRegionSpec) false w args) (Rows.fnExactLineRegionSpec.post enc Tryd.prog Tryd.f3 false true false false) := by
  refine returnsInHanded_of_change_and (C := Tryd.checked) (X := fun w _ => laidMetH Tryd.prog laidTab w) (fun _ _ _ hh h => h.of_heap hh) own started (by kernel_rfl) Tryd.func3
    (ChangeSpec.witness_shaped (enc := enc) (C := Tryd.checked) (os := os) (X := fun w _ => laidMetH Tryd.prog laidTab w) false (World.doorLaid Tryd.prog doorSteps os) #[.int .i64 0, .int .i64 0, .int .i64 0, .int .i64 0] 8 rfl (World.shaped_of_RefB (by kernel_rfl) (by kernel_rfl)) (by kernel_rfl) (by kernel_rfl) (by kernel_rfl) (door_met os _)) ?_
  intro W base args ds gs before hval0 hW _ _ hL _
  have hval : ∀ (j : Nat) t v, Tryd.f3.params[j]? = some t → args[j]? = some v → Value.okWide Tryd.prog W .any base t v := hval0
  have hW' := hW
  obtain ⟨p, q, hA0, hV, rfl, hfz, hnd⟩ := hW
  have hA : DataW.TrodAll enc Tryd.prog W 0 (fun _ => true) true Tryd.f3.params.toList args.toList ds p := hA0
  rw [Tryd.params3] at hA hval
  obtain ⟨v0, vs0, d0, ds0, p0, q0, hargs, rfl, rfl, h0, r0⟩ := trodAll_cons hA
  obtain ⟨v1, vs1, d1, ds1, p1, q1, rfl, rfl, rfl, h1, r1⟩ := trodAll_cons r0
  obtain ⟨v2, vs2, d2, ds2, p2, q2, rfl, rfl, rfl, h2, r2⟩ := trodAll_cons r1
  obtain ⟨v3, vs3, d3, ds3, p3, q3, rfl, rfl, rfl, h3, r3⟩ := trodAll_cons r2
  obtain ⟨rfl, rfl, rfl⟩ := trodAll_nil r3
  obtain rfl : args = #[v0, v1, v2, v3] := by cases args; simp_all
  obtain ⟨rfl, rfl⟩ := trodVars_none hV
  obtain ⟨a0, rfl, rfl, rfl, w0⟩ := open_int Tryd.underlying3 (hval 0 3 v0 rfl rfl) h0
  obtain ⟨a1, rfl, rfl, rfl, w1⟩ := open_int Tryd.underlying3 (hval 1 3 v1 rfl rfl) h1
  obtain ⟨a2, rfl, rfl, rfl, w2⟩ := open_int Tryd.underlying3 (hval 2 3 v2 rfl rfl) h2
  obtain ⟨a3, rfl, rfl, rfl, w3⟩ := open_int Tryd.underlying3 (hval 3 3 v3 rfl rfl) h3
  clear hA0 hval0
  refine (walk W a0 w0 a1 w1 a2 w2 a3 w3 (tab_of hL)).mono fun e W' ⟨he, bel⟩ => ?_
  subst he
  exact ⟨_, rfl, _, _, _, [], _, [], hW', trodAll_mk1 (shut_bool Tryd.underlying4 _), (trodAll_cons_mk (shut_int Tryd.underlying3 w0) (trodAll_cons_mk (shut_int Tryd.underlying3 w1) (trodAll_cons_mk (shut_int Tryd.underlying3 w2) (trodAll_cons_mk (shut_int Tryd.underlying3 w3) trodAll_mk0)))), rfl, bel.frame _, fun h => by cases h⟩

theorem over : Rows.fnExactLineRegionRow.holds Tryd.pinned (OpenSpec.ofChange Rows.fnExactLineRegionSpec) :=
  OpenClaim.holds_of_wide 3 Tryd.f3 rfl rfl rfl rfl rfl rfl rfl ⟨rfl, rfl, rfl, rfl, rfl⟩ rfl rfl rfl rfl rfl (by kernel_rfl) Tryd.func3 (by kernel_rfl)
    (of_decide_eq_true (by kernel_rfl)) (by unfold Func.isWrapper; first | (rw [if_pos (by decide +kernel)]; kernel_rfl) | (rw [if_neg (by decide +kernel)]; exact ⟨rfl, rfl⟩))
    (fun os started H enc _ => lifted os started H enc)

theorem proved : Rows.FnExactLineRegionCardSaid :=
  Claim7.holds_tied_plain_at .later [] [.data] true _ _
    over (fun _ h => by cases h) (by kernel_rfl) (fun _ h => by cases h) fnExactLineRegion_row_tie rfl ⟨rfl, rfl⟩ (by kernel_rfl) rfl
    (fun f fn hf hfn => by
      obtain rfl : f = 3 := Option.some.inj ((show Tryd.prog.funcNamed "loop.example/pixelworks/laws.FnExactLineRegion" = some 3 by kernel_rfl).symm.trans hf) |>.symm
      obtain rfl : fn = Tryd.f3 := (Option.some.inj (Tryd.func3.symm.trans hfn)).symm
      exact ⟨by kernel_rfl, fun j t ht => by
        rw [Tryd.params3] at ht
        have hm : t ∈ [3, 3, 3, 3] := by simpa using Array.mem_of_getElem? ht
        have hall : ([3, 3, 3, 3].all fun u => !Tryd.prog.wantsStandIn u) = true := by kernel_rfl
        exact (show Tryd.prog.wantsStandIn t = false by simpa using List.all_eq_true.1 hall t hm)⟩)
    (by kernel_rfl)
end Go.Proofs.YtbjgjjhfnaiocaaDoor.fnExactLineRegion
