/- BackPairs of the program answers what the model answers, for every list; it writes into no argument, and its answer owns its memory. -/
import Derived.Test.YtmkfgcmabmocfaaRows
import Derived.WalkKit
import Derived.ProofKit
import Derived.OpenShut
import Derived.ShutString
import Derived.ChangeOld
import Derived.Below
import Derived.Lib.SmallJoins
import Derived.Test.YtmkfgcmabmocfaaGen
import Derived.Test.YtmkfgcmabmocfaaSz
import Derived.Deep.Cut
import Derived.Deep.RegionHeld3
import Derived.Test.YtmkfgcmabmocfaaPrsJ
import Derived.Test.YtmkfgcmabmocfaaPrsT
namespace Go.Proofs.Ytmkfgcmabmocfaa.fnExactBackPairs
open Go.ChangeShapes Go.WideShapes Go.ChangeAt Go.RowKit
open Go.ChangeMaps (open_string shut_string)
set_option linter.unusedVariables false

theorem bka_len (xs : List Int) (h : xs.length ≤ 1048576) : (cond (bkOk xs) (bkL xs) []).length ≤ 2000000 := by
  cases bkOk xs
  · simp
  · show (bkL xs).length ≤ 2000000
    rw [bkL_len]; omega
def FC (f : FuncId) (z0 : List Int) (RX : List Int) (o1 : Bool) : Prop :=
  ∀ (A0 : Option Addr) (c0 : Nat) (w : World), Rds .i64 w w.heap.size A0 z0 → z0.length ≤ c0 → Calls Try.prog f #[.slice A0 z0.length c0] w fun e w' => ∃ v, e = .returned (.tuple #[v, .bool o1]) ∧ Own w' w.heap.size v RX ∧ Below w.heap.size w w'
set_option maxHeartbeats 16000000 in
set_option maxRecDepth 8000 in
theorem walk (w : World) (a0 : Option Addr) (cap0 : Nat) (z0 : List Int) (hc0 : z0.length ≤ cap0) (w0 : Rdw .i64 w w.heap.size a0 z0) :
    Calls Try.prog 7 #[.slice a0 z0.length cap0] w fun e w' => e = .returned (.bool true) ∧ Below w.heap.size w w' := by
  have hm0 := w0.2.1
  unfold maxLen at hm0
  have HR0 := Lib.hid w0.1
  clear w0
  have S0 : GS w w [] [] := GS.start w
  by_cases hq0 : 1048576 < z0.length
  · go_enter Try.func7, Try.ntmps7
    go_wp2
    go_ret
    exact ⟨rfl, S0.below⟩
  go_enter Try.func7, Try.ntmps7
  go_wp2_with fail
  refine (toIntS_any a0 cap0 z0 _ (S0.arg HR0.out) (by omega)).mono ?_
  rintro e u1001 ⟨v1001, rfl, hO1001, hB1001⟩
  obtain ⟨A1001, c1001, rfl, hc1001⟩ := hO1001.slice
  have S1001 := S0.add hO1001 hB1001
  clear hB1001 hO1001
  clear S0
  obtain ⟨RX, o1, hRX, HI, HS⟩ : ∃ (RX : List Int) (o1 : Bool), RX.length ≤ 2000000 ∧ Hid (FC 19 z0 RX o1) ∧ Hid (FC 21 z0 RX o1) :=
      ⟨_, _, bka_len z0 (by omega), Lib.hid (fun A c w hx hc => i_BackPairs A c z0 w hx (by omega)), Lib.hid (fun A c w hx hc => s_BackPairs A c z0 w hx (by omega))⟩
  go_wp2_with fail
  refine (HS.out A1001 c1001 _ (S1001.rds (lo := w.heap.size) (hi := u1001.heap.size) (A := A1001) (n := z0.length) (c := c1001) (by simp)) hc1001).mono ?_
  rintro e u1002 ⟨v1002, rfl, hO1002, hB1002⟩
  obtain ⟨A1002, c1002, rfl, hc1002⟩ := hO1002.slice
  have S1002 := S1001.add hO1002 hB1002
  clear hB1002 hO1002
  clear S1001
  go_wp2_with fail
  refine (toIntS_any a0 cap0 z0 _ (S1002.arg HR0.out) (by omega)).mono ?_
  rintro e u1003 ⟨v1003, rfl, hO1003, hB1003⟩
  obtain ⟨A1003, c1003, rfl, hc1003⟩ := hO1003.slice
  have S1003 := S1002.add hO1003 hB1003
  clear hB1003 hO1003
  clear S1002
  go_wp2_with fail
  refine (HI.out A1003 c1003 _ (S1003.rds (lo := u1002.heap.size) (hi := u1003.heap.size) (A := A1003) (n := z0.length) (c := c1003) (by simp)) hc1003).mono ?_
  rintro e u1004 ⟨v1004, rfl, hO1004, hB1004⟩
  obtain ⟨A1004, c1004, rfl, hc1004⟩ := hO1004.slice
  have S1004 := S1003.add hO1004 hB1004
  clear hB1004 hO1004
  clear S1003
  go_wp2_with fail
  refine (eqIntS_same A1004 A1002 c1004 c1002 _ _ RX _ rfl rfl (S1004.rds (lo := u1003.heap.size) (hi := u1004.heap.size) (A := A1004) (n := RX.length) (c := c1004) (by simp)) (S1004.rds (lo := u1001.heap.size) (hi := u1002.heap.size) (A := A1002) (n := RX.length) (c := c1002) (by simp)) (by omega)).mono ?_
  rintro e u1005 ⟨rfl, hB1005⟩
  have S1005 := S1004.call hB1005
  clear hB1005
  clear S1004
  go_wp2_with fail
  refine (toIntS_any a0 cap0 z0 _ (S1005.arg HR0.out) (by omega)).mono ?_
  rintro e u1006 ⟨v1006, rfl, hO1006, hB1006⟩
  obtain ⟨A1006, c1006, rfl, hc1006⟩ := hO1006.slice
  have S1006 := S1005.add hO1006 hB1006
  clear hB1006 hO1006
  clear S1005
  go_wp2_with fail
  refine (eqIntS_same A1003 A1006 c1003 c1006 _ _ z0 _ rfl rfl (S1006.rds (lo := u1002.heap.size) (hi := u1003.heap.size) (A := A1003) (n := z0.length) (c := c1003) (by simp)) (S1006.rds (lo := u1005.heap.size) (hi := u1006.heap.size) (A := A1006) (n := z0.length) (c := c1006) (by simp)) (by omega)).mono ?_
  rintro e u1007 ⟨rfl, hB1007⟩
  have S1007 := S1006.call hB1007
  clear hB1007
  clear S1006
  go_wp2_with fail
  obtain ⟨K1008, HK1008⟩ : ∃ K : Int, Hid (K = 1 + ((z0.length : Nat) : Int)) := ⟨_, Lib.hid rfl⟩
  have hK1008 : 0 ≤ K1008 ∧ K1008 ≤ 8000001 := by have := HK1008.out; omega
  refine (markIntS_any (.slice A1003 z0.length c1003) u1002.heap.size z0 1 _ (S1007.own (lo := u1002.heap.size) (hi := u1003.heap.size) (by simp)) (by omega) (by omega) (by omega)).mono ?_
  rintro e u1008 ⟨he, hO1008, hG1008, _⟩
  rw [← HK1008.out] at he
  subst he
  have S1008 := GS.mark (L1 := [ri u1005.heap.size u1006.heap.size (.slice A1006 z0.length c1006) z0, ri u1003.heap.size u1004.heap.size (.slice A1004 RX.length c1004) RX]) (L2 := [ri u1001.heap.size u1002.heap.size (.slice A1002 RX.length c1002) RX, ri w.heap.size u1001.heap.size (.slice A1001 z0.length c1001) z0]) (lo := u1002.heap.size) (hi := u1003.heap.size) (v := .slice A1003 z0.length c1003) (xs := z0) S1007 hO1008 (by simp [marks]) hG1008
  clear hO1008 hG1008
  clear S1007
  go_wp2_with fail
  refine (eqIntS_same A1004 A1002 c1004 c1002 _ _ RX _ rfl rfl (S1008.rds (lo := u1003.heap.size) (hi := u1004.heap.size) (A := A1004) (n := RX.length) (c := c1004) (by simp)) (S1008.rds (lo := u1001.heap.size) (hi := u1002.heap.size) (A := A1002) (n := RX.length) (c := c1002) (by simp)) (by omega)).mono ?_
  rintro e u1009 ⟨rfl, hB1009⟩
  have S1009 := S1008.call hB1009
  clear hB1009
  clear S1008
  go_wp2_with fail
  obtain ⟨K1010, HK1010⟩ : ∃ K : Int, Hid (K = 1 + ((RX.length : Nat) : Int)) := ⟨_, Lib.hid rfl⟩
  have hK1010 : 0 ≤ K1010 ∧ K1010 ≤ 8000001 := by have := HK1010.out; omega
  refine (markIntS_any (.slice A1004 RX.length c1004) u1003.heap.size RX 1 _ (S1009.own (lo := u1003.heap.size) (hi := u1004.heap.size) (by simp)) (by omega) (by omega) (by omega)).mono ?_
  rintro e u1010 ⟨he, hO1010, hG1010, _⟩
  rw [← HK1010.out] at he
  subst he
  have S1010 := GS.mark (L1 := [ri u1005.heap.size u1006.heap.size (.slice A1006 z0.length c1006) z0]) (L2 := [ri u1002.heap.size u1003.heap.size (.slice A1003 z0.length c1003) (marks 1 (z0.length)), ri u1001.heap.size u1002.heap.size (.slice A1002 RX.length c1002) RX, ri w.heap.size u1001.heap.size (.slice A1001 z0.length c1001) z0]) (lo := u1003.heap.size) (hi := u1004.heap.size) (v := .slice A1004 RX.length c1004) (xs := RX) S1009 hO1010 (by simp [marks]) hG1010
  clear hO1010 hG1010
  clear S1009
  go_wp2_with fail
  refine (heldIntS_any A1004 c1004 _ RX.length 1 _ (S1010.rds (lo := u1003.heap.size) (hi := u1004.heap.size) (A := A1004) (n := RX.length) (c := c1004) (by simp)) (by omega) (by omega) (by omega)).mono ?_
  rintro e u1011 ⟨he, rfl⟩
  rw [← HK1010.out] at he
  subst he
  go_wp2_with fail
  refine (toIntS_any a0 cap0 z0 _ (S1010.arg HR0.out) (by omega)).mono ?_
  rintro e u1012 ⟨v1012, rfl, hO1012, hB1012⟩
  obtain ⟨A1012, c1012, rfl, hc1012⟩ := hO1012.slice
  have S1012 := S1010.add hO1012 hB1012
  clear hB1012 hO1012
  clear S1010
  go_wp2_with fail
  refine (HI.out A1012 c1012 _ (S1012.rds (lo := u1010.heap.size) (hi := u1012.heap.size) (A := A1012) (n := z0.length) (c := c1012) (by simp)) hc1012).mono ?_
  rintro e u1013 ⟨v1013, rfl, hO1013, hB1013⟩
  obtain ⟨A1013, c1013, rfl, hc1013⟩ := hO1013.slice
  have S1013 := S1012.add hO1013 hB1013
  clear hB1013 hO1013
  clear S1012
  go_wp2_with fail
  refine (eqIntS_same A1013 A1002 c1013 c1002 _ _ RX _ rfl rfl (S1013.rds (lo := u1012.heap.size) (hi := u1013.heap.size) (A := A1013) (n := RX.length) (c := c1013) (by simp)) (S1013.rds (lo := u1001.heap.size) (hi := u1002.heap.size) (A := A1002) (n := RX.length) (c := c1002) (by simp)) (by omega)).mono ?_
  rintro e u1014 ⟨rfl, hB1014⟩
  have S1014 := S1013.call hB1014
  clear hB1014
  clear S1013
  go_wp2_with fail
  refine (heldIntS_any A1004 c1004 _ RX.length 1 _ (S1014.rds (lo := u1003.heap.size) (hi := u1004.heap.size) (A := A1004) (n := RX.length) (c := c1004) (by simp)) (by omega) (by omega) (by omega)).mono ?_
  rintro e u1015 ⟨he, rfl⟩
  rw [← HK1010.out] at he
  subst he
  go_wp2
  go_ret
  exact ⟨rfl, S1014.below⟩

/-! ### From the walk to the statement. -/
theorem own : ownKnob Try.prog.godebug = none := by kernel_rfl
theorem laidOut : laidOutB Try.prog = true := by kernel_rfl
set_option maxRecDepth 100000 in
theorem lifted (os : Os) (started : os.Started) (H : Type) (enc : TypeId × Value → H) :
    ReturnsInHanded {} Try.checked os 7 .any (Rows.fnExactBackPairsSpec.pre6 enc Try.prog Try.f7 Rows.fnExactBackPairsRow.domain false) (Rows.fnExactBackPairsSpec.post enc Try.prog Try.f7 false true false false) := by
  refine returnsInHanded_of_change (C := Try.checked) own started (by kernel_rfl) Try.func7
    (ChangeSpec.witness6 (enc := enc) (C := Try.checked) false ⟨#[], #[.slice none 0 0], []⟩ 8 (by kernel_rfl) (by kernel_rfl) (by kernel_rfl) (by kernel_rfl)) ?_
  intro W base args ds gs before hval0 hW hcnd _
  have hval : ∀ (j : Nat) t v, Try.f7.params[j]? = some t → args[j]? = some v → Value.okWide Try.prog W .any base t v := hval0
  have hW' := hW
  obtain ⟨p, q, hA0, hV, rfl, hfz, hnd⟩ := hW
  have hA : DataW.TrodAll enc Try.prog W 0 (fun _ => true) true Try.f7.params.toList args.toList ds p := hA0
  rw [Try.params7] at hA hval
  obtain ⟨v0, vs0, d0, ds0, p0, q0, hargs, rfl, rfl, h0, r0⟩ := trodAll_cons hA
  obtain ⟨rfl, rfl, rfl⟩ := trodAll_nil r0
  obtain rfl : args = #[v0] := by cases args; simp_all
  obtain ⟨rfl, rfl⟩ := trodVars_none hV
  obtain ⟨a0, len0, cap0, rfl⟩ := okWide_slice Try.underlying23 (hval 0 23 v0 rfl rfl)
  have k0 := h0
  have lt0 : ∀ x ∈ p0, x.block < W.heap.size := by obtain ⟨m, hm⟩ := k0; exact DataW.trod_lt m _ _ _ hm
  obtain ⟨z0, hl0, hc0, w0⟩ : ∃ zs : List Int, len0 = zs.length ∧ zs.length ≤ cap0 ∧ Rdw .i64 W W.heap.size a0 zs := by
    obtain ⟨fuel, hf⟩ := h0
    rcases open_ints Try.underlying23 Try.underlying3 (by kernel_rfl) hf with ⟨hcs, _⟩ | ⟨x, l, c, zs, hcs, _, hl, hm, hz, _, hcell, hwz⟩
    · simp [Value.cells] at hcs
      obtain ⟨rfl, rfl, rfl⟩ := hcs
      exact ⟨[], rfl, Nat.le_refl _, Rdw.nil⟩
    · simp [Value.cells] at hcs
      obtain ⟨rfl, rfl, rfl⟩ := hcs
      exact ⟨zs.take len0, by simp at hz ⊢; omega, by simp at hz ⊢; omega, Rdw.of_row hl hm (by simpa using hz) hcell hwz⟩
  subst hl0
  clear hA0 hval0
  refine (walk W a0 cap0 z0 hc0 w0).mono fun e W' ⟨he, bel⟩ => ?_
  subst he
  exact ⟨_, rfl, _, _, _, [], _, [], hW', trodAll_mk1 (shut_bool Try.underlying4 _), (trodAll_cons_mk (Below.trod laidOut (by kernel_rfl) (of_decide_eq_true (by kernel_rfl)) k0 bel lt0) trodAll_mk0), rfl, bel.frame _, fun h => by cases h⟩

theorem over : Rows.fnExactBackPairsRow.holds Try.pinned (OpenSpec.ofChange Rows.fnExactBackPairsSpec) :=
  OpenClaim.holds_of_wide 7 Try.f7 rfl rfl rfl rfl rfl rfl rfl ⟨rfl, rfl, rfl, rfl, rfl⟩ rfl rfl rfl rfl rfl (by kernel_rfl) Try.func7 (by kernel_rfl)
    (of_decide_eq_true (by kernel_rfl)) (by unfold Func.isWrapper; first | (rw [if_pos (by decide +kernel)]; kernel_rfl) | (rw [if_neg (by decide +kernel)]; exact ⟨rfl, rfl⟩))
    (fun os started H enc _ => lifted os started H enc)

theorem proved : Rows.FnExactBackPairsSaid := over
end Go.Proofs.Ytmkfgcmabmocfaa.fnExactBackPairs
