/- PackSprites of the program answers what the model answers, for every list of sizes and every width; it writes into no argument, and its answer owns its memory. -/
import Derived.Test.YtgieijogopcjnaaRows
import Derived.WalkKit
import Derived.ProofKit
import Derived.OpenShut
import Derived.ShutString
import Derived.ChangeOld
import Derived.Below
import Derived.Lib.SmallJoins
import Derived.Test.YtgieijogopcjnaaGen
import Derived.Test.YtgieijogopcjnaaSz
import Derived.Deep.Cut
import Derived.Deep.RegionHeld3
import Derived.Test.YtgieijogopcjnaaPckU
import Derived.Test.YtgieijogopcjnaaOwnS
import Derived.Test.YtgieijogopcjnaaNa
import Derived.Test.YtgieijogopcjnaaTriO
namespace Go.Proofs.Ytgieijogopcjnaa.fnExactPackSprites
open Go.ChangeShapes Go.WideShapes Go.ChangeAt Go.RowKit
open Go.ChangeMaps (open_string shut_string)
set_option linter.unusedVariables false

def FC (f : FuncId) (len0 : Nat) (z0 : List Int) (a1 : Int) (RN : Nat) (RX : List Int) (n1 : Int) : Prop :=
  ∀ (A0 : Option Addr) (c0 : Nat) (w : World), Rds .i64 w w.heap.size A0 z0 → len0 ≤ c0 → Calls Try.prog f #[.slice A0 len0 c0, .int .i64 a1] w fun e w' => ∃ v, e = .returned (.tuple #[v, .int .i64 n1]) ∧ World.ownsRow w' w.heap.size 29 4 v RN (RX.map (.int .i64)) ∧ Below w.heap.size w w'
set_option maxHeartbeats 16000000 in
set_option maxRecDepth 8000 in
theorem walk (w : World) (a0 : Option Addr) (len0 cap0 : Nat) (z0 : List Int) (hl0 : z0.length = 2 * len0) (hc0 : len0 ≤ cap0) (hm0 : cap0 ≤ maxLen) (w0 : Rds .i64 w w.heap.size a0 z0) (f0 : ∀ n ∈ z0, (Lit.int .i64 n).wf = true) (a1 : Int) (w1 : (Lit.int .i64 a1).wf = true) :
    Calls Try.prog 5 #[.slice a0 len0 cap0, .int .i64 a1] w fun e w' => e = .returned (.bool true) ∧ Below w.heap.size w w' := by
  unfold maxLen at *
  have HL0 := Lib.hid hl0
  have HR0 := Lib.hid w0
  clear hl0 w0 f0
  have S0 : GS w w [] [] := GS.start w
  go_enter Try.func5, Try.ntmps5
  go_wp2_with fail
  by_cases hs1001 : (1048576 : Int) < (len0 : Nat)
  · refine (szSizeS_gt a0 cap0 _ (1048576) _ (by omega) (by omega) hs1001 (by omega)).mono ?_
    rintro e uz ⟨rfl, hBz⟩
    have HSz := Lib.hid (S0.call hBz)
    clear hBz
    go_wp2
    go_ret
    exact ⟨rfl, HSz.out.below⟩
  obtain ⟨K1002, HK1002⟩ : ∃ K : Int, Hid (K = 1048576 - ((len0 : Nat) : Int)) := ⟨_, Lib.hid rfl⟩
  have hK1002 : 0 ≤ K1002 ∧ K1002 ≤ 1048576 := by have := HK1002.out; omega
  have hb0 : len0 ≤ 1048576 := by omega
  refine (szSizeS_le a0 cap0 _ (1048576) _ (by omega) (by omega) (by omega)).mono ?_
  rintro e u1002 ⟨he, hB1002⟩
  rw [← HK1002.out] at he
  subst he
  have S1002 := S0.call hB1002
  clear hB1002
  clear S0
  obtain ⟨RN, RX, n1, ⟨hRN, HRL0⟩, HI, HS⟩ : ∃ (RN : Nat) (RX : List Int) (n1 : Int), (RN ≤ 1000000 ∧ RX.length = 4 * RN) ∧ Hid (FC 15 len0 z0 a1 RN RX n1) ∧ Hid (FC 13 len0 z0 a1 RN RX n1) :=
      ⟨_, _, _, pk_len a1 len0 z0, Lib.hid (fun A c w hx hc => i_PackSprites A len0 c a1 z0 w HL0.out hx (by omega)), Lib.hid (fun A c w hx hc => s_PackSprites A len0 c a1 z0 w HL0.out hx (by omega))⟩
  have HRL := Lib.hid HRL0
  clear HRL0
  go_wp2_with fail
  refine (toSizeS_any a0 len0 cap0 z0 _ HL0.out (S1002.arg HR0.out) (by omega)).mono ?_
  rintro e u1003 ⟨A1003, c1003, rfl, ⟨hc1003, hcx1003⟩, hr1003, hB1003, hf1003, hO1003⟩
  clear hr1003 hf1003 hcx1003
  have S1003 := S1002.addT hO1003 hB1003
  clear hB1003 hO1003
  clear S1002
  go_wp2_with fail
  refine (HS.out A1003 c1003 _ (S1003.rdsT (lo := u1002.heap.size) (hi := u1003.heap.size) (A := A1003) (E := 44) (C := 2) (n := len0) (m := len0) (c := c1003) (by simp)) hc1003).mono ?_
  rintro e u1004 ⟨v1004, rfl, hO1004, hB1004⟩
  obtain ⟨A1004, c1004, rfl, hc1004⟩ := OwnT.slice hO1004
  have S1004 := S1003.addT hO1004 hB1004
  clear hB1004 hO1004
  clear S1003
  go_wp2_with fail
  refine (toSizeS_any a0 len0 cap0 z0 _ HL0.out (S1004.arg HR0.out) (by omega)).mono ?_
  rintro e u1005 ⟨A1005, c1005, rfl, ⟨hc1005, hcx1005⟩, hr1005, hB1005, hf1005, hO1005⟩
  clear hr1005 hf1005 hcx1005
  have S1005 := S1004.addT hO1005 hB1005
  clear hB1005 hO1005
  clear S1004
  go_wp2_with fail
  refine (HI.out A1005 c1005 _ (S1005.rdsT (lo := u1004.heap.size) (hi := u1005.heap.size) (A := A1005) (E := 44) (C := 2) (n := len0) (m := len0) (c := c1005) (by simp)) hc1005).mono ?_
  rintro e u1006 ⟨v1006, rfl, hO1006, hB1006⟩
  obtain ⟨A1006, c1006, rfl, hc1006⟩ := OwnT.slice hO1006
  have S1006 := S1005.addT hO1006 hB1006
  clear hB1006 hO1006
  clear S1005
  go_wp2_with fail
  refine (eqBoxS_same A1006 A1004 RN c1006 c1004 RX _ _ _ HRL.out (S1006.rdsT (lo := u1005.heap.size) (hi := u1006.heap.size) (A := A1006) (E := 29) (C := 4) (n := RN) (m := RN) (c := c1006) (by simp)) (S1006.rdsT (lo := u1003.heap.size) (hi := u1004.heap.size) (A := A1004) (E := 29) (C := 4) (n := RN) (m := RN) (c := c1004) (by simp)) (Nat.le_refl _) (Nat.le_refl _) (by omega)).mono ?_
  rintro e u1007 ⟨rfl, hB1007⟩
  have S1007 := S1006.call hB1007
  clear hB1007
  clear S1006
  go_wp2_with fail
  refine (toSizeS_any a0 len0 cap0 z0 _ HL0.out (S1007.arg HR0.out) (by omega)).mono ?_
  rintro e u1008 ⟨A1008, c1008, rfl, ⟨hc1008, hcx1008⟩, hr1008, hB1008, hf1008, hO1008⟩
  clear hr1008 hf1008 hcx1008
  have S1008 := S1007.addT hO1008 hB1008
  clear hB1008 hO1008
  clear S1007
  go_wp2_with fail
  refine (eqSizeS_same A1005 A1008 len0 c1005 c1008 z0 _ _ _ HL0.out (S1008.rdsT (lo := u1004.heap.size) (hi := u1005.heap.size) (A := A1005) (E := 44) (C := 2) (n := len0) (m := len0) (c := c1005) (by simp)) (S1008.rdsT (lo := u1007.heap.size) (hi := u1008.heap.size) (A := A1008) (E := 44) (C := 2) (n := len0) (m := len0) (c := c1008) (by simp)) (Nat.le_refl _) (Nat.le_refl _) (by omega)).mono ?_
  rintro e u1009 ⟨rfl, hB1009⟩
  have S1009 := S1008.call hB1009
  clear hB1009
  clear S1008
  go_wp2_with fail
  obtain ⟨K1010, HK1010⟩ : ∃ K : Int, Hid (K = 1 + ((len0 * 2 : Nat) : Int)) := ⟨_, Lib.hid rfl⟩
  have hK1010 : 0 ≤ K1010 ∧ K1010 ≤ 8000001 := by have := HK1010.out; omega
  refine (markSizeS_any (.slice A1005 len0 c1005) u1004.heap.size len0 z0 1 _ (S1009.ownT (lo := u1004.heap.size) (hi := u1005.heap.size) (by simp)) (by omega) (by omega) (by omega)).mono ?_
  rintro e u1010 ⟨he, hO1010, hG1010, _⟩
  rw [← HK1010.out] at he
  subst he
  have S1010 := GS.markT (L1 := [rt 44 2 u1007.heap.size u1008.heap.size (.slice A1008 len0 c1008) len0 z0, rt 29 4 u1005.heap.size u1006.heap.size (.slice A1006 RN c1006) RN RX]) (L2 := [rt 29 4 u1003.heap.size u1004.heap.size (.slice A1004 RN c1004) RN RX, rt 44 2 u1002.heap.size u1003.heap.size (.slice A1003 len0 c1003) len0 z0]) (E := 44) (C := 2) (lo := u1004.heap.size) (hi := u1005.heap.size) (v := .slice A1005 len0 c1005) (n := len0) (xs := z0) (ys := marks 1 (len0 * 2)) S1009 hO1010 hG1010
  clear hO1010 hG1010
  clear S1009
  go_wp2_with fail
  refine (eqBoxS_same A1006 A1004 RN c1006 c1004 RX _ _ _ HRL.out (S1010.rdsT (lo := u1005.heap.size) (hi := u1006.heap.size) (A := A1006) (E := 29) (C := 4) (n := RN) (m := RN) (c := c1006) (by simp)) (S1010.rdsT (lo := u1003.heap.size) (hi := u1004.heap.size) (A := A1004) (E := 29) (C := 4) (n := RN) (m := RN) (c := c1004) (by simp)) (Nat.le_refl _) (Nat.le_refl _) (by omega)).mono ?_
  rintro e u1011 ⟨rfl, hB1011⟩
  have S1011 := S1010.call hB1011
  clear hB1011
  clear S1010
  go_wp2_with fail
  obtain ⟨K1012, HK1012⟩ : ∃ K : Int, Hid (K = 1 + ((RN * 4 : Nat) : Int)) := ⟨_, Lib.hid rfl⟩
  have hK1012 : 0 ≤ K1012 ∧ K1012 ≤ 8000001 := by have := HK1012.out; omega
  refine (markBoxS_any (.slice A1006 RN c1006) u1005.heap.size RN RX 1 _ (S1011.ownT (lo := u1005.heap.size) (hi := u1006.heap.size) (by simp)) (by omega) (by omega) (by omega)).mono ?_
  rintro e u1012 ⟨he, hO1012, hG1012, _⟩
  rw [← HK1012.out] at he
  subst he
  have S1012 := GS.markT (L1 := [rt 44 2 u1007.heap.size u1008.heap.size (.slice A1008 len0 c1008) len0 z0]) (L2 := [rt 44 2 u1004.heap.size u1005.heap.size (.slice A1005 len0 c1005) len0 (marks 1 (len0 * 2)), rt 29 4 u1003.heap.size u1004.heap.size (.slice A1004 RN c1004) RN RX, rt 44 2 u1002.heap.size u1003.heap.size (.slice A1003 len0 c1003) len0 z0]) (E := 29) (C := 4) (lo := u1005.heap.size) (hi := u1006.heap.size) (v := .slice A1006 RN c1006) (n := RN) (xs := RX) (ys := marks 1 (RN * 4)) S1011 hO1012 hG1012
  clear hO1012 hG1012
  clear S1011
  go_wp2_with fail
  refine (heldBoxS_any A1006 RN c1006 _ 1 _ (S1012.rdsT (lo := u1005.heap.size) (hi := u1006.heap.size) (A := A1006) (E := 29) (C := 4) (n := RN) (m := RN) (c := c1006) (by simp)) (by omega) (by omega) (by omega)).mono ?_
  rintro e u1013 ⟨he, rfl⟩
  rw [← HK1012.out] at he
  subst he
  go_wp2_with fail
  refine (toSizeS_any a0 len0 cap0 z0 _ HL0.out (S1012.arg HR0.out) (by omega)).mono ?_
  rintro e u1014 ⟨A1014, c1014, rfl, ⟨hc1014, hcx1014⟩, hr1014, hB1014, hf1014, hO1014⟩
  clear hr1014 hf1014 hcx1014
  have S1014 := S1012.addT hO1014 hB1014
  clear hB1014 hO1014
  clear S1012
  go_wp2_with fail
  refine (HI.out A1014 c1014 _ (S1014.rdsT (lo := u1012.heap.size) (hi := u1014.heap.size) (A := A1014) (E := 44) (C := 2) (n := len0) (m := len0) (c := c1014) (by simp)) hc1014).mono ?_
  rintro e u1015 ⟨v1015, rfl, hO1015, hB1015⟩
  obtain ⟨A1015, c1015, rfl, hc1015⟩ := OwnT.slice hO1015
  have S1015 := S1014.addT hO1015 hB1015
  clear hB1015 hO1015
  clear S1014
  go_wp2_with fail
  refine (eqBoxS_same A1015 A1004 RN c1015 c1004 RX _ _ _ HRL.out (S1015.rdsT (lo := u1014.heap.size) (hi := u1015.heap.size) (A := A1015) (E := 29) (C := 4) (n := RN) (m := RN) (c := c1015) (by simp)) (S1015.rdsT (lo := u1003.heap.size) (hi := u1004.heap.size) (A := A1004) (E := 29) (C := 4) (n := RN) (m := RN) (c := c1004) (by simp)) (Nat.le_refl _) (Nat.le_refl _) (by omega)).mono ?_
  rintro e u1016 ⟨rfl, hB1016⟩
  have S1016 := S1015.call hB1016
  clear hB1016
  clear S1015
  go_wp2_with fail
  refine (heldBoxS_any A1006 RN c1006 _ 1 _ (S1016.rdsT (lo := u1005.heap.size) (hi := u1006.heap.size) (A := A1006) (E := 29) (C := 4) (n := RN) (m := RN) (c := c1006) (by simp)) (by omega) (by omega) (by omega)).mono ?_
  rintro e u1017 ⟨he, rfl⟩
  rw [← HK1012.out] at he
  subst he
  go_wp2
  go_ret
  exact ⟨rfl, S1016.below⟩

/-! ### From the walk to the statement. -/
theorem own : ownKnob Try.prog.godebug = none := by kernel_rfl
theorem laidOut : laidOutB Try.prog = true := by kernel_rfl
set_option maxRecDepth 100000 in
theorem lifted (os : Os) (started : os.Started) (H : Type) (enc : TypeId × Value → H) :
    ReturnsInHanded {} Try.checked os 5 .any (Rows.fnExactPackSpritesSpec.pre6 enc Try.prog Try.f5 Rows.fnExactPackSpritesRow.domain false) (Rows.fnExactPackSpritesSpec.post enc Try.prog Try.f5 false true false false) := by
  refine returnsInHanded_of_change (C := Try.checked) own started (by kernel_rfl) Try.func5
    (ChangeSpec.witness6 (enc := enc) (C := Try.checked) false ⟨#[], #[.slice none 0 0, .int .i64 0], []⟩ 8 (by kernel_rfl) (by kernel_rfl) (by kernel_rfl) (by kernel_rfl)) ?_
  intro W base args ds gs before hval0 hW hcnd _
  have hval : ∀ (j : Nat) t v, Try.f5.params[j]? = some t → args[j]? = some v → Value.okWide Try.prog W .any base t v := hval0
  have hW' := hW
  obtain ⟨p, q, hA0, hV, rfl, hfz, hnd⟩ := hW
  have hA : DataW.TrodAll enc Try.prog W 0 (fun _ => true) true Try.f5.params.toList args.toList ds p := hA0
  rw [Try.params5] at hA hval
  obtain ⟨v0, vs0, d0, ds0, p0, q0, hargs, rfl, rfl, h0, r0⟩ := trodAll_cons hA
  obtain ⟨v1, vs1, d1, ds1, p1, q1, rfl, rfl, rfl, h1, r1⟩ := trodAll_cons r0
  obtain ⟨rfl, rfl, rfl⟩ := trodAll_nil r1
  obtain rfl : args = #[v0, v1] := by cases args; simp_all
  obtain ⟨rfl, rfl⟩ := trodVars_none hV
  obtain ⟨a0, len0, cap0, rfl⟩ := okWide_slice Try.underlying30 (hval 0 30 v0 rfl rfl)
  have k0 := h0
  have lt0 : ∀ x ∈ p0, x.block < W.heap.size := by obtain ⟨m, hm⟩ := k0; exact DataW.trod_lt m _ _ _ hm
  obtain ⟨z0, hl0, hc0, hm0, w0, f0⟩ : ∃ zs : List Int, zs.length = 2 * len0 ∧ len0 ≤ cap0 ∧ cap0 ≤ maxLen ∧ Rds .i64 W W.heap.size a0 zs ∧ ∀ n ∈ zs, (Lit.int .i64 n).wf = true := by
    obtain ⟨fuel, hf⟩ := h0
    obtain ⟨A, l, c, zs, hcs, r⟩ := open_flat (C := 2) Try.underlying30 Try.underlying58 Try.underlying3 (by decide) rfl (by kernel_rfl) (by kernel_rfl) (by intro q f hq; rcases q with _ | _ | q <;> simp at hq <;> (subst hq; exact ⟨rfl, rfl⟩)) hf
    simp [Value.cells] at hcs
    obtain ⟨rfl, rfl, rfl⟩ := hcs
    exact ⟨zs, r⟩
  obtain ⟨a1, rfl, rfl, rfl, w1⟩ := open_int Try.underlying3 (hval 1 3 v1 rfl rfl) h1
  clear hA0 hval0
  refine (walk W a0 len0 cap0 z0 hl0 hc0 hm0 w0 f0 a1 w1).mono fun e W' ⟨he, bel⟩ => ?_
  subst he
  exact ⟨_, rfl, _, _, _, [], _, [], hW', trodAll_mk1 (shut_bool Try.underlying4 _), (trodAll_cons_mk (Below.trod laidOut (by kernel_rfl) (of_decide_eq_true (by kernel_rfl)) k0 bel lt0) (trodAll_cons_mk (shut_int Try.underlying3 w1) trodAll_mk0)), rfl, bel.frame _, fun h => by cases h⟩

theorem over : Rows.fnExactPackSpritesRow.holds Try.pinned (OpenSpec.ofChange Rows.fnExactPackSpritesSpec) :=
  OpenClaim.holds_of_wide 5 Try.f5 rfl rfl rfl rfl rfl rfl rfl ⟨rfl, rfl, rfl, rfl, rfl⟩ rfl rfl rfl rfl rfl (by kernel_rfl) Try.func5 (by kernel_rfl)
    (of_decide_eq_true (by kernel_rfl)) (by unfold Func.isWrapper; first | (rw [if_pos (by decide +kernel)]; kernel_rfl) | (rw [if_neg (by decide +kernel)]; exact ⟨rfl, rfl⟩))
    (fun os started H enc _ => lifted os started H enc)

theorem proved : Rows.FnExactPackSpritesSaid := over
end Go.Proofs.Ytgieijogopcjnaa.fnExactPackSprites
