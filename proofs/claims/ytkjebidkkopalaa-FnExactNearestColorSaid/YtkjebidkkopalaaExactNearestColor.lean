/- NearestColor of the program answers what the model answers, for every list of colors and every pixel, and changes nothing of them. -/
import Derived.Test.YtkjebidkkopalaaRows
import Derived.WalkKit
import Derived.ProofKit
import Derived.OpenShut
import Derived.ShutString
import Derived.ChangeOld
import Derived.Below
import Derived.Lib.SmallJoins
import Derived.Test.YtkjebidkkopalaaGen
import Derived.Test.YtkjebidkkopalaaSz
import Derived.Deep.Cut
import Derived.Deep.RegionHeld3
import Derived.Test.YtkjebidkkopalaaNcI
import Derived.Test.YtkjebidkkopalaaNcS
import Derived.Test.YtkjebidkkopalaaLslO
import Derived.Test.YtkjebidkkopalaaLslS
namespace Go.Proofs.Ytkjebidkkopalaa.fnExactNearestColor
open Go.ChangeShapes Go.WideShapes Go.ChangeAt Go.RowKit
open Go.ChangeMaps (open_string shut_string)
set_option linter.unusedVariables false

def FC (f : FuncId) (z0 : List (List Int)) (z1 : List Int) (n0 : Int) : Prop :=
  ∀ (A0 : Option Addr) (c0 : Nat) (A1 : Option Addr) (c1 : Nat) (w : World), Rdss w w.heap.size A0 z0 → z0.length ≤ c0 → Rds .i64 w w.heap.size A1 z1 → z1.length ≤ c1 → Calls Try.prog f #[.slice A0 z0.length c0, .slice A1 z1.length c1] w fun e w' => e = .returned (.int .i64 n0) ∧ Below w.heap.size w w'
set_option maxHeartbeats 16000000 in
set_option maxRecDepth 8000 in
theorem walk (w : World) (a0 : Option Addr) (cap0 : Nat) (z0 : List (List Int)) (hc0 : z0.length ≤ cap0) (hm0 : z0.length ≤ maxLen) (w0 : Rdss w w.heap.size a0 z0) (f0 : ∀ i, i < z0.length → (z0.getD i []).length ≤ maxLen) (a1 : Option Addr) (cap1 : Nat) (z1 : List Int) (hc1 : z1.length ≤ cap1) (w1 : Rdw .i64 w w.heap.size a1 z1) :
    Calls Try.prog 8 #[.slice a0 z0.length cap0, .slice a1 z1.length cap1] w fun e w' => e = .returned (.bool true) ∧ Below w.heap.size w w' := by
  unfold maxLen at hm0 f0
  have HR0 := Lib.hid w0
  have HF0 := Lib.hid f0
  clear w0 f0
  have hm1 := w1.2.1
  unfold maxLen at hm1
  have HR1 := Lib.hid w1.1
  clear w1
  have S0 : GS w w [] [] := GS.start w
  by_cases hq1 : 1048576 < z1.length
  · go_enter Try.func8, Try.ntmps8
    go_wp2
    go_ret
    exact ⟨rfl, S0.below⟩
  go_enter Try.func8, Try.ntmps8
  go_wp2_with fail
  by_cases hs1001 : (1048576 : Int) < (tot z0 : Nat)
  · refine (szIntSS_gt a0 cap0 z0 (1048576) _ (S0.argSS HR0.out) (by omega) (by omega) hs1001 (by omega) (fun i hi => Nat.le_trans (HF0.out i hi) (by decide))).mono ?_
    rintro e uz ⟨rfl, hBz⟩
    have HSz := Lib.hid (S0.call hBz)
    clear hBz
    go_wp2
    go_ret
    exact ⟨rfl, HSz.out.below⟩
  obtain ⟨K1002, HK1002⟩ : ∃ K : Int, Hid (K = 1048576 - ((tot z0 : Nat) : Int)) := ⟨_, Lib.hid rfl⟩
  have hK1002 : 0 ≤ K1002 ∧ K1002 ≤ 1048576 := by have := HK1002.out; omega
  have hb0 : tot z0 ≤ 1048576 := by omega
  refine (szIntSS_le a0 cap0 z0 (1048576) _ (S0.argSS HR0.out) (by omega) (by omega) (by omega)).mono ?_
  rintro e u1002 ⟨he, hB1002⟩
  rw [← HK1002.out] at he
  subst he
  have S1002 := S0.call hB1002
  clear hB1002
  clear S0
  obtain ⟨n0, HI, HS⟩ : ∃ (n0 : Int), Hid (FC 21 z0 z1 n0) ∧ Hid (FC 22 z0 z1 n0) :=
      ⟨_, Lib.hid (fun A c A2 c2 w hx hc hp hpc => i_NearestColor A A2 c c2 _ _ z0 z1 w rfl rfl hx hp (by omega) (by omega)), Lib.hid (fun A c A2 c2 w hx hc hp hpc => s_NearestColor A A2 c c2 _ _ z0 z1 w rfl rfl hx hp (by omega) (by omega))⟩
  go_wp2_with fail
  refine (toIntSS_any a0 cap0 z0 _ (S1002.argSS HR0.out) (by omega)).mono ?_
  rintro e u1003 ⟨M1003, A1003, c1003, rfl, hc1003, hM1003, hB1003⟩
  have S1003 := S1002.addM hB1003
  clear hB1003
  clear S1002
  go_wp2_with fail
  refine (toIntS_any a1 cap1 z1 _ (S1003.arg HR1.out) (by omega)).mono ?_
  rintro e u1004 ⟨v1004, rfl, hO1004, hB1004⟩
  obtain ⟨A1004, c1004, rfl, hc1004⟩ := hO1004.slice
  have S1004 := S1003.add hO1004 hB1004
  clear hB1004 hO1004
  clear S1003
  go_wp2_with fail
  refine (HS.out A1003 c1003 A1004 c1004 _ (LsM.rds S1004 hM1003 (fun t ht => by simp [ht])) hc1003 (S1004.rds (lo := u1003.heap.size) (hi := u1004.heap.size) (A := A1004) (n := z1.length) (c := c1004) (by simp)) hc1004).mono ?_
  rintro e u1005 ⟨rfl, hB1005⟩
  have S1005 := S1004.call hB1005
  clear hB1005
  clear S1004
  go_wp2_with fail
  refine (toIntSS_any a0 cap0 z0 _ (S1005.argSS HR0.out) (by omega)).mono ?_
  rintro e u1006 ⟨M1006, A1006, c1006, rfl, hc1006, hM1006, hB1006⟩
  have S1006 := S1005.addM hB1006
  clear hB1006
  clear S1005
  go_wp2_with fail
  refine (toIntS_any a1 cap1 z1 _ (S1006.arg HR1.out) (by omega)).mono ?_
  rintro e u1007 ⟨v1007, rfl, hO1007, hB1007⟩
  obtain ⟨A1007, c1007, rfl, hc1007⟩ := hO1007.slice
  have S1007 := S1006.add hO1007 hB1007
  clear hB1007 hO1007
  clear S1006
  go_wp2_with fail
  refine (HI.out A1006 c1006 A1007 c1007 _ (LsM.rds S1007 hM1006 (fun t ht => by simp [ht])) hc1006 (S1007.rds (lo := u1006.heap.size) (hi := u1007.heap.size) (A := A1007) (n := z1.length) (c := c1007) (by simp)) hc1007).mono ?_
  rintro e u1008 ⟨rfl, hB1008⟩
  have S1008 := S1007.call hB1008
  clear hB1008
  clear S1007
  go_wp2_with fail
  refine (toIntSS_any a0 cap0 z0 _ (S1008.argSS HR0.out) (by omega)).mono ?_
  rintro e u1009 ⟨M1009, A1009, c1009, rfl, hc1009, hM1009, hB1009⟩
  have S1009 := S1008.addM hB1009
  clear hB1009
  clear S1008
  go_wp2_with fail
  refine (eqIntSS_same A1006 A1009 c1006 c1009 _ _ z0 _ rfl rfl (LsM.rds S1009 hM1006 (fun t ht => by simp [ht])) (LsM.rds S1009 hM1009 (fun t ht => by simp [ht])) (by omega)).mono ?_
  rintro e u1010 ⟨rfl, hB1010⟩
  have S1010 := S1009.call hB1010
  clear hB1010
  clear S1009
  go_wp2_with fail
  refine (toIntS_any a1 cap1 z1 _ (S1010.arg HR1.out) (by omega)).mono ?_
  rintro e u1011 ⟨v1011, rfl, hO1011, hB1011⟩
  obtain ⟨A1011, c1011, rfl, hc1011⟩ := hO1011.slice
  have S1011 := S1010.add hO1011 hB1011
  clear hB1011 hO1011
  clear S1010
  go_wp2_with fail
  refine (eqIntS_same A1007 A1011 c1007 c1011 _ _ z1 _ rfl rfl (S1011.rds (lo := u1006.heap.size) (hi := u1007.heap.size) (A := A1007) (n := z1.length) (c := c1007) (by simp)) (S1011.rds (lo := u1010.heap.size) (hi := u1011.heap.size) (A := A1011) (n := z1.length) (c := c1011) (by simp)) (by omega)).mono ?_
  rintro e u1012 ⟨rfl, hB1012⟩
  have S1012 := S1011.call hB1012
  clear hB1012
  clear S1011
  go_wp2
  go_ret
  exact ⟨rfl, S1012.below⟩

/-! ### From the walk to the statement. -/
theorem own : ownKnob Try.prog.godebug = none := by kernel_rfl
theorem laidOut : laidOutB Try.prog = true := by kernel_rfl
set_option maxRecDepth 100000 in
theorem lifted (os : Os) (started : os.Started) (H : Type) (enc : TypeId × Value → H) :
    ReturnsInHanded {} Try.checked os 8 .any (Rows.fnExactNearestColorSpec.pre6 enc Try.prog Try.f8 Rows.fnExactNearestColorRow.domain false) (Rows.fnExactNearestColorSpec.post enc Try.prog Try.f8 false true false false) := by
  refine returnsInHanded_of_change (C := Try.checked) own started (by kernel_rfl) Try.func8
    (ChangeSpec.witness6 (enc := enc) (C := Try.checked) false ⟨#[], #[.slice none 0 0, .slice none 0 0], []⟩ 8 (by kernel_rfl) (by kernel_rfl) (by kernel_rfl) (by kernel_rfl)) ?_
  intro W base args ds gs before hval0 hW hcnd _
  have hval : ∀ (j : Nat) t v, Try.f8.params[j]? = some t → args[j]? = some v → Value.okWide Try.prog W .any base t v := hval0
  have hW' := hW
  obtain ⟨p, q, hA0, hV, rfl, hfz, hnd⟩ := hW
  have hA : DataW.TrodAll enc Try.prog W 0 (fun _ => true) true Try.f8.params.toList args.toList ds p := hA0
  rw [Try.params8] at hA hval
  obtain ⟨v0, vs0, d0, ds0, p0, q0, hargs, rfl, rfl, h0, r0⟩ := trodAll_cons hA
  obtain ⟨v1, vs1, d1, ds1, p1, q1, rfl, rfl, rfl, h1, r1⟩ := trodAll_cons r0
  obtain ⟨rfl, rfl, rfl⟩ := trodAll_nil r1
  obtain rfl : args = #[v0, v1] := by cases args; simp_all
  obtain ⟨rfl, rfl⟩ := trodVars_none hV
  obtain ⟨a0, len0, cap0, rfl⟩ := okWide_slice Try.underlying27 (hval 0 27 v0 rfl rfl)
  have k0 := h0
  have lt0 : ∀ x ∈ p0, x.block < W.heap.size := by obtain ⟨m, hm⟩ := k0; exact DataW.trod_lt m _ _ _ hm
  obtain ⟨z0, hn0, hc0, hm0, w0, f0⟩ : ∃ zs : List (List Int), len0 = zs.length ∧ zs.length ≤ cap0 ∧ zs.length ≤ maxLen ∧ Rdss W W.heap.size a0 zs ∧ ∀ i, i < zs.length → (zs.getD i []).length ≤ maxLen := by
    obtain ⟨fuel, hf⟩ := h0
    obtain ⟨A, c, zs, hcs, r⟩ := open_lists Try.underlying27 Try.underlying23 Try.underlying3 (by kernel_rfl) (by kernel_rfl) hf
    simp [Value.cells] at hcs
    obtain ⟨rfl, rfl, rfl⟩ := hcs
    exact ⟨zs, rfl, r⟩
  subst hn0
  obtain ⟨a1, len1, cap1, rfl⟩ := okWide_slice Try.underlying23 (hval 1 23 v1 rfl rfl)
  have k1 := h1
  have lt1 : ∀ x ∈ p1, x.block < W.heap.size := by obtain ⟨m, hm⟩ := k1; exact DataW.trod_lt m _ _ _ hm
  obtain ⟨z1, hl1, hc1, w1⟩ : ∃ zs : List Int, len1 = zs.length ∧ zs.length ≤ cap1 ∧ Rdw .i64 W W.heap.size a1 zs := by
    obtain ⟨fuel, hf⟩ := h1
    rcases open_ints Try.underlying23 Try.underlying3 (by kernel_rfl) hf with ⟨hcs, _⟩ | ⟨x, l, c, zs, hcs, _, hl, hm, hz, _, hcell, hwz⟩
    · simp [Value.cells] at hcs
      obtain ⟨rfl, rfl, rfl⟩ := hcs
      exact ⟨[], rfl, Nat.le_refl _, Rdw.nil⟩
    · simp [Value.cells] at hcs
      obtain ⟨rfl, rfl, rfl⟩ := hcs
      exact ⟨zs.take len1, by simp at hz ⊢; omega, by simp at hz ⊢; omega, Rdw.of_row hl hm (by simpa using hz) hcell hwz⟩
  subst hl1
  clear hA0 hval0
  refine (walk W a0 cap0 z0 hc0 hm0 w0 f0 a1 cap1 z1 hc1 w1).mono fun e W' ⟨he, bel⟩ => ?_
  subst he
  exact ⟨_, rfl, _, _, _, [], _, [], hW', trodAll_mk1 (shut_bool Try.underlying4 _), (trodAll_cons_mk (Below.trod laidOut (by kernel_rfl) (of_decide_eq_true (by kernel_rfl)) k0 bel lt0) (trodAll_cons_mk (Below.trod laidOut (by kernel_rfl) (of_decide_eq_true (by kernel_rfl)) k1 bel lt1) trodAll_mk0)), rfl, bel.frame _, fun h => by cases h⟩

theorem over : Rows.fnExactNearestColorRow.holds Try.pinned (OpenSpec.ofChange Rows.fnExactNearestColorSpec) :=
  OpenClaim.holds_of_wide 8 Try.f8 rfl rfl rfl rfl rfl rfl rfl ⟨rfl, rfl, rfl, rfl, rfl⟩ rfl rfl rfl rfl rfl (by kernel_rfl) Try.func8 (by kernel_rfl)
    (of_decide_eq_true (by kernel_rfl)) (by unfold Func.isWrapper; first | (rw [if_pos (by decide +kernel)]; kernel_rfl) | (rw [if_neg (by decide +kernel)]; exact ⟨rfl, rfl⟩))
    (fun os started H enc _ => lifted os started H enc)

theorem proved : Rows.FnExactNearestColorSaid := over
end Go.Proofs.Ytkjebidkkopalaa.fnExactNearestColor
