/- ExpandTokens of the program answers what the model answers, for every list of tokens, in memory of its own, and changes nothing of the list. -/
import Derived.Test.YtkchhcphljcloaaRows
import Derived.WalkKit
import Derived.ProofKit
import Derived.OpenShut
import Derived.ShutString
import Derived.ChangeOld
import Derived.Below
import Derived.Test.YtkchhcphljcloaaTriO
import Derived.Test.YtkchhcphljcloaaTri2
import Derived.Test.YtkchhcphljcloaaExpS
namespace Go.Proofs.Ytkchhcphljcloaa.fnExactExpandTokens
open Go.ChangeShapes Go.WideShapes Go.ChangeAt Go.RowKit
open Go.ChangeMaps (open_string shut_string)
set_option linter.unusedVariables false

set_option maxRecDepth 20000
theorem apart {v0 v1 : Value} {a0 b0 a1 b1 : Nat} (h0 : ∀ k, v0.ownBlock = some k → a0 ≤ k ∧ k < b0) (h1 : ∀ k, v1.ownBlock = some k → a1 ≤ k ∧ k < b1) (h : b0 ≤ a1 ∨ b1 ≤ a0) : v0.ownBlock = none ∨ v0.ownBlock ≠ v1.ownBlock := by
  cases hv : v0.ownBlock with
  | none => exact .inl rfl
  | some k =>
    refine .inr fun e => ?_
    have a := h0 k hv
    have b := h1 k e.symm
    omega
theorem ownKept {w w' : World} {base : Nat} {v : Value} {xs : List Int} {r : Option Nat} (h : Own w base v xs) (hg : w.grownBy w' r) (hne : v.ownBlock = none ∨ v.ownBlock ≠ r) : Own w' base v xs := World.ownsRow.kept h hg hne
theorem eqS (A A' : Option Addr) (c c' n : Nat) (xs : List Int) (w : World) (hn : n = xs.length) (hx : Rds .i64 w w.heap.size A xs) (hy : Rds .i64 w w.heap.size A' xs) (hl : xs.length ≤ 10000000) :
    Calls Try.prog 39 #[.slice A n c, .slice A' n c'] w fun e w' => e = .returned (.bool true) ∧ Below w.heap.size w w' := by
  subst hn
  refine (eqIntS_any A A' c c' xs xs w.heap.size w.heap.size w hx hy hl hl).mono ?_
  rintro e w' ⟨rfl, m, rfl⟩
  exact ⟨by rw [decide_eq_true rfl], ⟨rfl, rfl, rfl, Nat.le_refl _, fun _ _ => rfl⟩⟩
set_option maxHeartbeats 8000000 in
theorem walk (w : World) (a0 : Option Addr) (len0 cap0 : Nat) (z0 : List Int) (hl0 : z0.length = 3 * len0) (hc0 : len0 ≤ cap0) (hm0 : cap0 ≤ maxLen) (w0 : Rds .i64 w w.heap.size a0 z0) (f0 : ∀ n ∈ z0, (Lit.int .i64 n).wf = true) :
    Calls Try.prog 10 #[.slice a0 len0 cap0] w fun e w' => e = .returned (.bool true) ∧ Below w.heap.size w w' := by
  unfold maxLen at hm0
  by_cases hlen : 1048576 < len0
  · go_enter Try.func10, Try.ntmps10
    go_wp2_with fail
    refine (szTokenS_no a0 len0 cap0 _ hlen (by omega)).mono ?_
    rintro e w' ⟨rfl, rfl⟩
    go_wp2
    go_ret
    exact ⟨rfl, Below.refl _ _⟩
  · have HL := Lib.hid hl0
    have HR := Lib.hid w0
    clear hl0 w0 f0
    have HS : Hid (∀ (A : Option Addr) (c : Nat) (W : World), Rds .i64 W W.heap.size A z0 → Calls Try.prog 37 #[.slice A len0 c] W fun e w' => ∃ v, e = .returned (.tuple #[v, .bool (exO z0 len0)]) ∧ Own w' W.heap.size v (exL z0 len0) ∧ Below W.heap.size W w') := Lib.hid (fun A c W hW => s_ExpandTokens A len0 c z0 W HL.out hW (by omega))
    have HI : Hid (∀ (A : Option Addr) (c : Nat) (W : World), Rds .i64 W W.heap.size A z0 → Calls Try.prog 38 #[.slice A len0 c] W fun e w' => ∃ v, e = .returned (.tuple #[v, .bool (exO z0 len0)]) ∧ Own w' W.heap.size v (exL z0 len0) ∧ Below W.heap.size W w') := Lib.hid (fun A c W hW => i_ExpandTokens A len0 c z0 W HL.out hW (by omega))
    have hLl := exL_len z0 len0
    generalize exL z0 len0 = L at *
    generalize exO z0 len0 = O at *
    go_enter Try.func10, Try.ntmps10
    go_wp2_with fail
    refine (szTokenS_ok a0 len0 cap0 _ (by omega)).mono ?_
    rintro e w' ⟨rfl, rfl⟩
    go_wp2_with fail
    refine (toTokenS_any a0 len0 cap0 z0 w HL.out HR.out (by omega)).mono ?_
    rintro e u1 ⟨A1, c1, rfl, _, hr1, hB1, _⟩
    have H1 := Lib.hid hr1
    clear hr1
    go_wp2_with fail
    refine (HS.out A1 c1 u1 H1.out).mono ?_
    rintro e u2 ⟨v0, rfl, hO0, hB2⟩
    obtain ⟨A0, c0, rfl, _⟩ := hO0.slice
    have hb2 := hB1.trans (hB2.mono hB1.size)
    have HV0 := Lib.hid hO0
    clear hB2 hO0
    go_wp2_with fail
    refine (toTokenS_any a0 len0 cap0 z0 u2 HL.out ((HR.out.below hb2).more hb2.size) (by omega)).mono ?_
    rintro e u3 ⟨A3, c3, rfl, _, hr3, hB3, _, hT3⟩
    have hb3 := hb2.trans (hB3.mono hb2.size)
    have H3 := Lib.hid hr3
    have HT3 := Lib.hid hT3
    have HV0a := Lib.hid (HV0.out.below hB3 (Nat.le_refl _))
    have HP0 := Lib.hid (apart HV0.out.lt hT3.lt (.inl (Nat.le_refl _)))
    have HZ3 := Lib.hid hB3.size
    clear hr3 hT3 hB3
    go_wp2_with fail
    refine (HI.out A3 c3 u3 H3.out).mono ?_
    rintro e u4 ⟨v1, rfl, hO1, hB4⟩
    obtain ⟨A4, c4, rfl, _⟩ := hO1.slice
    have hb4 := hb3.trans (hB4.mono hb3.size)
    have HV1 := Lib.hid hO1
    have HT4 := Lib.hid (HT3.out.below hB4 (Nat.le_refl _))
    have HV0b := Lib.hid (HV0a.out.below hB4 (Nat.le_refl _))
    have HP1 := Lib.hid (apart hO1.lt HT3.out.lt (.inr (Nat.le_refl _)))
    have HP01 := Lib.hid (apart HV0.out.lt hO1.lt (.inl (by have := HZ3.out; omega)))
    clear hO1 hB4 HT3 HV0a HV0
    go_wp2_with fail
    refine (eqS A4 A0 c4 c0 L.length L u4 rfl HV1.out.rds.2 HV0b.out.rds.2 (by omega)).mono ?_
    rintro e u5 ⟨rfl, hB5⟩
    have hb5 := hb4.trans (hB5.mono hb4.size)
    have HT5 := Lib.hid (HT4.out.below hB5 (Nat.le_refl _))
    have HV05 := Lib.hid (HV0b.out.below hB5 (Nat.le_refl _))
    have HV15 := Lib.hid (HV1.out.below hB5 (Nat.le_refl _))
    clear hB5 HT4 HV0b HV1
    go_wp2_with fail
    refine (toTokenS_any a0 len0 cap0 z0 u5 HL.out ((HR.out.below hb5).more hb5.size) (by omega)).mono ?_
    rintro e u6 ⟨A6, c6, rfl, _, hr6, hB6, _⟩
    have hb6 := hb5.trans (hB6.mono hb5.size)
    have H6 := Lib.hid hr6
    have HT6 := Lib.hid (HT5.out.below hB6 (Nat.le_refl _))
    have HV06 := Lib.hid (HV05.out.below hB6 (Nat.le_refl _))
    have HV16 := Lib.hid (HV15.out.below hB6 (Nat.le_refl _))
    clear hr6 hB6 HT5 HV05 HV15
    go_wp2_with fail
    refine (eqTokenS_same A3 A6 len0 c3 c6 z0 u6.heap.size u6.heap.size u6 HL.out HT6.out.rds H6.out (Nat.le_refl _) (Nat.le_refl _) (by omega)).mono ?_
    rintro e u7 ⟨rfl, hB7⟩
    have hb7 := hb6.trans (hB7.mono hb6.size)
    have HT7 := Lib.hid (HT6.out.below hB7 (Nat.le_refl _))
    have HV07 := Lib.hid (HV06.out.below hB7 (Nat.le_refl _))
    have HV17 := Lib.hid (HV16.out.below hB7 (Nat.le_refl _))
    clear hB7 HT6 HV06 HV16 H6
    go_wp2_with fail
    refine (markTokenS_any _ u2.heap.size len0 z0 1 u7 HT7.out (by omega) (by omega) (by omega)).mono ?_
    rintro e u8 ⟨rfl, hM, hG, hz⟩
    have hb8 := hb7.grown hG hb7.size (fun k hk => by have := (HT7.out.lt k hk).1; have := hb2.size; omega)
    have HV08 := Lib.hid (ownKept HV07.out hG HP0.out)
    have HV18 := Lib.hid (ownKept HV17.out hG HP1.out)
    clear hM hG hz HT7 HV07 HV17
    generalize hQ : (1 : Int) + ((len0 * 3 : Nat) : Int) = Q
    have hQ0 : ¬ Q < 0 := by omega
    clear hQ
    go_wp2_with fail
    refine (eqS A4 A0 c4 c0 L.length L u8 rfl HV18.out.rds.2 HV08.out.rds.2 (by omega)).mono ?_
    rintro e u9 ⟨rfl, hB9⟩
    have hb9 := hb8.trans (hB9.mono hb8.size)
    have HV09 := Lib.hid (HV08.out.below hB9 (Nat.le_refl _))
    have HV19 := Lib.hid (HV18.out.below hB9 (Nat.le_refl _))
    clear hB9 HV08 HV18
    go_wp2_with fail
    refine (markIntS_any _ u3.heap.size L 1 u9 HV19.out (by omega) (by omega) (by omega)).mono ?_
    rintro e u10 ⟨rfl, hM, hG, hz⟩
    have hb10 := hb9.grown hG hb9.size (fun k hk => by have := (HV19.out.lt k hk).1; have := hb3.size; omega)
    have HV010 := Lib.hid (ownKept HV09.out hG HP01.out)
    have HM10 := Lib.hid hM
    clear hM hG hz HV09 HV19
    generalize hR : (1 : Int) + (L.length : Int) = R
    have hR0 : ¬ R < 0 := by omega
    have HRq := Lib.hid hR
    clear hR
    have hml : (marks 1 L.length).length = L.length := marks_len 1 L.length
    have HMr : Hid (Rds .i64 u10 u10.heap.size A4 (marks 1 L.length)) := Lib.hid (HM10.out.rds).2
    clear hml
    go_wp2_with fail
    refine (heldIntS_any A4 c4 u10.heap.size L.length 1 u10 HMr.out (by omega) (by omega) (by omega)).mono ?_
    rintro e w' ⟨rfl, rfl⟩
    rw [HRq.out]
    go_wp2_with fail
    refine (toTokenS_any a0 len0 cap0 z0 u10 HL.out ((HR.out.below hb10).more hb10.size) (by omega)).mono ?_
    rintro e u11 ⟨A11, c11, rfl, _, hr11, hB11, _⟩
    have hb11 := hb10.trans (hB11.mono hb10.size)
    have H11 := Lib.hid hr11
    have HV011 := Lib.hid (HV010.out.below hB11 (Nat.le_refl _))
    have HMr11 := Lib.hid ((HMr.out.below hB11).more hB11.size)
    clear hr11 hB11 HV010 HMr HM10
    go_wp2_with fail
    refine (HI.out A11 c11 u11 H11.out).mono ?_
    rintro e u12 ⟨v2, rfl, hO2, hB12⟩
    obtain ⟨A12, c12, rfl, _⟩ := hO2.slice
    have hb12 := hb11.trans (hB12.mono hb11.size)
    have HV2 := Lib.hid hO2
    have HV012 := Lib.hid (HV011.out.below hB12 (Nat.le_refl _))
    have HMr12 := Lib.hid ((HMr11.out.below hB12).more hB12.size)
    clear hO2 hB12 HV011 HMr11
    go_wp2_with fail
    refine (eqS A12 A0 c12 c0 L.length L u12 rfl HV2.out.rds.2 HV012.out.rds.2 (by omega)).mono ?_
    rintro e u13 ⟨rfl, hB13⟩
    have hb13 := hb12.trans (hB13.mono hb12.size)
    have HMr13 := Lib.hid ((HMr12.out.below hB13).more hB13.size)
    clear hB13 HMr12
    go_wp2_with fail
    refine (heldIntS_any A4 c4 u13.heap.size L.length 1 u13 HMr13.out (by omega) (by omega) (by omega)).mono ?_
    rintro e w' ⟨rfl, rfl⟩
    rw [HRq.out]
    go_wp2_with fail
    go_ret
    exact ⟨rfl, hb13⟩

/-! ### From the walk to the statement. -/
theorem own : ownKnob Try.prog.godebug = none := by kernel_rfl
theorem laidOut : laidOutB Try.prog = true := by kernel_rfl
set_option maxRecDepth 100000 in
theorem lifted (os : Os) (started : os.Started) (H : Type) (enc : TypeId × Value → H) :
    ReturnsInHanded {} Try.checked os 10 .any (Rows.fnExactExpandTokensSpec.pre6 enc Try.prog Try.f10 Rows.fnExactExpandTokensRow.domain false) (Rows.fnExactExpandTokensSpec.post enc Try.prog Try.f10 false true false false) := by
  refine returnsInHanded_of_change (C := Try.checked) own started (by kernel_rfl) Try.func10
    (ChangeSpec.witness6 (enc := enc) (C := Try.checked) false ⟨#[], #[.slice none 0 0], []⟩ 8 (by kernel_rfl) (by kernel_rfl) (by kernel_rfl) (by kernel_rfl)) ?_
  intro W base args ds gs before hval0 hW hcnd _
  have hval : ∀ (j : Nat) t v, Try.f10.params[j]? = some t → args[j]? = some v → Value.okWide Try.prog W .any base t v := hval0
  have hW' := hW
  obtain ⟨p, q, hA0, hV, rfl, hfz, hnd⟩ := hW
  have hA : DataW.TrodAll enc Try.prog W 0 (fun _ => true) true Try.f10.params.toList args.toList ds p := hA0
  rw [Try.params10] at hA hval
  obtain ⟨v0, vs0, d0, ds0, p0, q0, hargs, rfl, rfl, h0, r0⟩ := trodAll_cons hA
  obtain ⟨rfl, rfl, rfl⟩ := trodAll_nil r0
  obtain rfl : args = #[v0] := by cases args; simp_all
  obtain ⟨rfl, rfl⟩ := trodVars_none hV
  obtain ⟨a0, len0, cap0, rfl⟩ := okWide_slice Try.underlying46 (hval 0 46 v0 rfl rfl)
  have k0 := h0
  have lt0 : ∀ x ∈ p0, x.block < W.heap.size := by obtain ⟨m, hm⟩ := k0; exact DataW.trod_lt m _ _ _ hm
  obtain ⟨z0, hl0, hc0, hm0, w0, f0⟩ : ∃ zs : List Int, zs.length = 3 * len0 ∧ len0 ≤ cap0 ∧ cap0 ≤ maxLen ∧ Rds .i64 W W.heap.size a0 zs ∧ ∀ n ∈ zs, (Lit.int .i64 n).wf = true := by
    obtain ⟨fuel, hf⟩ := h0
    obtain ⟨A, l, c, zs, hcs, r⟩ := open_flat (C := 3) Try.underlying46 Try.underlying93 Try.underlying3 (by decide) rfl (by kernel_rfl) (by kernel_rfl) (by intro q f hq; rcases q with _ | _ | _ | q <;> simp at hq <;> (subst hq; exact ⟨rfl, rfl⟩)) hf
    simp [Value.cells] at hcs
    obtain ⟨rfl, rfl, rfl⟩ := hcs
    exact ⟨zs, r⟩
  clear hA0 hval0
  refine (walk W a0 len0 cap0 z0 hl0 hc0 hm0 w0 f0).mono fun e W' ⟨he, bel⟩ => ?_
  subst he
  exact ⟨_, rfl, _, _, _, [], _, [], hW', trodAll_mk1 (shut_bool Try.underlying4 _), (trodAll_cons_mk (Below.trod laidOut (by kernel_rfl) (of_decide_eq_true (by kernel_rfl)) k0 bel lt0) trodAll_mk0), rfl, bel.frame _, fun h => by cases h⟩

theorem over : Rows.fnExactExpandTokensRow.holds Try.pinned (OpenSpec.ofChange Rows.fnExactExpandTokensSpec) :=
  OpenClaim.holds_of_wide 10 Try.f10 rfl rfl rfl rfl rfl rfl rfl ⟨rfl, rfl, rfl, rfl, rfl⟩ rfl rfl rfl rfl rfl (by kernel_rfl) Try.func10 (by kernel_rfl)
    (of_decide_eq_true (by kernel_rfl)) (by unfold Func.isWrapper; first | (rw [if_pos (by decide +kernel)]; kernel_rfl) | (rw [if_neg (by decide +kernel)]; exact ⟨rfl, rfl⟩))
    (fun os started H enc _ => lifted os started H enc)

theorem proved : Rows.FnExactExpandTokensSaid := over
end Go.Proofs.Ytkchhcphljcloaa.fnExactExpandTokens
