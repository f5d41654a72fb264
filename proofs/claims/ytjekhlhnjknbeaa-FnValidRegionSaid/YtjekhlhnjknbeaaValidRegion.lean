/- Whatever the code: drawn runs are those of a region exactly if the model says so and exactly if they can be combined with themselves, and then they are their own union. -/
import Derived.Test.YtjekhlhnjknbeaaRows
import Derived.WalkKit
import Derived.ProofKit
import Derived.OpenShut
import Derived.ShutString
import Derived.ChangeOld
import Derived.Below
import Derived.Test.YtjekhlhnjknbeaaCmbL
import Derived.Test.YtjekhlhnjknbeaaReg3
import Derived.Deep.RegionHeld3
namespace Go.Proofs.Ytjekhlhnjknbeaa.fnValidRegion
open Go.ChangeShapes Go.WideShapes Go.ChangeAt Go.RowKit
open Go.ChangeMaps (open_string shut_string)
set_option linter.unusedVariables false

set_option maxHeartbeats 32000000 in
theorem walk (w : World) (a0 : Option Addr) (cap0 : Nat) (z0 : List Int) (hc0 : z0.length ≤ cap0) (w0 : Rdw .u8 w w.heap.size a0 z0) :
    Calls Try.prog 8 #[.slice a0 z0.length cap0] w fun e w' => e = .returned (.bool true) ∧ Below w.heap.size w w' := by
  have hm := w0.2.1
  unfold maxLen at hm
  by_cases hlen : 1048576 < z0.length
  · go_enter Try.func8, Try.ntmps8
    go_wp2
    go_ret
    exact ⟨rfl, Below.refl _ _⟩
  · have HD := Lib.hid (drawValid_any a0 cap0 z0 w hc0 w0)
    clear w0 hc0
    go_enter Try.func8, Try.ntmps8
    go_wp2_with fail
    refine HD.out.mono ?_
    rintro e w1 ⟨v, n, xs, rfl, hn, hO, hb1⟩
    obtain ⟨A1, c1, rfl, hc1⟩ := hO.slice
    have HLn : Hid (xs.length = 3 * n) := Lib.hid (by have := hO.len; omega)
    have HR1 := Lib.hid hO.rds
    have HB1 := Lib.hid hb1
    clear hO hb1
    go_wp2_with fail
    refine (i_ValidRegion A1 n c1 w1.heap.size xs w1 HLn.out HR1.out (Nat.le_refl _) (by omega)).mono ?_
    rintro e w2 ⟨rfl, hb2⟩
    have HR2 := Lib.hid ((HR1.out.below hb2).more hb2.size)
    have HB2 := Lib.hid (HB1.out.trans (hb2.mono HB1.out.size))
    clear hb2 HB1 HR1
    go_wp2_with fail
    refine (i_CombineRegions A1 A1 n n c1 c1 xs xs 0 w2 HLn.out HR2.out (by omega) HLn.out HR2.out (by omega)).mono ?_
    rintro e w3 ⟨v3, rfl, hO3, hb3⟩
    have HR3 := Lib.hid ((HR2.out.below hb3).more hb3.size)
    have HB3 := Lib.hid (HB2.out.trans (hb3.mono HB2.out.size))
    clear hb3 HB2 HR2
    go_wp2_with fail
    refine (s_ValidRegion A1 n c1 w3.heap.size xs w3 HLn.out HR3.out (Nat.le_refl _) (by omega)).mono ?_
    rintro e w4 ⟨rfl, hb4⟩
    have HB4 := Lib.hid (HB3.out.trans (hb4.mono HB3.out.size))
    have HR4 := Lib.hid ((HR3.out.below hb4).more hb4.size)
    cases hv : regB xs n
    · have ho : cmbOk 0 xs n xs n = false := by unfold cmbOk; rw [hv]; rfl
      rw [ho] at hO3
      obtain ⟨A3, c3, rfl, hc3⟩ := hO3.slice
      rw [ho]
      clear hb4 HB3 HR3 hO3 hv ho HR4
      go_wp2
      go_ret
      exact ⟨rfl, HB4.out⟩
    · have ho : cmbOk 0 xs n xs n = true := cmbOk_yes (regB_of hv) (regB_of hv) (by omega)
      obtain ⟨e1, e2⟩ := reg_of_cond HLn.out hv
      rw [ho, e1, e2] at hO3
      obtain ⟨A3, c3, rfl, hc3⟩ := hO3.slice
      have HO4 := Lib.hid (hO3.below hb4 (Nat.le_refl _)).rds
      rw [ho]
      clear hb4 HB3 HR3 hO3 hv ho e1 e2
      go_wp2_with fail
      refine (equalRuns_same A3 A1 n c3 c1 xs w4.heap.size w4.heap.size w4 HLn.out (HO4.out) HR4.out (by omega)).mono ?_
      rintro e w5 ⟨rfl, m5, rfl⟩
      have HB5 : Hid (Below w.heap.size w (w4.drewN m5)) := Lib.hid (bel_dn HB4.out m5)
      clear HB4 HO4 HR4
      go_wp2
      go_ret
      exact ⟨rfl, HB5.out⟩

/-! ### From the walk to the statement. -/
theorem own : ownKnob Try.prog.godebug = none := by kernel_rfl
theorem laidOut : laidOutB Try.prog = true := by kernel_rfl
set_option maxRecDepth 100000 in
theorem lifted (os : Os) (started : os.Started) (H : Type) (enc : TypeId × Value → H) :
    ReturnsInHanded {} Try.checked os 8 .any (Rows.fnValidRegionSpec.pre6 enc Try.prog Try.f8 Rows.fnValidRegionRow.domain false) (Rows.fnValidRegionSpec.post enc Try.prog Try.f8 false true false false) := by
  refine returnsInHanded_of_change (C := Try.checked) own started (by kernel_rfl) Try.func8
    (ChangeSpec.witness6 (enc := enc) (C := Try.checked) false ⟨#[], #[.slice none 0 0], []⟩ 8 (by kernel_rfl) (by kernel_rfl) (by kernel_rfl) (by kernel_rfl)) ?_
  intro W base args ds gs before hval0 hW hcnd _
  have hval : ∀ (j : Nat) t v, Try.f8.params[j]? = some t → args[j]? = some v → Value.okWide Try.prog W .any base t v := hval0
  have hW' := hW
  obtain ⟨p, q, hA0, hV, rfl, hfz, hnd⟩ := hW
  have hA : DataW.TrodAll enc Try.prog W 0 (fun _ => true) true Try.f8.params.toList args.toList ds p := hA0
  rw [Try.params8] at hA hval
  obtain ⟨v0, vs0, d0, ds0, p0, q0, hargs, rfl, rfl, h0, r0⟩ := trodAll_cons hA
  obtain ⟨rfl, rfl, rfl⟩ := trodAll_nil r0
  obtain rfl : args = #[v0] := by cases args; simp_all
  obtain ⟨rfl, rfl⟩ := trodVars_none hV
  obtain ⟨a0, len0, cap0, rfl⟩ := okWide_slice Try.underlying43 (hval 0 43 v0 rfl rfl)
  have k0 := h0
  have lt0 : ∀ x ∈ p0, x.block < W.heap.size := by obtain ⟨m, hm⟩ := k0; exact DataW.trod_lt m _ _ _ hm
  obtain ⟨z0, hl0, hc0, w0⟩ : ∃ zs : List Int, len0 = zs.length ∧ zs.length ≤ cap0 ∧ Rdw .u8 W W.heap.size a0 zs := by
    obtain ⟨fuel, hf⟩ := h0
    rcases open_ints Try.underlying43 Try.underlying5 (by kernel_rfl) hf with ⟨hcs, _⟩ | ⟨x, l, c, zs, hcs, _, hl, hm, hz, _, hcell, hwz⟩
    · simp [Value.cells] at hcs
      obtain ⟨rfl, rfl, rfl⟩ := hcs
      exact ⟨[], rfl, Nat.le_refl _, Rdw.nil⟩
    · simp [Value.cells] at hcs
      obtain ⟨rfl, rfl, rfl⟩ := hcs
      exact ⟨zs.take len0, by simp at hz ⊢; omega, by simp at hz ⊢; omega, Rdw.of_row hl hm (by simpa using hz) hcell hwz⟩
  subst hl0
  clear hA0 hval0
  refine (walk W a0 cap0 z0 hc0 w0).mono fun e W' ⟨he, bel⟩ => ?_
  subst he
  exact ⟨_, rfl, _, _, _, [], _, [], hW', trodAll_mk1 (shut_bool Try.underlying4 _), (trodAll_cons_mk (Below.trod laidOut (by kernel_rfl) (of_decide_eq_true (by kernel_rfl)) k0 bel lt0) trodAll_mk0), rfl, bel.frame _, fun h => by cases h⟩

theorem over : Rows.fnValidRegionRow.holds Try.pinned (OpenSpec.ofChange Rows.fnValidRegionSpec) :=
  OpenClaim.holds_of_wide 8 Try.f8 rfl rfl rfl rfl rfl rfl rfl ⟨rfl, rfl, rfl, rfl, rfl⟩ rfl rfl rfl rfl rfl (by kernel_rfl) Try.func8 (by kernel_rfl)
    (of_decide_eq_true (by kernel_rfl)) (by unfold Func.isWrapper; first | (rw [if_pos (by decide +kernel)]; kernel_rfl) | (rw [if_neg (by decide +kernel)]; exact ⟨rfl, rfl⟩))
    (fun os started H enc _ => lifted os started H enc)

theorem proved : Rows.FnValidRegionSaid := over
end Go.Proofs.Ytjekhlhnjknbeaa.fnValidRegion
