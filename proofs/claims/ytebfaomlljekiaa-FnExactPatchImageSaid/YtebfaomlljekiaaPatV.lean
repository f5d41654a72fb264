/- The law of PatchImage, from its walk to the change that the statement speaks of. -/
import Derived.Test.YtebfaomlljekiaaRows
import Derived.WalkKit
import Derived.ProofKit
import Derived.OpenShut
import Derived.ShutString
import Derived.ChangeOld
import Derived.Below
import Derived.Lib.SmallJoins
import Derived.Test.YtebfaomlljekiaaGen
import Derived.Test.YtebfaomlljekiaaSz
import Derived.Deep.Cut
import Derived.Deep.RegionHeld3
import Derived.Test.YtebfaomlljekiaaPatW
import Derived.Test.YtebfaomlljekiaaIStL
import Derived.Test.YtebfaomlljekiaaNa
import Derived.Test.YtebfaomlljekiaaTriO
namespace Go.Proofs.Ytebfaomlljekiaa.fnExactPatchImage
open Go.ChangeShapes Go.WideShapes Go.ChangeAt Go.RowKit
open Go.ChangeMaps (open_string shut_string)
set_option linter.unusedVariables false

/-! ### From the walk to the statement. -/
theorem own : ownKnob Try.prog.godebug = none := by kernel_rfl
theorem laidOut : laidOutB Try.prog = true := by kernel_rfl
set_option maxRecDepth 100000 in
theorem lifted (os : Os) (started : os.Started) (H : Type) (enc : TypeId × Value → H) :
    ReturnsInHanded {} Try.checked os 11 .any (Rows.fnExactPatchImageSpec.pre6 enc Try.prog Try.f11 Rows.fnExactPatchImageRow.domain false) (Rows.fnExactPatchImageSpec.post enc Try.prog Try.f11 false true false false) := by
  refine returnsInHanded_of_change (C := Try.checked) own started (by kernel_rfl) Try.func11
    (ChangeSpec.witness6 (enc := enc) (C := Try.checked) false ⟨#[], #[.agg #[.int .i64 0, .int .i64 0, .int .i64 0, .slice none 0 0], .agg #[.int .i64 0, .int .i64 0, .int .i64 0, .slice none 0 0], .slice none 0 0], []⟩ 8 (by kernel_rfl) (by kernel_rfl) (by kernel_rfl) (by kernel_rfl)) ?_
  intro W base args ds gs before hval0 hW hcnd _
  have hval : ∀ (j : Nat) t v, Try.f11.params[j]? = some t → args[j]? = some v → Value.okWide Try.prog W .any base t v := hval0
  have hW' := hW
  obtain ⟨p, q, hA0, hV, rfl, hfz, hnd⟩ := hW
  have hA : DataW.TrodAll enc Try.prog W 0 (fun _ => true) true Try.f11.params.toList args.toList ds p := hA0
  rw [Try.params11] at hA hval
  obtain ⟨v0, vs0, d0, ds0, p0, q0, hargs, rfl, rfl, h0, r0⟩ := trodAll_cons hA
  obtain ⟨v1, vs1, d1, ds1, p1, q1, rfl, rfl, rfl, h1, r1⟩ := trodAll_cons r0
  obtain ⟨v2, vs2, d2, ds2, p2, q2, rfl, rfl, rfl, h2, r2⟩ := trodAll_cons r1
  obtain ⟨rfl, rfl, rfl⟩ := trodAll_nil r2
  obtain rfl : args = #[v0, v1, v2] := by cases args; simp_all
  obtain ⟨rfl, rfl⟩ := trodVars_none hV
  have k0 := h0
  have lt0 : ∀ x ∈ p0, x.block < W.heap.size := by obtain ⟨m, hm⟩ := k0; exact DataW.trod_lt m _ _ _ hm
  obtain ⟨x0a, x0b, x0c, x0d, y0a, y0b, y0c, y0d, m0, rfl, rfl, rfl, g0a, g0b, g0c, g0d⟩ := Joins.open_agg4 Try.underlying38 (by kernel_rfl) (by kernel_rfl) (hval 0 38 v0 rfl rfl) h0
  obtain ⟨n0a, e0a, rfl, f0a⟩ := DataW.trod_int Try.underlying3 g0a
  simp at e0a
  subst e0a
  obtain ⟨n0b, e0b, rfl, f0b⟩ := DataW.trod_int Try.underlying3 g0b
  simp at e0b
  subst e0b
  obtain ⟨n0c, e0c, rfl, f0c⟩ := DataW.trod_int Try.underlying3 g0c
  simp at e0c
  subst e0c
  obtain ⟨a0, cap0, z0, hv0, hc0, w0⟩ : ∃ (A : Option Addr) (c : Nat) (zs : List Int), x0d = .slice A zs.length c ∧ zs.length ≤ c ∧ Rdw .i64 W W.heap.size A zs := by
    rcases open_ints Try.underlying23 Try.underlying3 (by kernel_rfl) g0d with ⟨hcs, _⟩ | ⟨x, l, c, zs, hcs, _, hl, hm, hz, _, hcell, hwz⟩
    · simp at hcs
      exact ⟨none, 0, [], hcs, Nat.le_refl _, Rdw.nil⟩
    · simp at hcs
      have hzl : (zs.take l).length = l := by simp at hz ⊢; omega
      exact ⟨some x, c, zs.take l, by rw [hzl]; exact hcs, by rw [hzl]; exact hl, Rdw.of_row hl hm (by simpa using hz) hcell hwz⟩
  subst hv0
  have k1 := h1
  have lt1 : ∀ x ∈ p1, x.block < W.heap.size := by obtain ⟨m, hm⟩ := k1; exact DataW.trod_lt m _ _ _ hm
  obtain ⟨x1a, x1b, x1c, x1d, y1a, y1b, y1c, y1d, m1, rfl, rfl, rfl, g1a, g1b, g1c, g1d⟩ := Joins.open_agg4 Try.underlying38 (by kernel_rfl) (by kernel_rfl) (hval 1 38 v1 rfl rfl) h1
  obtain ⟨n1a, e1a, rfl, f1a⟩ := DataW.trod_int Try.underlying3 g1a
  simp at e1a
  subst e1a
  obtain ⟨n1b, e1b, rfl, f1b⟩ := DataW.trod_int Try.underlying3 g1b
  simp at e1b
  subst e1b
  obtain ⟨n1c, e1c, rfl, f1c⟩ := DataW.trod_int Try.underlying3 g1c
  simp at e1c
  subst e1c
  obtain ⟨a1, cap1, z1, hv1, hc1, w1⟩ : ∃ (A : Option Addr) (c : Nat) (zs : List Int), x1d = .slice A zs.length c ∧ zs.length ≤ c ∧ Rdw .i64 W W.heap.size A zs := by
    rcases open_ints Try.underlying23 Try.underlying3 (by kernel_rfl) g1d with ⟨hcs, _⟩ | ⟨x, l, c, zs, hcs, _, hl, hm, hz, _, hcell, hwz⟩
    · simp at hcs
      exact ⟨none, 0, [], hcs, Nat.le_refl _, Rdw.nil⟩
    · simp at hcs
      have hzl : (zs.take l).length = l := by simp at hz ⊢; omega
      exact ⟨some x, c, zs.take l, by rw [hzl]; exact hcs, by rw [hzl]; exact hl, Rdw.of_row hl hm (by simpa using hz) hcell hwz⟩
  subst hv1
  obtain ⟨a2, len2, cap2, rfl⟩ := okWide_slice Try.underlying62 (hval 2 62 v2 rfl rfl)
  have k2 := h2
  have lt2 : ∀ x ∈ p2, x.block < W.heap.size := by obtain ⟨m, hm⟩ := k2; exact DataW.trod_lt m _ _ _ hm
  obtain ⟨z2, hl2, hc2, hm2, w2, f2⟩ : ∃ zs : List Int, zs.length = 4 * len2 ∧ len2 ≤ cap2 ∧ cap2 ≤ maxLen ∧ Rds .i64 W W.heap.size a2 zs ∧ ∀ n ∈ zs, (Lit.int .i64 n).wf = true := by
    obtain ⟨fuel, hf⟩ := h2
    obtain ⟨A, l, c, zs, hcs, r⟩ := open_flat (C := 4) Try.underlying62 Try.underlying135 Try.underlying3 (by decide) rfl (by kernel_rfl) (by kernel_rfl) (by intro q f hq; rcases q with _ | _ | _ | _ | q <;> simp at hq <;> (subst hq; exact ⟨rfl, rfl⟩)) hf
    simp [Value.cells] at hcs
    obtain ⟨rfl, rfl, rfl⟩ := hcs
    exact ⟨zs, r⟩
  clear hA0 hval0
  refine (walk W n0a n0b n0c a0 cap0 z0 hc0 w0 n1a n1b n1c a1 cap1 z1 hc1 w1 a2 len2 cap2 z2 hl2 hc2 hm2 w2 f2).mono fun e W' ⟨he, bel⟩ => ?_
  subst he
  exact ⟨_, rfl, _, _, _, [], _, [], hW', trodAll_mk1 (shut_bool Try.underlying4 _), (trodAll_cons_mk (Below.trod laidOut (by kernel_rfl) (of_decide_eq_true (by kernel_rfl)) k0 bel lt0) (trodAll_cons_mk (Below.trod laidOut (by kernel_rfl) (of_decide_eq_true (by kernel_rfl)) k1 bel lt1) (trodAll_cons_mk (Below.trod laidOut (by kernel_rfl) (of_decide_eq_true (by kernel_rfl)) k2 bel lt2) trodAll_mk0))), rfl, bel.frame _, fun h => by cases h⟩
end Go.Proofs.Ytebfaomlljekiaa.fnExactPatchImage
