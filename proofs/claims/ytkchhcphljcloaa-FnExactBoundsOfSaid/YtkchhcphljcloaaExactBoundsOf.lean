/- BoundsOf of the program answers what the model answers, for every list of runs, and changes nothing of it. -/
import Derived.Test.YtkchhcphljcloaaRows
import Derived.WalkKit
import Derived.ProofKit
import Derived.OpenShut
import Derived.ShutString
import Derived.ChangeOld
import Derived.Below
import Derived.Test.YtkchhcphljcloaaTriO
import Derived.Test.YtkchhcphljcloaaTri2
import Derived.Test.YtkchhcphljcloaaBndS
namespace Go.Proofs.Ytkchhcphljcloaa.fnExactBoundsOf
open Go.ChangeShapes Go.WideShapes Go.ChangeAt Go.RowKit
open Go.ChangeMaps (open_string shut_string)
set_option linter.unusedVariables false

set_option maxRecDepth 20000
set_option maxHeartbeats 4000000 in
theorem walk (w : World) (a0 : Option Addr) (len0 cap0 : Nat) (z0 : List Int) (hl0 : z0.length = 3 * len0) (hc0 : len0 ≤ cap0) (hm0 : cap0 ≤ maxLen) (w0 : Rds .i64 w w.heap.size a0 z0) (f0 : ∀ n ∈ z0, (Lit.int .i64 n).wf = true) :
    Calls Try.prog 6 #[.slice a0 len0 cap0] w fun e w' => e = .returned (.bool true) ∧ Below w.heap.size w w' := by
  unfold maxLen at hm0
  by_cases hlen : 1048576 < len0
  · go_enter Try.func6, Try.ntmps6
    go_wp2_with fail
    refine (szRunS_no a0 len0 cap0 _ hlen (by omega)).mono ?_
    rintro e w' ⟨rfl, rfl⟩
    go_wp2
    go_ret
    exact ⟨rfl, Below.refl _ _⟩
  · have HL := Lib.hid hl0
    have HR := Lib.hid w0
    clear hl0 w0 f0
    obtain ⟨X, hX⟩ : ∃ X, X = bX z0 len0 := ⟨_, rfl⟩
    obtain ⟨Y, hY⟩ : ∃ X, X = bY z0 len0 := ⟨_, rfl⟩
    obtain ⟨Z, hZ⟩ : ∃ X, X = bW z0 len0 := ⟨_, rfl⟩
    obtain ⟨V, hV⟩ : ∃ X, X = bH z0 len0 := ⟨_, rfl⟩
    obtain ⟨K, hK⟩ : ∃ X, X = bok z0 len0 := ⟨_, rfl⟩
    have HE := Lib.hid (show X = bX z0 len0 ∧ Y = bY z0 len0 ∧ Z = bW z0 len0 ∧ V = bH z0 len0 ∧ K = bok z0 len0 from ⟨hX, hY, hZ, hV, hK⟩)
    clear hX hY hZ hV hK
    go_enter Try.func6, Try.ntmps6
    go_wp2_with fail
    refine (szRunS_ok a0 len0 cap0 _ (by omega)).mono ?_
    rintro e w' ⟨rfl, rfl⟩
    go_wp2_with fail
    refine (toRunS_any a0 len0 cap0 z0 w HL.out HR.out (by omega)).mono ?_
    rintro e u1 ⟨A1, c1, rfl, hc1, hr1, hB1, _⟩
    have H1 := Lib.hid hr1
    clear hr1
    go_wp2_with fail
    refine (s_BoundsOf A1 len0 c1 u1.heap.size z0 u1 HL.out H1.out (Nat.le_refl _) (by omega)).mono ?_
    rintro e u2 ⟨rfl, hB2⟩
    have hb2 := hB1.trans (hB2.mono hB1.size)
    clear hB2
    rw [← HE.out.1, ← HE.out.2.1, ← HE.out.2.2.1, ← HE.out.2.2.2.1, ← HE.out.2.2.2.2]
    have hb3 := hb2.alloc hb2.size (.cells #[.int .i64 X, .int .i64 Y, .int .i64 Z, .int .i64 V] 33)
    have hg3 : (u2.alloc (.cells #[.int .i64 X, .int .i64 Y, .int .i64 Z, .int .i64 V] 33)).heap[u2.heap.size]? = some (.cells #[.int .i64 X, .int .i64 Y, .int .i64 Z, .int .i64 V] 33 (0, 0)) := heap_alloc_new u2 _
    have hs3 : u2.heap.size < (u2.alloc (.cells #[.int .i64 X, .int .i64 Y, .int .i64 Z, .int .i64 V] 33)).heap.size := by simp
    have HG3 := Lib.hid hg3
    have HS3 := Lib.hid hs3
    clear hg3 hs3
    go_wp2_with fail
    generalize u2.alloc (.cells #[.int .i64 X, .int .i64 Y, .int .i64 Z, .int .i64 V] 33) = v2 at *
    refine (toRunS_any a0 len0 cap0 z0 v2 HL.out ((HR.out.below hb3).more hb3.size) (by omega)).mono ?_
    rintro e u3 ⟨A3, c3, rfl, hc3, hr3, hB3, _⟩
    have hb4 := hb3.trans (hB3.mono hb3.size)
    have H3 := Lib.hid hr3
    have HG4 := Lib.hid ((hB3.block u2.heap.size HS3.out).trans HG3.out)
    have HS4 : Hid (u2.heap.size < u3.heap.size) := Lib.hid (by have := HS3.out; have := hB3.size; omega)
    clear hr3 hB3
    go_wp2_with fail
    refine (i_BoundsOf A3 len0 c3 u3.heap.size z0 u3 HL.out H3.out (Nat.le_refl _) (by omega)).mono ?_
    rintro e u4 ⟨rfl, hB4⟩
    have hb5 := hb4.trans (hB4.mono hb4.size)
    have H4 := Lib.hid ((H3.out.below hB4).more hB4.size)
    have HG5 := Lib.hid ((hB4.block u2.heap.size HS4.out).trans HG4.out)
    have HS5 : Hid (u2.heap.size < u4.heap.size) := Lib.hid (by have := HS4.out; have := hB4.size; omega)
    clear hB4
    rw [← HE.out.1, ← HE.out.2.1, ← HE.out.2.2.1, ← HE.out.2.2.2.1, ← HE.out.2.2.2.2]
    have hb6 := hb5.alloc hb5.size (.cells #[.int .i64 X, .int .i64 Y, .int .i64 Z, .int .i64 V] 33)
    have hg6 : (u4.alloc (.cells #[.int .i64 X, .int .i64 Y, .int .i64 Z, .int .i64 V] 33)).heap[u4.heap.size]? = some (.cells #[.int .i64 X, .int .i64 Y, .int .i64 Z, .int .i64 V] 33 (0, 0)) := heap_alloc_new u4 _
    have hq6 : (u4.alloc (.cells #[.int .i64 X, .int .i64 Y, .int .i64 Z, .int .i64 V] 33)).heap[u2.heap.size]? = some (.cells #[.int .i64 X, .int .i64 Y, .int .i64 Z, .int .i64 V] 33 (0, 0)) := (((Below.refl u4.heap.size u4).alloc (Nat.le_refl _) _).block u2.heap.size HS5.out).trans HG5.out
    have H5 := Lib.hid (((H4.out.alloc (Nat.le_refl _) (.cells #[.int .i64 X, .int .i64 Y, .int .i64 Z, .int .i64 V] 33))).more (show u4.heap.size ≤ (u4.alloc (.cells #[.int .i64 X, .int .i64 Y, .int .i64 Z, .int .i64 V] 33)).heap.size by simp))
    have aa0 : (u4.alloc (.cells #[.int .i64 X, .int .i64 Y, .int .i64 Z, .int .i64 V] 33)).cell? ⟨u4.heap.size, 0, none⟩ = some (.int .i64 X) := by rw [cell_of_row _ _ _ _ _ _ hg6]; rfl
    have a1 : (u4.alloc (.cells #[.int .i64 X, .int .i64 Y, .int .i64 Z, .int .i64 V] 33)).cell? ⟨u4.heap.size, 1, none⟩ = some (.int .i64 Y) := by rw [cell_of_row _ _ _ _ _ _ hg6]; rfl
    have a2 : (u4.alloc (.cells #[.int .i64 X, .int .i64 Y, .int .i64 Z, .int .i64 V] 33)).cell? ⟨u4.heap.size, 2, none⟩ = some (.int .i64 Z) := by rw [cell_of_row _ _ _ _ _ _ hg6]; rfl
    have a3 : (u4.alloc (.cells #[.int .i64 X, .int .i64 Y, .int .i64 Z, .int .i64 V] 33)).cell? ⟨u4.heap.size, 3, none⟩ = some (.int .i64 V) := by rw [cell_of_row _ _ _ _ _ _ hg6]; rfl
    have b0 : (u4.alloc (.cells #[.int .i64 X, .int .i64 Y, .int .i64 Z, .int .i64 V] 33)).cell? ⟨u2.heap.size, 0, none⟩ = some (.int .i64 X) := by rw [cell_of_row _ _ _ _ _ _ hq6]; rfl
    have b1 : (u4.alloc (.cells #[.int .i64 X, .int .i64 Y, .int .i64 Z, .int .i64 V] 33)).cell? ⟨u2.heap.size, 1, none⟩ = some (.int .i64 Y) := by rw [cell_of_row _ _ _ _ _ _ hq6]; rfl
    have b2 : (u4.alloc (.cells #[.int .i64 X, .int .i64 Y, .int .i64 Z, .int .i64 V] 33)).cell? ⟨u2.heap.size, 2, none⟩ = some (.int .i64 Z) := by rw [cell_of_row _ _ _ _ _ _ hq6]; rfl
    have b3 : (u4.alloc (.cells #[.int .i64 X, .int .i64 Y, .int .i64 Z, .int .i64 V] 33)).cell? ⟨u2.heap.size, 3, none⟩ = some (.int .i64 V) := by rw [cell_of_row _ _ _ _ _ _ hq6]; rfl
    clear hg6 hq6
    go_wp2_with fail
    generalize u4.alloc (.cells #[.int .i64 X, .int .i64 Y, .int .i64 Z, .int .i64 V] 33) = v4 at *
    refine (eqBox_same X Y Z V v4).mono ?_
    rintro e u5 ⟨rfl, hB5⟩
    have hb7 := hb6.trans (hB5.mono hb6.size)
    have H6 := Lib.hid ((H5.out.below hB5).more hB5.size)
    clear hB5 aa0 a1 a2 a3 b0 b1 b2 b3
    go_wp2_with fail
    refine (toRunS_any _ len0 cap0 z0 u5 HL.out ((HR.out.below hb7).more hb7.size) (by omega)).mono ?_
    rintro e u6 ⟨A6, c6, rfl, hc6, hr6, hB6, _⟩
    have hb8 := hb7.trans (hB6.mono hb7.size)
    have H7 := Lib.hid hr6
    have H67 := Lib.hid ((H6.out.below hB6).more hB6.size)
    clear hr6 hB6
    go_wp2_with fail
    refine (eqRunS_same A3 A6 len0 c3 c6 z0 u6.heap.size u6.heap.size u6 HL.out H67.out H7.out (Nat.le_refl _) (Nat.le_refl _) (by omega)).mono ?_
    rintro e u7 ⟨rfl, hB7⟩
    have hb9 := hb8.trans (hB7.mono hb8.size)
    go_wp2_with fail
    go_ret
    exact ⟨rfl, hb9⟩

/-! ### From the walk to the statement. -/
theorem own : ownKnob Try.prog.godebug = none := by kernel_rfl
theorem laidOut : laidOutB Try.prog = true := by kernel_rfl
set_option maxRecDepth 100000 in
theorem lifted (os : Os) (started : os.Started) (H : Type) (enc : TypeId × Value → H) :
    ReturnsInHanded {} Try.checked os 6 .any (Rows.fnExactBoundsOfSpec.pre6 enc Try.prog Try.f6 Rows.fnExactBoundsOfRow.domain false) (Rows.fnExactBoundsOfSpec.post enc Try.prog Try.f6 false true false false) := by
  refine returnsInHanded_of_change (C := Try.checked) own started (by kernel_rfl) Try.func6
    (ChangeSpec.witness6 (enc := enc) (C := Try.checked) false ⟨#[], #[.slice none 0 0], []⟩ 8 (by kernel_rfl) (by kernel_rfl) (by kernel_rfl) (by kernel_rfl)) ?_
  intro W base args ds gs before hval0 hW hcnd _
  have hval : ∀ (j : Nat) t v, Try.f6.params[j]? = some t → args[j]? = some v → Value.okWide Try.prog W .any base t v := hval0
  have hW' := hW
  obtain ⟨p, q, hA0, hV, rfl, hfz, hnd⟩ := hW
  have hA : DataW.TrodAll enc Try.prog W 0 (fun _ => true) true Try.f6.params.toList args.toList ds p := hA0
  rw [Try.params6] at hA hval
  obtain ⟨v0, vs0, d0, ds0, p0, q0, hargs, rfl, rfl, h0, r0⟩ := trodAll_cons hA
  obtain ⟨rfl, rfl, rfl⟩ := trodAll_nil r0
  obtain rfl : args = #[v0] := by cases args; simp_all
  obtain ⟨rfl, rfl⟩ := trodVars_none hV
  obtain ⟨a0, len0, cap0, rfl⟩ := okWide_slice Try.underlying22 (hval 0 22 v0 rfl rfl)
  have k0 := h0
  have lt0 : ∀ x ∈ p0, x.block < W.heap.size := by obtain ⟨m, hm⟩ := k0; exact DataW.trod_lt m _ _ _ hm
  obtain ⟨z0, hl0, hc0, hm0, w0, f0⟩ : ∃ zs : List Int, zs.length = 3 * len0 ∧ len0 ≤ cap0 ∧ cap0 ≤ maxLen ∧ Rds .i64 W W.heap.size a0 zs ∧ ∀ n ∈ zs, (Lit.int .i64 n).wf = true := by
    obtain ⟨fuel, hf⟩ := h0
    obtain ⟨A, l, c, zs, hcs, r⟩ := open_flat (C := 3) Try.underlying22 Try.underlying71 Try.underlying3 (by decide) rfl (by kernel_rfl) (by kernel_rfl) (by intro q f hq; rcases q with _ | _ | _ | q <;> simp at hq <;> (subst hq; exact ⟨rfl, rfl⟩)) hf
    simp [Value.cells] at hcs
    obtain ⟨rfl, rfl, rfl⟩ := hcs
    exact ⟨zs, r⟩
  clear hA0 hval0
  refine (walk W a0 len0 cap0 z0 hl0 hc0 hm0 w0 f0).mono fun e W' ⟨he, bel⟩ => ?_
  subst he
  exact ⟨_, rfl, _, _, _, [], _, [], hW', trodAll_mk1 (shut_bool Try.underlying4 _), (trodAll_cons_mk (Below.trod laidOut (by kernel_rfl) (of_decide_eq_true (by kernel_rfl)) k0 bel lt0) trodAll_mk0), rfl, bel.frame _, fun h => by cases h⟩

theorem over : Rows.fnExactBoundsOfRow.holds Try.pinned (OpenSpec.ofChange Rows.fnExactBoundsOfSpec) :=
  OpenClaim.holds_of_wide 6 Try.f6 rfl rfl rfl rfl rfl rfl rfl ⟨rfl, rfl, rfl, rfl, rfl⟩ rfl rfl rfl rfl rfl (by kernel_rfl) Try.func6 (by kernel_rfl)
    (of_decide_eq_true (by kernel_rfl)) (by unfold Func.isWrapper; first | (rw [if_pos (by decide +kernel)]; kernel_rfl) | (rw [if_neg (by decide +kernel)]; exact ⟨rfl, rfl⟩))
    (fun os started H enc _ => lifted os started H enc)

theorem proved : Rows.FnExactBoundsOfSaid := over
end Go.Proofs.Ytkchhcphljcloaa.fnExactBoundsOf
