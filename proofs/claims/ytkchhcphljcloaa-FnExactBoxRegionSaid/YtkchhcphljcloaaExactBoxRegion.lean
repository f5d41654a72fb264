/- BoxRegion of the program answers what the model answers, for every box, in memory of its own. -/
import Derived.Test.YtkchhcphljcloaaRows
import Derived.WalkKit
import Derived.ProofKit
import Derived.OpenShut
import Derived.ShutString
import Derived.ChangeOld
import Derived.Below
import Derived.Lib.SmallJoins
import Derived.Test.YtkchhcphljcloaaTri2
import Derived.Test.YtkchhcphljcloaaBoxR
namespace Go.Proofs.Ytkchhcphljcloaa.fnExactBoxRegion
open Go.ChangeShapes Go.WideShapes Go.ChangeAt Go.RowKit
open Go.ChangeMaps (open_string shut_string)
set_option linter.unusedVariables false

theorem OwnT.apart {E E' : TypeId} {C C' : Nat} {wa wb : World} {b0 b1 : Nat} {v0 v1 : Value} {n0 n1 : Nat} {x0 x1 : List Int} (h0 : OwnT E C wa b0 v0 n0 x0) (h1 : OwnT E' C' wb b1 v1 n1 x1) (hlt : wa.heap.size ≤ b1) : v0.ownBlock = none ∨ v0.ownBlock ≠ v1.ownBlock := by
  cases hv : v0.ownBlock with
  | none => exact .inl rfl
  | some k =>
    refine .inr fun e => ?_
    have a := (h0.lt k hv).2
    have b := (h1.lt k e.symm).1
    omega
theorem lbox {u W : World} {g : Nat} {T : TypeId} {x y bw bh : Int} (hb : Below u.heap.size u W) (hs : g < u.heap.size) (hg : u.heap[g]? = some (.cells #[.int .i64 x, .int .i64 y, .int .i64 bw, .int .i64 bh] T (0, 0))) :
    W.cell? ⟨g, 0, none⟩ = some (.int .i64 x) ∧ W.cell? ⟨g, 1, none⟩ = some (.int .i64 y) ∧ W.cell? ⟨g, 2, none⟩ = some (.int .i64 bw) ∧ W.cell? ⟨g, 3, none⟩ = some (.int .i64 bh) := by
  have h := (hb.block g hs).trans hg
  refine ⟨?_, ?_, ?_, ?_⟩ <;> (rw [cell_of_row _ _ _ _ _ _ h]; rfl)
set_option maxHeartbeats 4000000 in
theorem toBoxT_any (bx by_ bw bh : Int) (w : World) :
    Calls Try.prog 26 #[.agg #[.int .i64 bx, .int .i64 by_, .int .i64 bw, .int .i64 bh]] w fun e w' => e = .returned (.agg #[.int .i64 bx, .int .i64 by_, .int .i64 bw, .int .i64 bh]) ∧ Below w.heap.size w w' := by
  go_enter Try.func26, Try.ntmps26
  go_wp2
  exact bodyPost_ret (v := .agg #[.int .i64 bx, .int .i64 by_, .int .i64 bw, .int .i64 bh]) (by simp [results, Try.results26, go_sem]) rfl ⟨rfl, by (repeat' (first | (exact Below.refl _ _) | (refine Below.setCell ?_ (by first | omega | (simp; done) | (simp; omega)) _) | (refine below_dn ?_ _) | (refine Below.drew ?_) | (refine Below.alloc ?_ (by first | omega | (simp; done) | (simp; omega)) _) | (exact Below.refl _ _)))⟩
set_option maxRecDepth 20000
set_option maxHeartbeats 8000000 in
theorem walk (w : World) (x y bw bh : Int) :
    Calls Try.prog 7 #[.agg #[.int .i64 x, .int .i64 y, .int .i64 bw, .int .i64 bh]] w fun e w' => e = .returned (.bool true) ∧ Below w.heap.size w w' := by
  have HbA : Hid (Below w.heap.size w (w.alloc (.cells #[.int .i64 x, .int .i64 y, .int .i64 bw, .int .i64 bh] 37))) := Lib.hid ((Below.refl _ _).alloc (Nat.le_refl _) _)
  have HgA : Hid ((w.alloc (.cells #[.int .i64 x, .int .i64 y, .int .i64 bw, .int .i64 bh] 37)).heap[w.heap.size]? = some (.cells #[.int .i64 x, .int .i64 y, .int .i64 bw, .int .i64 bh] 37 (0, 0))) := Lib.hid (heap_alloc_new w _)
  have HsA : Hid (w.heap.size < (w.alloc (.cells #[.int .i64 x, .int .i64 y, .int .i64 bw, .int .i64 bh] 37)).heap.size) := Lib.hid (by simp)
  have hN := brN_le x y bw bh
  have HS : Hid (∀ W : World, Calls Try.prog 25 #[.agg #[.int .i64 x, .int .i64 y, .int .i64 bw, .int .i64 bh]] W fun e w' => ∃ v, e = .returned (.tuple #[v, .bool (ftB x y bw bh 16 16)]) ∧ OwnT 69 3 w' W.heap.size v (brN x y bw bh) (brL x y bw bh) ∧ Below W.heap.size W w') := Lib.hid (fun W => s_BoxRegion x y bw bh W)
  have HI : Hid (∀ W : World, Calls Try.prog 27 #[.agg #[.int .i64 x, .int .i64 y, .int .i64 bw, .int .i64 bh]] W fun e w' => ∃ v, e = .returned (.tuple #[v, .bool (ftB x y bw bh 16 16)]) ∧ OwnT 69 3 w' W.heap.size v (brN x y bw bh) (brL x y bw bh) ∧ Below W.heap.size W w') := Lib.hid (fun W => i_BoxRegion x y bw bh W)
  have HLn : Hid ((brL x y bw bh).length = 3 * brN x y bw bh) := Lib.hid (by unfold brL; rw [brow_len]; omega)
  generalize brL x y bw bh = L at *
  generalize brN x y bw bh = N at *
  generalize ftB x y bw bh 16 16 = K at *
  go_enter Try.func7, Try.ntmps7
  go_wp2_with fail
  generalize w.alloc (.cells #[.int .i64 x, .int .i64 y, .int .i64 bw, .int .i64 bh] 37) = u at *
  refine (toBoxT_any x y bw bh u).mono ?_
  rintro e u1 ⟨rfl, hB1⟩
  go_wp2_with fail
  refine (HS.out u1).mono ?_
  rintro e u2 ⟨v0, rfl, hO0, hB2⟩
  obtain ⟨A0, c0, rfl, _⟩ := hO0.slice
  have hb2 := hB1.trans (hB2.mono hB1.size)
  have HO0 := Lib.hid hO0
  clear hO0 hB2
  obtain ⟨q0, q1, q2, q3⟩ := lbox hb2 HsA.out HgA.out
  go_wp2_with fail
  refine (toBoxT_any x y bw bh u2).mono ?_
  rintro e u3 ⟨rfl, hB3⟩
  have hb3 := hb2.trans (hB3.mono hb2.size)
  have HZ3 := Lib.hid hB3.size
  have HO03 := Lib.hid (HO0.out.below hB3 (Nat.le_refl _))
  clear q0 q1 q2 q3 hB3
  go_wp2_with fail
  refine (HI.out u3).mono ?_
  rintro e u4 ⟨v1, rfl, hO1, hB4⟩
  obtain ⟨A1, c1, rfl, _⟩ := hO1.slice
  have hb4 := hb3.trans (hB4.mono hb3.size)
  have HO1 := Lib.hid hO1
  have HO04 := Lib.hid (HO03.out.below hB4 (Nat.le_refl _))
  have HA := Lib.hid (OwnT.apart HO0.out hO1 (by have := HZ3.out; omega))
  have HBs : Hid (u.heap.size ≤ u3.heap.size) := Lib.hid hb3.size
  clear hO1 hB4 hb2 hb3 HO03 HO0
  go_wp2_with fail
  refine (eqRunS_same A1 A0 N c1 c0 L u4.heap.size u4.heap.size u4 HLn.out HO1.out.rds HO04.out.rds (Nat.le_refl _) (Nat.le_refl _) (by omega)).mono ?_
  rintro e u5 ⟨rfl, hB5⟩
  have hb5 := hb4.trans (hB5.mono hb4.size)
  have HO15 := Lib.hid (HO1.out.below hB5 (Nat.le_refl _))
  have HO05 := Lib.hid (HO04.out.below hB5 (Nat.le_refl _))
  clear hB5 hb4 HO1 HO04
  go_wp2_with fail
  refine (markRunS_any _ u3.heap.size N L 1 u5 HO15.out (by omega) (by omega) (by omega)).mono ?_
  rintro e u6 ⟨rfl, hM, hG, hz⟩
  have hb6 := hb5.grown hG hb5.size (fun k hk => by have := (HO15.out.lt k hk).1; have := HBs.out; omega)
  have HM6 := Lib.hid hM
  have HO06 := Lib.hid (HO05.out.kept hG HA.out)
  clear hM hG hz hb5 HO15 HO05
  generalize hQ : (1 : Int) + ((N * 3 : Nat) : Int) = Q
  have hQ0 : ¬ Q < 0 := by omega
  have HQ := Lib.hid hQ
  clear hQ
  go_wp2_with fail
  refine (heldRunS_any A1 N c1 u6.heap.size 1 u6 HM6.out.rds (by omega) (by omega) (by omega)).mono ?_
  rintro e w' ⟨rfl, rfl⟩
  rw [HQ.out]
  obtain ⟨q0, q1, q2, q3⟩ := lbox hb6 HsA.out HgA.out
  go_wp2_with fail
  refine (toBoxT_any x y bw bh u6).mono ?_
  rintro e u7 ⟨rfl, hB7⟩
  have hb7 := hb6.trans (hB7.mono hb6.size)
  have HM7 := Lib.hid (HM6.out.below hB7 (Nat.le_refl _))
  have HO07 := Lib.hid (HO06.out.below hB7 (Nat.le_refl _))
  clear q0 q1 q2 q3 hB7 hb6 HM6 HO06
  go_wp2_with fail
  refine (HI.out u7).mono ?_
  rintro e u8 ⟨v2, rfl, hO2, hB8⟩
  obtain ⟨A2, c2, rfl, _⟩ := hO2.slice
  have hb8 := hb7.trans (hB8.mono hb7.size)
  have HO2 := Lib.hid hO2
  have HM8 := Lib.hid (HM7.out.below hB8 (Nat.le_refl _))
  have HO08 := Lib.hid (HO07.out.below hB8 (Nat.le_refl _))
  clear hO2 hB8 hb7 HM7 HO07
  go_wp2_with fail
  refine (eqRunS_same A2 A0 N c2 c0 L u8.heap.size u8.heap.size u8 HLn.out HO2.out.rds HO08.out.rds (Nat.le_refl _) (Nat.le_refl _) (by omega)).mono ?_
  rintro e u9 ⟨rfl, hB9⟩
  have hb9 := hb8.trans (hB9.mono hb8.size)
  have HM9 := Lib.hid (HM8.out.below hB9 (Nat.le_refl _))
  clear hB9 hb8 HM8
  go_wp2_with fail
  refine (heldRunS_any A1 N c1 u9.heap.size 1 u9 HM9.out.rds (by omega) (by omega) (by omega)).mono ?_
  rintro e w' ⟨rfl, rfl⟩
  rw [HQ.out]
  have HE := Lib.hid (HbA.out.trans (hb9.mono HbA.out.size))
  clear hb9
  go_wp2_with fail
  go_ret
  exact ⟨rfl, HE.out⟩

/-! ### From the walk to the statement. -/
theorem own : ownKnob Try.prog.godebug = none := by kernel_rfl
theorem laidOut : laidOutB Try.prog = true := by kernel_rfl
set_option maxRecDepth 100000 in
theorem lifted (os : Os) (started : os.Started) (H : Type) (enc : TypeId × Value → H) :
    ReturnsInHanded {} Try.checked os 7 .any (Rows.fnExactBoxRegionSpec.pre6 enc Try.prog Try.f7 Rows.fnExactBoxRegionRow.domain false) (Rows.fnExactBoxRegionSpec.post enc Try.prog Try.f7 false true false false) := by
  refine returnsInHanded_of_change (C := Try.checked) own started (by kernel_rfl) Try.func7
    (ChangeSpec.witness6 (enc := enc) (C := Try.checked) false ⟨#[], #[.agg #[.int .i64 0, .int .i64 0, .int .i64 0, .int .i64 0]], []⟩ 8 (by kernel_rfl) (by kernel_rfl) (by kernel_rfl) (by kernel_rfl)) ?_
  intro W base args ds gs before hval0 hW hcnd _
  have hval : ∀ (j : Nat) t v, Try.f7.params[j]? = some t → args[j]? = some v → Value.okWide Try.prog W .any base t v := hval0
  have hW' := hW
  obtain ⟨p, q, hA0, hV, rfl, hfz, hnd⟩ := hW
  have hA : DataW.TrodAll enc Try.prog W 0 (fun _ => true) true Try.f7.params.toList args.toList ds p := hA0
  rw [Try.params7] at hA hval
  obtain ⟨v0, vs0, d0, ds0, p0, q0, hargs, rfl, rfl, h0, r0⟩ := trodAll_cons hA
  obtain ⟨rfl, rfl, rfl⟩ := trodAll_nil r0
  obtain rfl : args = #[v0] := by cases args; simp_all
  obtain ⟨rfl, rfl⟩ := trodVars_none hV
  have k0 := h0
  have lt0 : ∀ x ∈ p0, x.block < W.heap.size := by obtain ⟨m, hm⟩ := k0; exact DataW.trod_lt m _ _ _ hm
  obtain ⟨x0a, x0b, x0c, x0d, y0a, y0b, y0c, y0d, m0, rfl, rfl, rfl, g0a, g0b, g0c, g0d⟩ := Joins.open_agg4 Try.underlying37 (by kernel_rfl) (by kernel_rfl) (hval 0 37 v0 rfl rfl) h0
  obtain ⟨n0a, e0a, rfl, f0a⟩ := DataW.trod_int Try.underlying3 g0a
  simp at e0a
  subst e0a
  obtain ⟨n0b, e0b, rfl, f0b⟩ := DataW.trod_int Try.underlying3 g0b
  simp at e0b
  subst e0b
  obtain ⟨n0c, e0c, rfl, f0c⟩ := DataW.trod_int Try.underlying3 g0c
  simp at e0c
  subst e0c
  obtain ⟨n0d, e0d, rfl, f0d⟩ := DataW.trod_int Try.underlying3 g0d
  simp at e0d
  subst e0d
  clear hA0 hval0
  refine (walk W n0a n0b n0c n0d).mono fun e W' ⟨he, bel⟩ => ?_
  subst he
  exact ⟨_, rfl, _, _, _, [], _, [], hW', trodAll_mk1 (shut_bool Try.underlying4 _), (trodAll_cons_mk (Below.trod laidOut (by kernel_rfl) (of_decide_eq_true (by kernel_rfl)) k0 bel lt0) trodAll_mk0), rfl, bel.frame _, fun h => by cases h⟩

theorem over : Rows.fnExactBoxRegionRow.holds Try.pinned (OpenSpec.ofChange Rows.fnExactBoxRegionSpec) :=
  OpenClaim.holds_of_wide 7 Try.f7 rfl rfl rfl rfl rfl rfl rfl ⟨rfl, rfl, rfl, rfl, rfl⟩ rfl rfl rfl rfl rfl (by kernel_rfl) Try.func7 (by kernel_rfl)
    (of_decide_eq_true (by kernel_rfl)) (by unfold Func.isWrapper; first | (rw [if_pos (by decide +kernel)]; kernel_rfl) | (rw [if_neg (by decide +kernel)]; exact ⟨rfl, rfl⟩))
    (fun os started H enc _ => lifted os started H enc)

theorem proved : Rows.FnExactBoxRegionSaid := over
end Go.Proofs.Ytkchhcphljcloaa.fnExactBoxRegion
