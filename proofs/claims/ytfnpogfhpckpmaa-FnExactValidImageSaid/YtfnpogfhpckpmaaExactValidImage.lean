/- ValidImage of the program answers what the model answers, for every image; it writes into no argument. -/
import Derived.Test.YtfnpogfhpckpmaaRows
import Derived.WalkKit
import Derived.ProofKit
import Derived.OpenShut
import Derived.ShutString
import Derived.ChangeOld
import Derived.Below
import Derived.Lib.SmallJoins
import Derived.Deep.RegionLaw
import Derived.Test.YtfnpogfhpckpmaaImgE
namespace Go.Proofs.Ytfnpogfhpckpmaa.fnExactValidImage
open Go.ChangeShapes Go.WideShapes Go.ChangeAt Go.RowKit
open Go.ChangeMaps (open_string shut_string)
set_option linter.unusedVariables false

set_option maxHeartbeats 8000000 in
theorem walk (w : World) (W H P : Int) (a0 : Option Addr) (cap0 : Nat) (z0 : List Int) (hc0 : z0.length ≤ cap0) (w0 : Rdw .i64 w w.heap.size a0 z0) :
    Calls Try.prog 3 #[.agg #[.int .i64 W, .int .i64 H, .int .i64 P, .slice a0 z0.length cap0]] w fun e w' => e = .returned (.bool true) ∧ Below w.heap.size w w' := by
  have hm := w0.2.1
  unfold maxLen at hm
  have HR := Lib.hid w0.1
  clear w0
  by_cases hlen : 1048576 < z0.length
  · go_enter Try.func3, Try.ntmps3
    go_wp2_with fail
    refine (szImage_no W H P a0 cap0 z0 _ hlen (by omega)).mono ?_
    rintro e w1 ⟨rfl, hB⟩
    have HB := Lib.hid (((Below.refl w.heap.size w).alloc (Nat.le_refl _) _).trans (hB.mono (by simp <;> omega)))
    clear hB
    go_wp2
    go_ret
    exact ⟨rfl, HB.out⟩
  · have S0 := (St.start w).alloc (.cells #[.int .i64 W, .int .i64 H, .int .i64 P, .slice a0 z0.length cap0] 24)
    have B0 : Bx (w.alloc (.cells #[.int .i64 W, .int .i64 H, .int .i64 P, .slice a0 z0.length cap0] 24)) w.heap.size 24 (imC W H P (.slice a0 z0.length cap0)) := Bx.new w _ _
    go_enter Try.func3, Try.ntmps3
    go_wp2_with fail
    generalize w.alloc (.cells #[.int .i64 W, .int .i64 H, .int .i64 P, .slice a0 z0.length cap0] 24) = u0 at *
    refine (szImage_any W H P a0 cap0 z0 u0 (by omega)).mono ?_
    rintro e u1 ⟨rfl, hB⟩
    have S1 := S0.call hB
    have B1 := B0.below hB
    obtain ⟨b0, b1, b2, b3⟩ := B1.im
    clear S0 B0 hB
    go_wp2_with fail
    refine (toImage_any W H P a0 cap0 z0 u1 (S1.arg HR.out) (by omega)).mono ?_
    rintro e u2 ⟨v2, rfl, hO2, hB2⟩
    obtain ⟨A2, c2, rfl, _⟩ := hO2.slice
    have S2 := S1.add hO2 hB2
    have B2 := B1.below hB2
    clear S1 B1 hO2 hB2 b0 b1 b2 b3
    go_wp2_with fail
    refine (sValid_any W H P A2 c2 z0 u2 (S2.rds (lo := u1.heap.size) (hi := u2.heap.size) (n := z0.length) (c := c2) (by simp)) (by omega)).mono ?_
    rintro e u3 ⟨rfl, hB3⟩
    have S3 := S2.call hB3
    have B3 := B2.below hB3
    obtain ⟨b0, b1, b2, b3⟩ := B3.im
    clear S2 B2 hB3
    go_wp2_with fail
    refine (toImage_any W H P a0 cap0 z0 u3 (S3.arg HR.out) (by omega)).mono ?_
    rintro e u4 ⟨v4, rfl, hO4, hB4⟩
    obtain ⟨A4, c4, rfl, _⟩ := hO4.slice
    have S5 := (S3.add hO4 hB4).alloc (.cells #[.int .i64 W, .int .i64 H, .int .i64 P, .slice A4 z0.length c4] 27)
    have B5 := (B3.below hB4).alloc (.cells #[.int .i64 W, .int .i64 H, .int .i64 P, .slice A4 z0.length c4] 27)
    have X5 : Bx (u4.alloc (.cells #[.int .i64 W, .int .i64 H, .int .i64 P, .slice A4 z0.length c4] 27)) u4.heap.size 27 (imC W H P (.slice A4 z0.length c4)) := Bx.new u4 _ _
    clear S3 B3 hO4 hB4 b0 b1 b2 b3
    go_wp2_with fail
    generalize u4.alloc (.cells #[.int .i64 W, .int .i64 H, .int .i64 P, .slice A4 z0.length c4] 27) = u5 at *
    refine (iVimg_any W H P A4 c4 z0 u5 (S5.rds (lo := u3.heap.size) (hi := u4.heap.size) (n := z0.length) (c := c4) (by simp)) (by omega)).mono ?_
    rintro e u6 ⟨rfl, hB6⟩
    have S6 := S5.call hB6
    have B6 := B5.below hB6
    have X6 := X5.below hB6
    obtain ⟨b0, b1, b2, b3⟩ := B6.im
    obtain ⟨d0, d1, d2, d3⟩ := X6.im
    have HS6 := Lib.hid S6
    have HX6 := Lib.hid X6
    clear S5 B5 X5 hB6 S6 B6 X6
    generalize vim W H P z0 = vv at *
    go_wp2
    go_region_law (first | (go_simp; go_at_call 17; refine (toImage_any W H P a0 cap0 z0 _ (by exact HS6.out.arg HR.out) (by omega)).mono ?_; rintro e u7 ⟨v7, rfl, hO7, hB7⟩; obtain ⟨A7, c7, rfl, _⟩ := hO7.slice; obtain ⟨d0, d1, d2, d3⟩ := (HX6.out.below (w := u6.drew) hB7).im; have HS7 := Lib.hid (HS6.out.drew.add hO7 hB7); clear hO7 hB7) | (go_simp; go_at_call 19; refine (eqImage_same W H P A4 A7 c4 c7 _ _ z0 u7 rfl rfl (HS7.out.rds (lo := u3.heap.size) (hi := u4.heap.size) (n := z0.length) (c := c4) (by simp)) (HS7.out.rds (lo := u6.drew.heap.size) (hi := u7.heap.size) (n := z0.length) (c := c7) (by simp)) (by omega)).mono ?_; rintro e u8 ⟨rfl, hB8⟩; have HS8 := Lib.hid (HS7.out.call hB8); clear hB8))
    all_goals
      go_wp2
      go_ret
      exact ⟨rfl, HS8.out.below⟩

/-! ### From the walk to the statement. -/
theorem own : ownKnob Try.prog.godebug = none := by kernel_rfl
theorem laidOut : laidOutB Try.prog = true := by kernel_rfl
set_option maxRecDepth 100000 in
theorem lifted (os : Os) (started : os.Started) (H : Type) (enc : TypeId × Value → H) :
    ReturnsInHanded {} Try.checked os 3 .any (Rows.fnExactValidImageSpec.pre6 enc Try.prog Try.f3 Rows.fnExactValidImageRow.domain false) (Rows.fnExactValidImageSpec.post enc Try.prog Try.f3 false true false false) := by
  refine returnsInHanded_of_change (C := Try.checked) own started (by kernel_rfl) Try.func3
    (ChangeSpec.witness6 (enc := enc) (C := Try.checked) false ⟨#[], #[.agg #[.int .i64 0, .int .i64 0, .int .i64 0, .slice none 0 0]], []⟩ 8 (by kernel_rfl) (by kernel_rfl) (by kernel_rfl) (by kernel_rfl)) ?_
  intro W base args ds gs before hval0 hW hcnd _
  have hval : ∀ (j : Nat) t v, Try.f3.params[j]? = some t → args[j]? = some v → Value.okWide Try.prog W .any base t v := hval0
  have hW' := hW
  obtain ⟨p, q, hA0, hV, rfl, hfz, hnd⟩ := hW
  have hA : DataW.TrodAll enc Try.prog W 0 (fun _ => true) true Try.f3.params.toList args.toList ds p := hA0
  rw [Try.params3] at hA hval
  obtain ⟨v0, vs0, d0, ds0, p0, q0, hargs, rfl, rfl, h0, r0⟩ := trodAll_cons hA
  obtain ⟨rfl, rfl, rfl⟩ := trodAll_nil r0
  obtain rfl : args = #[v0] := by cases args; simp_all
  obtain ⟨rfl, rfl⟩ := trodVars_none hV
  have k0 := h0
  have lt0 : ∀ x ∈ p0, x.block < W.heap.size := by obtain ⟨m, hm⟩ := k0; exact DataW.trod_lt m _ _ _ hm
  obtain ⟨x0a, x0b, x0c, x0d, y0a, y0b, y0c, y0d, m0, rfl, rfl, rfl, g0a, g0b, g0c, g0d⟩ := Joins.open_agg4 Try.underlying24 (by kernel_rfl) (by kernel_rfl) (hval 0 24 v0 rfl rfl) h0
  obtain ⟨n0a, e0a, rfl, f0a⟩ := DataW.trod_int Try.underlying3 g0a
  simp at e0a
  subst e0a
  obtain ⟨n0b, e0b, rfl, f0b⟩ := DataW.trod_int Try.underlying3 g0b
  simp at e0b
  subst e0b
  obtain ⟨n0c, e0c, rfl, f0c⟩ := DataW.trod_int Try.underlying3 g0c
  simp at e0c
  subst e0c
  obtain ⟨a0, cap0, z0, hv0, hc0, w0⟩ : ∃ (A : Option Addr) (c : Nat) (zs : List Int), x0d = .slice A zs.length c ∧ zs.length ≤ c ∧ Rdw .i64 W W.heap.size A zs := by
    rcases open_ints Try.underlying22 Try.underlying3 (by kernel_rfl) g0d with ⟨hcs, _⟩ | ⟨x, l, c, zs, hcs, _, hl, hm, hz, _, hcell, hwz⟩
    · simp at hcs
      exact ⟨none, 0, [], hcs, Nat.le_refl _, Rdw.nil⟩
    · simp at hcs
      have hzl : (zs.take l).length = l := by simp at hz ⊢; omega
      exact ⟨some x, c, zs.take l, by rw [hzl]; exact hcs, by rw [hzl]; exact hl, Rdw.of_row hl hm (by simpa using hz) hcell hwz⟩
  subst hv0
  clear hA0 hval0
  refine (walk W n0a n0b n0c a0 cap0 z0 hc0 w0).mono fun e W' ⟨he, bel⟩ => ?_
  subst he
  exact ⟨_, rfl, _, _, _, [], _, [], hW', trodAll_mk1 (shut_bool Try.underlying4 _), (trodAll_cons_mk (Below.trod laidOut (by kernel_rfl) (of_decide_eq_true (by kernel_rfl)) k0 bel lt0) trodAll_mk0), rfl, bel.frame _, fun h => by cases h⟩

theorem over : Rows.fnExactValidImageRow.holds Try.pinned (OpenSpec.ofChange Rows.fnExactValidImageSpec) :=
  OpenClaim.holds_of_wide 3 Try.f3 rfl rfl rfl rfl rfl rfl rfl ⟨rfl, rfl, rfl, rfl, rfl⟩ rfl rfl rfl rfl rfl (by kernel_rfl) Try.func3 (by kernel_rfl)
    (of_decide_eq_true (by kernel_rfl)) (by unfold Func.isWrapper; first | (rw [if_pos (by decide +kernel)]; kernel_rfl) | (rw [if_neg (by decide +kernel)]; exact ⟨rfl, rfl⟩))
    (fun os started H enc _ => lifted os started H enc)

theorem proved : Rows.FnExactValidImageSaid := over
end Go.Proofs.Ytfnpogfhpckpmaa.fnExactValidImage
