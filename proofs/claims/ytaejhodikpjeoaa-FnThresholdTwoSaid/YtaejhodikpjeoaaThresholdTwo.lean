/- Whatever the code: ThresholdOf of the drawn image answers what the model answers, and where the image has just two colors, it is one more than the lower number. -/
import Derived.Test.YtaejhodikpjeoaaRows
import Derived.WalkKit
import Derived.ProofKit
import Derived.OpenShut
import Derived.ShutString
import Derived.ChangeOld
import Derived.Below
import Derived.Test.YtaejhodikpjeoaaTh2L
import Derived.Test.YtaejhodikpjeoaaDrawHis
import Derived.Test.YtaejhodikpjeoaaLSt
import Derived.Test.YtaejhodikpjeoaaOkJ
import Derived.Deep.RegionHeld3
import Derived.BigQuiet
namespace Go.Proofs.Ytaejhodikpjeoaa.fnThresholdTwo
open Go.ChangeShapes Go.WideShapes Go.ChangeAt Go.RowKit
open Go.ChangeMaps (open_string shut_string)
set_option linter.unusedVariables false

set_option linter.unusedSimpArgs false
set_option maxRecDepth 20000
set_option maxHeartbeats 16000000 in
theorem walk (w : World) (a0 : Option Addr) (cap0 : Nat) (z0 : List Int) (hc0 : z0.length ≤ cap0) (w0 : Rdw .u8 w w.heap.size a0 z0) :
    Calls Try.prog 5 #[.slice a0 z0.length cap0] w fun e w' => e = .returned (.bool true) ∧ Below w.heap.size w w' := by
  have hm := w0.2.1
  unfold maxLen at hm
  by_cases hlen : 1048576 < z0.length
  · go_enter Try.func5, Try.ntmps5
    go_wp2
    go_ret
    exact ⟨rfl, Below.refl _ _⟩
  · go_enter Try.func5, Try.ntmps5
    go_wp2_with fail
    refine (drawThr_any a0 cap0 z0 w hc0 w0).mono ?_
    rintro e u1 ⟨W, H, P, A, c, xs, rfl, hx, hxc, hr, hbel⟩
    have S1 : LSt w u1 [(A, xs)] [] := (LSt.start hbel).add hr
    obtain ⟨t, HI, HQ, hor⟩ := th2_law W H P xs hx
    clear w0 hr hbel hm
    have S1001 : LSt w (u1.alloc (.cells #[.int .i64 W, .int .i64 H, .int .i64 P, .slice A xs.length c] 27)) [(A, xs)] [⟨u1.heap.size, 27, #[.int .i64 W, .int .i64 H, .int .i64 P, .slice A xs.length c]⟩] := LSt.box2 S1 27 #[.int .i64 W, .int .i64 H, .int .i64 P, .slice A xs.length c] u1.heap.size (by simp)
    go_wp2_with fail
    clear S1
    generalize u1.alloc (.cells #[.int .i64 W, .int .i64 H, .int .i64 P, .slice A xs.length c] 27) = u1002 at *
    have Fmx := S1001.2.2 ⟨u1.heap.size, 27, #[.int .i64 W, .int .i64 H, .int .i64 P, .slice A xs.length c]⟩ (by simp)
    have ml : u1.heap.size < u1002.heap.size := Fmx.lt
    have m0 : u1002.cell? ⟨u1.heap.size, 0, none⟩ = some (.int .i64 W) := cell_of_row _ _ 0 _ _ _ Fmx
    have m1 : u1002.cell? ⟨u1.heap.size, 1, none⟩ = some (.int .i64 H) := cell_of_row _ _ 1 _ _ _ Fmx
    have m2 : u1002.cell? ⟨u1.heap.size, 2, none⟩ = some (.int .i64 P) := cell_of_row _ _ 2 _ _ _ Fmx
    have m3 : u1002.cell? ⟨u1.heap.size, 3, none⟩ = some (.slice A xs.length c) := cell_of_row _ _ 3 _ _ _ Fmx
    clear Fmx
    go_wp2_with fail
    refine (HI.out A c _ ((S1001).rds (A := A) (xs := xs) (by simp))).mono ?_
    rintro e u1003 ⟨rfl, hB1003⟩
    have S1003 := S1001.call hB1003
    clear ml m0 m1 m2 m3
    clear hB1003 S1001
    have Fmx := S1003.2.2 ⟨u1.heap.size, 27, #[.int .i64 W, .int .i64 H, .int .i64 P, .slice A xs.length c]⟩ (by simp)
    have ml : u1.heap.size < u1003.heap.size := Fmx.lt
    have m0 : u1003.cell? ⟨u1.heap.size, 0, none⟩ = some (.int .i64 W) := cell_of_row _ _ 0 _ _ _ Fmx
    have m1 : u1003.cell? ⟨u1.heap.size, 1, none⟩ = some (.int .i64 H) := cell_of_row _ _ 1 _ _ _ Fmx
    have m2 : u1003.cell? ⟨u1.heap.size, 2, none⟩ = some (.int .i64 P) := cell_of_row _ _ 2 _ _ _ Fmx
    have m3 : u1003.cell? ⟨u1.heap.size, 3, none⟩ = some (.slice A xs.length c) := cell_of_row _ _ 3 _ _ _ Fmx
    clear Fmx
    go_wp2_with fail
    refine (HQ.out A c _ ((S1003).rds (A := A) (xs := xs) (by simp))).mono ?_
    rintro e u1004 ⟨rfl, hB1004⟩
    have S1004 := S1003.call hB1004
    clear ml m0 m1 m2 m3
    clear hB1004 S1003
    rcases hor with ht | ⟨ht, L, ok, hL16, HPal, hor⟩
    · have htd : decide (t < 0) = true := decide_eq_true ht
      have Fmx := S1004.2.2 ⟨u1.heap.size, 27, #[.int .i64 W, .int .i64 H, .int .i64 P, .slice A xs.length c]⟩ (by simp)
      have ml : u1.heap.size < u1004.heap.size := Fmx.lt
      have m0 : u1004.cell? ⟨u1.heap.size, 0, none⟩ = some (.int .i64 W) := cell_of_row _ _ 0 _ _ _ Fmx
      have m1 : u1004.cell? ⟨u1.heap.size, 1, none⟩ = some (.int .i64 H) := cell_of_row _ _ 1 _ _ _ Fmx
      have m2 : u1004.cell? ⟨u1.heap.size, 2, none⟩ = some (.int .i64 P) := cell_of_row _ _ 2 _ _ _ Fmx
      have m3 : u1004.cell? ⟨u1.heap.size, 3, none⟩ = some (.slice A xs.length c) := cell_of_row _ _ 3 _ _ _ Fmx
      clear Fmx
      go_wp2_with fail
      refine (HQ.out A c _ ((S1004).rds (A := A) (xs := xs) (by simp))).mono ?_
      rintro e u1005 ⟨rfl, hB1005⟩
      have S1005 := S1004.call hB1005
      clear ml m0 m1 m2 m3
      clear hB1005 S1004
      go_wp2
      go_ret
      exact ⟨rfl, S1005.1⟩
    · have htd : decide (t < 0) = false := decide_eq_false (by omega)
      have Fmx := S1004.2.2 ⟨u1.heap.size, 27, #[.int .i64 W, .int .i64 H, .int .i64 P, .slice A xs.length c]⟩ (by simp)
      have ml : u1.heap.size < u1004.heap.size := Fmx.lt
      have m0 : u1004.cell? ⟨u1.heap.size, 0, none⟩ = some (.int .i64 W) := cell_of_row _ _ 0 _ _ _ Fmx
      have m1 : u1004.cell? ⟨u1.heap.size, 1, none⟩ = some (.int .i64 H) := cell_of_row _ _ 1 _ _ _ Fmx
      have m2 : u1004.cell? ⟨u1.heap.size, 2, none⟩ = some (.int .i64 P) := cell_of_row _ _ 2 _ _ _ Fmx
      have m3 : u1004.cell? ⟨u1.heap.size, 3, none⟩ = some (.slice A xs.length c) := cell_of_row _ _ 3 _ _ _ Fmx
      clear Fmx
      go_wp2_with fail
      refine (HPal.out A c _ ((S1004).rds (A := A) (xs := xs) (by simp)) hxc).mono ?_
      rintro e u90 ⟨A90, c90, rfl, hc90, hL90, hB90⟩
      have S90 := S1004.call hB90
      clear ml m0 m1 m2 m3
      clear hB90 S1004 HI HQ HPal
      rcases hor with rfl | ⟨rfl, hn2⟩ | ⟨rfl, a, b, rfl, ha0, ha1, hb0, hb1, htt⟩
      · skip
        go_wp2
        go_ret
        exact ⟨rfl, S90.1⟩
      · have hn3 : ¬ (L.length : Int) = 2 := by omega
        clear hn2
        go_wp2
        go_ret
        exact ⟨rfl, S90.1⟩
      · have HS9 := Lib.hid S90
        clear S90
        obtain ⟨gb, goff, A0, c0, rfl, hgb, hc0, hz0, hr0⟩ := hL90.at (i := 0) (by simp)
        obtain ⟨gb2, goff2, A1, c1, he, hgb2, hc1, hz1, hr1⟩ := hL90.at (i := 1) (by simp)
        injection he with he
        injection he with he1 he2 he3
        subst he1
        subst he2
        have hz0 : u90.cell? ⟨gb, goff, none⟩ = some (.slice A0 1 c0) := by simpa using hz0
        have hz1 : u90.cell? ⟨gb, goff + 1, none⟩ = some (.slice A1 1 c1) := by simpa using hz1
        have hr0 : Rds .i64 u90 u90.heap.size A0 [a] := hr0
        have hr1 : Rds .i64 u90 u90.heap.size A1 [b] := hr1
        obtain ⟨b0, f0, rfl, hb0', hq0⟩ := hr0.cells_ (show 0 < 1 by omega)
        obtain ⟨b1, f1, rfl, hb1', hq1⟩ := hr1.cells_ (show 0 < 1 by omega)
        have hq0 : u90.cell? ⟨b0, f0, none⟩ = some (.int .i64 a) := by simpa using hq0 0 (by simp)
        have hq1 : u90.cell? ⟨b1, f1, none⟩ = some (.int .i64 b) := by simpa using hq1 0 (by simp)
        clear hL90 hc0 hc1 hr0 hr1 ht
        have w1 : IntKind.i64.wrap (a + 1) = a + 1 := IntWalk.i64_in _ (by omega)
        have w2 : IntKind.i64.wrap (b + 1) = b + 1 := IntWalk.i64_in _ (by omega)
        by_cases hab : b < a
        · obtain rfl : t = b + 1 := by rw [htt, Int.min_eq_right (by omega)]
          have hd : decide (b < a) = true := decide_eq_true hab
          clear htt
          go_upto_region 10 with fail
          go_region
          all_goals
            (try go_wp2)
            go_ret
            exact ⟨by simp, HS9.out.drew.1⟩
        · obtain rfl : t = a + 1 := by rw [htt, Int.min_eq_left (by omega)]
          have hd : decide (b < a) = false := decide_eq_false hab
          clear htt
          go_upto_region 10 with fail
          go_region
          all_goals
            (try go_wp2)
            go_ret
            exact ⟨by simp, HS9.out.drew.1⟩

/-! ### From the walk to the statement. -/
theorem own : ownKnob Try.prog.godebug = none := by kernel_rfl
theorem laidOut : laidOutB Try.prog = true := by kernel_rfl
set_option maxRecDepth 100000 in
theorem lifted (os : Os) (started : os.Started) (H : Type) (enc : TypeId × Value → H) :
    ReturnsInHanded {} Try.checked os 5 .any (Rows.fnThresholdTwoSpec.pre6 enc Try.prog Try.f5 Rows.fnThresholdTwoRow.domain false) (Rows.fnThresholdTwoSpec.post enc Try.prog Try.f5 false true false false) := by
  refine returnsInHanded_of_change (C := Try.checked) own started (by kernel_rfl) Try.func5
    (ChangeSpec.witness6 (enc := enc) (C := Try.checked) false ⟨#[], #[.slice none 0 0], []⟩ 8 (by kernel_rfl) (by kernel_rfl) (by kernel_rfl) (by kernel_rfl)) ?_
  intro W base args ds gs before hval0 hW hcnd _
  have hval : ∀ (j : Nat) t v, Try.f5.params[j]? = some t → args[j]? = some v → Value.okWide Try.prog W .any base t v := hval0
  have hW' := hW
  obtain ⟨p, q, hA0, hV, rfl, hfz, hnd⟩ := hW
  have hA : DataW.TrodAll enc Try.prog W 0 (fun _ => true) true Try.f5.params.toList args.toList ds p := hA0
  rw [Try.params5] at hA hval
  obtain ⟨v0, vs0, d0, ds0, p0, q0, hargs, rfl, rfl, h0, r0⟩ := trodAll_cons hA
  obtain ⟨rfl, rfl, rfl⟩ := trodAll_nil r0
  obtain rfl : args = #[v0] := by cases args; simp_all
  obtain ⟨rfl, rfl⟩ := trodVars_none hV
  obtain ⟨a0, len0, cap0, rfl⟩ := okWide_slice Try.underlying31 (hval 0 31 v0 rfl rfl)
  have k0 := h0
  have lt0 : ∀ x ∈ p0, x.block < W.heap.size := by obtain ⟨m, hm⟩ := k0; exact DataW.trod_lt m _ _ _ hm
  obtain ⟨z0, hl0, hc0, w0⟩ : ∃ zs : List Int, len0 = zs.length ∧ zs.length ≤ cap0 ∧ Rdw .u8 W W.heap.size a0 zs := by
    obtain ⟨fuel, hf⟩ := h0
    rcases open_ints Try.underlying31 Try.underlying5 (by kernel_rfl) hf with ⟨hcs, _⟩ | ⟨x, l, c, zs, hcs, _, hl, hm, hz, _, hcell, hwz⟩
    · simp [Value.cells] at hcs
      obtain ⟨rfl, rfl, rfl⟩ := hcs
      exact ⟨[], rfl, Nat.le_refl _, Rdw.nil⟩
    · simp [Value.cells] at hcs
      obtain ⟨rfl, rfl, rfl⟩ := hcs
      exact ⟨zs.take len0, by simp at hz ⊢; omega, by simp at hz ⊢; omega, Rdw.of_row hl hm (by simpa using hz) hcell hwz⟩
  subst hl0
  clear hA0 hval0
  refine (walk W a0 cap0 z0 hc0 w0).mono fun e W' ⟨he, bel⟩ => ?_
  subst he
  exact ⟨_, rfl, _, _, _, [], _, [], hW', trodAll_mk1 (shut_bool Try.underlying4 _), (trodAll_cons_mk (Below.trod laidOut (by kernel_rfl) (of_decide_eq_true (by kernel_rfl)) k0 bel lt0) trodAll_mk0), rfl, bel.frame _, fun h => by cases h⟩

theorem over : Rows.fnThresholdTwoRow.holds Try.pinned (OpenSpec.ofChange Rows.fnThresholdTwoSpec) :=
  OpenClaim.holds_of_wide 5 Try.f5 rfl rfl rfl rfl rfl rfl rfl ⟨rfl, rfl, rfl, rfl, rfl⟩ rfl rfl rfl rfl rfl (by kernel_rfl) Try.func5 (by kernel_rfl)
    (of_decide_eq_true (by kernel_rfl)) (by unfold Func.isWrapper; first | (rw [if_pos (by decide +kernel)]; kernel_rfl) | (rw [if_neg (by decide +kernel)]; exact ⟨rfl, rfl⟩))
    (fun os started H enc _ => lifted os started H enc)

theorem proved : Rows.FnThresholdTwoSaid := over
end Go.Proofs.Ytaejhodikpjeoaa.fnThresholdTwo
