/- Whatever the code: ThresholdOf of the drawn image answers what the model answers, and where there is a threshold, it is 0 where all numbers are equal, and else some lie below it and some do not. -/
import Derived.Test.YtaejhodikpjeoaaRows
import Derived.WalkKit
import Derived.ProofKit
import Derived.OpenShut
import Derived.ShutString
import Derived.ChangeOld
import Derived.Below
import Derived.Test.YtaejhodikpjeoaaThrL
import Derived.Test.YtaejhodikpjeoaaDrawHis
import Derived.Test.YtaejhodikpjeoaaLSt
import Derived.Test.YtaejhodikpjeoaaOkJ
import Derived.Deep.RegionHeld3
import Derived.BigQuiet
namespace Go.Proofs.Ytaejhodikpjeoaa.fnThresholdOf
open Go.ChangeShapes Go.WideShapes Go.ChangeAt Go.RowKit
open Go.ChangeMaps (open_string shut_string)
set_option linter.unusedVariables false

set_option linter.unusedSimpArgs false
set_option maxRecDepth 20000
set_option maxHeartbeats 16000000 in
theorem walk (w : World) (a0 : Option Addr) (cap0 : Nat) (z0 : List Int) (hc0 : z0.length ≤ cap0) (w0 : Rdw .u8 w w.heap.size a0 z0) :
    Calls Try.prog 4 #[.slice a0 z0.length cap0] w fun e w' => e = .returned (.bool true) ∧ Below w.heap.size w w' := by
  have hm := w0.2.1
  unfold maxLen at hm
  by_cases hlen : 1048576 < z0.length
  · go_enter Try.func4, Try.ntmps4
    go_wp2
    go_ret
    exact ⟨rfl, Below.refl _ _⟩
  · go_enter Try.func4, Try.ntmps4
    go_wp2_with fail
    refine (drawThr_any a0 cap0 z0 w hc0 w0).mono ?_
    rintro e u1 ⟨W, H, P, A, c, xs, rfl, hx, hxc, hr, hbel⟩
    have S1 : LSt w u1 [(A, xs)] [] := (LSt.start hbel).add hr
    obtain ⟨t, HI, HQ, hor⟩ := thr_law W H P xs hx
    clear w0 hr hbel hm
    have S1001 : LSt w (u1.alloc (.cells #[.int .i64 W, .int .i64 H, .int .i64 P, .slice A xs.length c] 27)) [(A, xs)] [⟨u1.heap.size, 27, #[.int .i64 W, .int .i64 H, .int .i64 P, .slice A xs.length c]⟩] := LSt.box2 S1 27 #[.int .i64 W, .int .i64 H, .int .i64 P, .slice A xs.length c] u1.heap.size (by simp)
    go_wp2_with fail
    clear S1
    generalize u1.alloc (.cells #[.int .i64 W, .int .i64 H, .int .i64 P, .slice A xs.length c] 27) = u1002 at *
    have Fmx := S1001.2.2 ⟨u1.heap.size, 27, #[.int .i64 W, .int .i64 H, .int .i64 P, .slice A xs.length c]⟩ (by simp)
    have ml : u1.heap.size < u1002.heap.size := Fmx.lt
    have m0 : u1002.cell? ⟨u1.heap.size, 0, none⟩ = some (.int .i64 W) := cell_of_row _ _ 0 _ _ _ Fmx
    have m1 : u1002.cell? ⟨u1.heap.size, 1, none⟩ = some (.int .i64 H) := cell_of_row _ _ 1 _ _ _ Fmx
    have m2 : u1002.cell? ⟨u1.heap.size, 2, none⟩ = some (.int .i64 P) := cell_of_row _ _ 2 _ _ _ Fmx
    have m3 : u1002.cell? ⟨u1.heap.size, 3, none⟩ = some (.slice A xs.length c) := cell_of_row _ _ 3 _ _ _ Fmx
    clear Fmx
    go_wp2_with fail
    refine (HI.out A c _ ((S1001).rds (A := A) (xs := xs) (by simp))).mono ?_
    rintro e u1003 ⟨rfl, hB1003⟩
    have S1003 := S1001.call hB1003
    clear ml m0 m1 m2 m3
    clear hB1003 S1001
    have Fmx := S1003.2.2 ⟨u1.heap.size, 27, #[.int .i64 W, .int .i64 H, .int .i64 P, .slice A xs.length c]⟩ (by simp)
    have ml : u1.heap.size < u1003.heap.size := Fmx.lt
    have m0 : u1003.cell? ⟨u1.heap.size, 0, none⟩ = some (.int .i64 W) := cell_of_row _ _ 0 _ _ _ Fmx
    have m1 : u1003.cell? ⟨u1.heap.size, 1, none⟩ = some (.int .i64 H) := cell_of_row _ _ 1 _ _ _ Fmx
    have m2 : u1003.cell? ⟨u1.heap.size, 2, none⟩ = some (.int .i64 P) := cell_of_row _ _ 2 _ _ _ Fmx
    have m3 : u1003.cell? ⟨u1.heap.size, 3, none⟩ = some (.slice A xs.length c) := cell_of_row _ _ 3 _ _ _ Fmx
    clear Fmx
    go_wp2_with fail
    refine (HQ.out A c _ ((S1003).rds (A := A) (xs := xs) (by simp))).mono ?_
    rintro e u1004 ⟨rfl, hB1004⟩
    have S1004 := S1003.call hB1004
    clear ml m0 m1 m2 m3
    clear hB1004 S1003
    rcases hor with ht | ⟨ht, hpos, HE, HL⟩
    · have htd : decide (t < 0) = true := decide_eq_true ht
      have Fmx := S1004.2.2 ⟨u1.heap.size, 27, #[.int .i64 W, .int .i64 H, .int .i64 P, .slice A xs.length c]⟩ (by simp)
      have ml : u1.heap.size < u1004.heap.size := Fmx.lt
      have m0 : u1004.cell? ⟨u1.heap.size, 0, none⟩ = some (.int .i64 W) := cell_of_row _ _ 0 _ _ _ Fmx
      have m1 : u1004.cell? ⟨u1.heap.size, 1, none⟩ = some (.int .i64 H) := cell_of_row _ _ 1 _ _ _ Fmx
      have m2 : u1004.cell? ⟨u1.heap.size, 2, none⟩ = some (.int .i64 P) := cell_of_row _ _ 2 _ _ _ Fmx
      have m3 : u1004.cell? ⟨u1.heap.size, 3, none⟩ = some (.slice A xs.length c) := cell_of_row _ _ 3 _ _ _ Fmx
      clear Fmx
      go_wp2_with fail
      refine (HQ.out A c _ ((S1004).rds (A := A) (xs := xs) (by simp))).mono ?_
      rintro e u1005 ⟨rfl, hB1005⟩
      have S1005 := S1004.call hB1005
      clear ml m0 m1 m2 m3
      clear hB1005 S1004
      go_wp2
      go_ret
      exact ⟨rfl, S1005.1⟩
    · have htd : decide (t < 0) = false := decide_eq_false (by omega)
      have HI0 := Lib.hid S1004
      clear S1004 HI HQ
      go_wp2
      go_loopw [5, 6, 7] (fun b s i wr => ∃ k : Nat, k ≤ xs.length ∧ i = .int .i64 k ∧ b = .int .i64 (blw xs t k) ∧ s = .bool (smY xs k) ∧ Hid (LSt w wr [(A, xs)] [⟨u1.heap.size, 27, #[.int .i64 W, .int .i64 H, .int .i64 P, .slice A xs.length c]⟩])) (fun _ _ i _ => xs.length - (intOf i).toNat)
      case atStart => exact ⟨0, Nat.zero_le _, rfl, rfl, rfl, HI0⟩
      case round =>
        clear HI0
        obtain ⟨k, hk, rfl, rfl, rfl, hI⟩ := hrel
        rename World => wv
        have FM := hI.out.2.2 ⟨u1.heap.size, 27, #[.int .i64 W, .int .i64 H, .int .i64 P, .slice A xs.length c]⟩ (by simp)
        have ml := FM.lt
        have m0 : wv.cell? ⟨u1.heap.size, 0, none⟩ = some (.int .i64 W) := cell_of_row _ _ 0 _ _ _ FM
        have m1 : wv.cell? ⟨u1.heap.size, 1, none⟩ = some (.int .i64 H) := cell_of_row _ _ 1 _ _ _ FM
        have m2 : wv.cell? ⟨u1.heap.size, 2, none⟩ = some (.int .i64 P) := cell_of_row _ _ 2 _ _ _ FM
        have m3 : wv.cell? ⟨u1.heap.size, 3, none⟩ = some (.slice A xs.length c) := cell_of_row _ _ 3 _ _ _ FM
        clear FM
        have hbd := blw_bd xs t k
        by_cases hlt : k < xs.length
        · have hbd2 : blw xs t k ≤ 256 := by omega
          obtain ⟨b1, f1, hA1, hb1, hc1⟩ := (hI.out.rds (A := A) (xs := xs) (by simp)).cells_ hlt
          subst hA1
          have c1 : wv.cell? ⟨b1, f1 + k, none⟩ = _ := hc1 k hlt
          have c3 := hc1 0 hpos
          rw [Nat.add_zero] at c3
          have q1 : (k : Int) < (xs.length : Int) := by omega
          have q3 : (0 : Int) < (xs.length : Int) := by omega
          have HN := Lib.hid hI.out
          have HB1 : Hid (xs.getD k 0 < t → blw xs t (k + 1) = blw xs t k + 1) := Lib.hid (fun h => if_pos h)
          have HB2 : Hid (¬ xs.getD k 0 < t → blw xs t (k + 1) = blw xs t k) := Lib.hid (fun h => if_neg h)
          have HE3 : Hid (smY xs (k + 1) = (smY xs k && (xs.getD k 0 == xs.getD 0 0))) := Lib.hid rfl
          clear hc1 hI
          generalize xs.getD k 0 = x at *
          generalize xs.getD 0 0 = x0 at *
          generalize blw xs t k = b at *
          generalize smY xs k = E at *
          have hw : IntKind.i64.wrap (b + 1) = b + 1 := IntWalk.i64_in _ (by omega)
          by_cases hc : x < t
          · have hcd : decide (x < t) = true := decide_eq_true hc
            have HK := Lib.hid (HB1.out hc)
            clear HB1 HB2
            go_upto_region 14 with fail
            cases he : (x == x0)
            all_goals
              rw [he] at HE3
              cases E
              all_goals
                go_quiet (fail)
                go_wp2
                go_roundw
                case rel => exact ⟨k + 1, by omega, by go_num, by rw [HK.out], by rw [HE3.out]; rfl, by first | exact HN | exact Lib.hid (HN.out.drewN _)⟩
                case measure => simp [intOf]; omega
          · have hcd : decide (x < t) = false := decide_eq_false hc
            have HK := Lib.hid (HB2.out hc)
            clear HB1 HB2
            go_upto_region 14 with fail
            cases he : (x == x0)
            all_goals
              rw [he] at HE3
              cases E
              all_goals
                go_quiet (fail)
                go_wp2
                go_roundw
                case rel => exact ⟨k + 1, by omega, by go_num, by rw [HK.out], by rw [HE3.out]; rfl, by first | exact HN | exact Lib.hid (HN.out.drewN _)⟩
                case measure => simp [intOf]; omega
        · obtain rfl : k = xs.length := by omega
          have q1 : ¬ (xs.length : Int) < (xs.length : Int) := by omega
          cases hE : smY xs xs.length
          · obtain ⟨l0, l1⟩ := HL.out hE
            generalize blw xs t xs.length = b at *
            have d0 : decide (0 < b) = true := decide_eq_true l0
            have d1 : decide (b < (xs.length : Int)) = true := decide_eq_true l1
            clear hE
            go_wp2
            go_ret
            exact ⟨rfl, hI.out.1⟩
          · have t0 := HE.out hE
            subst t0
            generalize blw xs 0 xs.length = b at *
            clear hE
            go_wp2
            go_ret
            exact ⟨rfl, hI.out.1⟩

/-! ### From the walk to the statement. -/
theorem own : ownKnob Try.prog.godebug = none := by kernel_rfl
theorem laidOut : laidOutB Try.prog = true := by kernel_rfl
set_option maxRecDepth 100000 in
theorem lifted (os : Os) (started : os.Started) (H : Type) (enc : TypeId × Value → H) :
    ReturnsInHanded {} Try.checked os 4 .any (Rows.fnThresholdOfSpec.pre6 enc Try.prog Try.f4 Rows.fnThresholdOfRow.domain false) (Rows.fnThresholdOfSpec.post enc Try.prog Try.f4 false true false false) := by
  refine returnsInHanded_of_change (C := Try.checked) own started (by kernel_rfl) Try.func4
    (ChangeSpec.witness6 (enc := enc) (C := Try.checked) false ⟨#[], #[.slice none 0 0], []⟩ 8 (by kernel_rfl) (by kernel_rfl) (by kernel_rfl) (by kernel_rfl)) ?_
  intro W base args ds gs before hval0 hW hcnd _
  have hval : ∀ (j : Nat) t v, Try.f4.params[j]? = some t → args[j]? = some v → Value.okWide Try.prog W .any base t v := hval0
  have hW' := hW
  obtain ⟨p, q, hA0, hV, rfl, hfz, hnd⟩ := hW
  have hA : DataW.TrodAll enc Try.prog W 0 (fun _ => true) true Try.f4.params.toList args.toList ds p := hA0
  rw [Try.params4] at hA hval
  obtain ⟨v0, vs0, d0, ds0, p0, q0, hargs, rfl, rfl, h0, r0⟩ := trodAll_cons hA
  obtain ⟨rfl, rfl, rfl⟩ := trodAll_nil r0
  obtain rfl : args = #[v0] := by cases args; simp_all
  obtain ⟨rfl, rfl⟩ := trodVars_none hV
  obtain ⟨a0, len0, cap0, rfl⟩ := okWide_slice Try.underlying31 (hval 0 31 v0 rfl rfl)
  have k0 := h0
  have lt0 : ∀ x ∈ p0, x.block < W.heap.size := by obtain ⟨m, hm⟩ := k0; exact DataW.trod_lt m _ _ _ hm
  obtain ⟨z0, hl0, hc0, w0⟩ : ∃ zs : List Int, len0 = zs.length ∧ zs.length ≤ cap0 ∧ Rdw .u8 W W.heap.size a0 zs := by
    obtain ⟨fuel, hf⟩ := h0
    rcases open_ints Try.underlying31 Try.underlying5 (by kernel_rfl) hf with ⟨hcs, _⟩ | ⟨x, l, c, zs, hcs, _, hl, hm, hz, _, hcell, hwz⟩
    · simp [Value.cells] at hcs
      obtain ⟨rfl, rfl, rfl⟩ := hcs
      exact ⟨[], rfl, Nat.le_refl _, Rdw.nil⟩
    · simp [Value.cells] at hcs
      obtain ⟨rfl, rfl, rfl⟩ := hcs
      exact ⟨zs.take len0, by simp at hz ⊢; omega, by simp at hz ⊢; omega, Rdw.of_row hl hm (by simpa using hz) hcell hwz⟩
  subst hl0
  clear hA0 hval0
  refine (walk W a0 cap0 z0 hc0 w0).mono fun e W' ⟨he, bel⟩ => ?_
  subst he
  exact ⟨_, rfl, _, _, _, [], _, [], hW', trodAll_mk1 (shut_bool Try.underlying4 _), (trodAll_cons_mk (Below.trod laidOut (by kernel_rfl) (of_decide_eq_true (by kernel_rfl)) k0 bel lt0) trodAll_mk0), rfl, bel.frame _, fun h => by cases h⟩

theorem over : Rows.fnThresholdOfRow.holds Try.pinned (OpenSpec.ofChange Rows.fnThresholdOfSpec) :=
  OpenClaim.holds_of_wide 4 Try.f4 rfl rfl rfl rfl rfl rfl rfl ⟨rfl, rfl, rfl, rfl, rfl⟩ rfl rfl rfl rfl rfl (by kernel_rfl) Try.func4 (by kernel_rfl)
    (of_decide_eq_true (by kernel_rfl)) (by unfold Func.isWrapper; first | (rw [if_pos (by decide +kernel)]; kernel_rfl) | (rw [if_neg (by decide +kernel)]; exact ⟨rfl, rfl⟩))
    (fun os started H enc _ => lifted os started H enc)

theorem proved : Rows.FnThresholdOfSaid := over
end Go.Proofs.Ytaejhodikpjeoaa.fnThresholdOf
