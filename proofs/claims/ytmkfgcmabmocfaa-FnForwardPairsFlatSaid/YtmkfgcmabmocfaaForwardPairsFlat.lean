/- Whatever the code: ForwardPairs of the drawn list answers what the model answers, and of equal numbers it has the number for each pair and zeros behind. -/
import Derived.Test.YtmkfgcmabmocfaaRows
import Derived.WalkKit
import Derived.ProofKit
import Derived.OpenShut
import Derived.ShutString
import Derived.ChangeOld
import Derived.Below
import Derived.Test.YtmkfgcmabmocfaaPrsW
import Derived.Deep.QuietTactic
import Derived.BigQuiet
namespace Go.Proofs.Ytmkfgcmabmocfaa.fnForwardPairsFlat
open Go.ChangeShapes Go.WideShapes Go.ChangeAt Go.RowKit
open Go.ChangeMaps (open_string shut_string)
set_option linter.unusedVariables false

set_option linter.unusedSimpArgs false
set_option maxRecDepth 20000
set_option maxHeartbeats 16000000 in
theorem walk (w : World) (a0 : Option Addr) (cap0 : Nat) (z0 : List Int) (hc0 : z0.length ≤ cap0) (w0 : Rdw .u8 w w.heap.size a0 z0) :
    Calls Try.prog 5 #[.slice a0 z0.length cap0] w fun e w' => e = .returned (.bool true) ∧ Below w.heap.size w w' := by
  have hm := w0.2.1
  unfold maxLen at hm
  by_cases hlen : 1048576 < z0.length
  · go_enter Try.func5, Try.ntmps5
    go_wp2
    go_ret
    exact ⟨rfl, Below.refl _ _⟩
  · go_enter Try.func5, Try.ntmps5
    go_wp2_with fail
    refine (dFw_any a0 cap0 z0 w hc0 w0).mono ?_
    rintro e u1 ⟨A, c, xs, rfl, hxc, hxl, hr, hbel⟩
    have S1 := Lib.hid (Rws.start hbel hr)
    obtain ⟨ys, hyl, HI, HS, hor⟩ := fw_law xs hxl
    clear w0 hr hbel hm
    go_wp2_with fail
    refine (HI.out A c u1 (S1.out.rds (by simp))).mono ?_
    rintro e u2 ⟨v2, rfl, hO2, hB2⟩
    obtain ⟨A2, c2, rfl, _⟩ := hO2.slice
    have S2 := Lib.hid (S1.out.add hO2 hB2)
    clear hO2 hB2 S1
    go_wp2_with fail
    refine (HS.out A c u2 (S2.out.rds (by simp))).mono ?_
    rintro e u3 ⟨v3, rfl, hO3, hB3⟩
    obtain ⟨A3, c3, rfl, _⟩ := hO3.slice
    have S3 := Lib.hid (S2.out.add hO3 hB3)
    clear hO3 hB3 S2
    go_wp2_with fail
    refine (lEq_same A2 A3 c2 c3 ys u3 (S3.out.rds (by simp)) (S3.out.rds (by simp)) (by omega)).mono ?_
    rintro e u4 ⟨rfl, n4, rfl⟩
    have S4 := Lib.hid (S3.out.drewN n4)
    clear S3
    generalize u3.drewN n4 = u4 at *
    rcases hor with h0 | ⟨h0, hyx, HP, HK⟩
    · have hI0 : (ys.length : Int) = 0 := by omega
      clear h0
      go_wp2_with fail
      refine (HS.out A c u4 (S4.out.rds (by simp))).mono ?_
      rintro e u5 ⟨v5, rfl, hO5, hB5⟩
      obtain ⟨A5, c5, rfl, _⟩ := hO5.slice
      have S5 := Lib.hid (S4.out.add hO5 hB5)
      clear hO5 hB5 S4
      go_wp2_with fail
      refine (lEq_same A2 A5 c2 c5 ys u5 (S5.out.rds (by simp)) (S5.out.rds (by simp)) (by omega)).mono ?_
      rintro e u6 ⟨rfl, n6, rfl⟩
      have S6 := Lib.hid (S5.out.drewN n6)
      clear S5
      go_wp2
      go_ret
      exact ⟨rfl, S6.out.1⟩
    · have hI0 : ¬ ((ys.length : Int) = 0) := by omega
      have hb0 : ((ys.length : Int) == 0) = false := beq_eq_false_iff_ne.2 hI0
      obtain ⟨x, hx⟩ : ∃ x, x = xs.getD 0 0 := ⟨_, rfl⟩
      have hn0 : xs.length ≠ 0 := by omega
      obtain ⟨zs, hzl, HZ, hz⟩ := flat_law x xs xs.length HP.out rfl hx hn0
      have HZ2 : Hid (∀ (A : Option Addr) (c : Nat) (w : World), Rds .i64 w w.heap.size A (List.replicate xs.length x) → Calls Try.prog 16 #[.slice A xs.length c] w (Made zs w)) := Lib.hid (fun A c w hr => by
        have := HZ.out A c w hr
        rwa [List.length_replicate] at this)
      have Hz := Lib.hid hz
      have Hzl := Lib.hid hzl
      have Hx := Lib.hid hx
      obtain ⟨base, hbase⟩ : ∃ b, b = u4.heap.size := ⟨_, rfl⟩
      have HI0 : Hid (Own (u4.alloc (.cells #[] 3)) base (.slice (some ⟨base, 0, none⟩) 0 0) (List.replicate 0 x) ∧ Below base u4 (u4.alloc (.cells #[] 3))) := Lib.hid ⟨by rw [hbase]; exact own_none u4, by rw [hbase]; exact (Below.refl _ _).alloc (Nat.le_refl _) _⟩
      have HBase := Lib.hid hbase
      clear hyx h0 HP HK HZ hz hzl hx
      go_wp2
      rw [← HBase.out]
      generalize u4.alloc (.cells #[] 3) = u7 at *
      clear hbase
      go_loopw [5, 6] (fun v i wr => ∃ k : Nat, k ≤ xs.length ∧ i = .int .i64 (k : Int) ∧ Hid (Own wr base v (List.replicate k x) ∧ Below base u4 wr)) (fun _ i _ => xs.length - (intOf i).toNat)
      case atStart => exact ⟨0, Nat.zero_le _, rfl, HI0⟩
      case round =>
        obtain ⟨k, hk, rfl, hI⟩ := hrel
        clear HI0
        obtain ⟨A1, c1, rfl, hc1⟩ := hI.out.1.slice
        simp only [List.length_replicate] at hc1 hI ⊢
        have HB := Lib.hid (show Below u4.heap.size u4 _ from (by rw [← HBase.out]; exact hI.out.2))
        have SW := Lib.hid (S4.out.call HB.out)
        by_cases hlt : k < xs.length
        · obtain ⟨b, off, rfl, hb, hcc⟩ := (SW.out.rds (A := A) (xs := xs) (by simp)).cells_ (j := 0) (by omega)
          have c0 := hcc 0 (by omega)
          rw [← Hx.out, Nat.add_zero] at c0
          have hn0I : (0 : Int) < (xs.length : Int) := by omega
          have HO := Lib.hid (hI.out.1.alloc (.cells #[.int .i64 x] 3))
          have HQ := Lib.hid (rds_one wr x)
          have HZw : Hid (base ≤ u4.heap.size) := Lib.hid (by have := HBase.out; omega)
          have hsz := hI.out.2.size
          have HLE : Hid (List.replicate k x ++ [x] = List.replicate (k + 1) x) := Lib.hid (List.replicate_succ' ..).symm
          have HI2 := hI.out.2
          have HBel := Lib.hid HI2
          clear hcc hI HI2
          go_wp2_with (at_builtin; refine wpList_app rfl (.tmp 37) (.tmp 41) rfl base (.slice A1 k c1) (List.replicate k x) rfl HO.out (some ⟨wr.heap.size, 0, none⟩) 1 1 _ [x] rfl rfl HQ.out (by rw [List.length_replicate]; simp; omega) (by have := HZw.out; simp; omega) ?_; intro v3 w3 hO3 hG3)
          have hN : Own w3 base v3 (List.replicate (k + 1) x) := by rw [← HLE.out]; exact hO3
          have hB3 := (HBel.out.alloc (by have := HZw.out; omega) (.cells #[.int .i64 x] 3)).grown hG3 (by have := HZw.out; simp; omega) (fun j hj => (HO.out.lt j hj).1)
          have HN := Lib.hid (And.intro hN hB3)
          clear hO3 hG3 hN hB3 c0
          go_roundw
          case rel => exact ⟨k + 1, by omega, by go_num, HN⟩
          case measure => simp [intOf]; omega
        · have hke : k = xs.length := by omega
          subst hke
          have HR := Lib.hid hI.out.1.rds.2
          clear hI hc1
          go_wp2_with fail
          refine (HZ2.out A1 c1 _ HR.out).mono ?_
          rintro e u8 ⟨v8, rfl, hO8, hB8⟩
          obtain ⟨A8, c8, rfl, _⟩ := hO8.slice
          have S8 := Lib.hid (SW.out.add hO8 hB8)
          clear hO8 hB8 SW HB HR
          obtain ⟨hf, hhf⟩ : ∃ hf : Nat, hf = (xs.length + 1) / 2 := ⟨_, rfl⟩
          have HHf := Lib.hid hhf
          have r1 : ((xs.length : Int) + 1).tdiv 2 = (hf : Int) := by rw [Int.tdiv_eq_ediv_of_nonneg (by omega)]; omega
          have r2 : ((xs.length : Int) + 1) / 2 = (hf : Int) := by omega
          have r3 : IntKind.i64.wrap (hf : Int) = (hf : Int) := IntWalk.i64_in _ (by omega)
          have r4 : IntKind.i64.wrap ((xs.length : Int) + 1) = (xs.length : Int) + 1 := IntWalk.i64_in _ (by omega)
          have hn0I : (0 : Int) < (xs.length : Int) := by omega
          rw [Hzl.out]
          clear hhf hlt
          go_wp2
          go_loopw [8] (fun i wr => ∃ p : Nat, p ≤ xs.length ∧ i = .int .i64 (p : Int) ∧ Hid (Rws w wr ((A8, zs) :: [(A3, ys), (A2, ys), (A, xs)]))) (fun i _ => xs.length - (intOf i).toNat)
          case atStart => exact ⟨0, Nat.zero_le _, rfl, S8⟩
          case round =>
            obtain ⟨p, hp, rfl, hS⟩ := hrel
            clear S8
            by_cases hlt : p < xs.length
            · obtain ⟨b, off, rfl, hb, hcc⟩ := (hS.out.rds (A := A) (xs := xs) (by simp)).cells_ (j := 0) (by omega)
              have c0 := hcc 0 (by omega)
              rw [← Hx.out, Nat.add_zero] at c0
              obtain ⟨b8, off8, rfl, hb8, hcc8⟩ := (hS.out.rds (A := A8) (xs := zs) (by simp)).cells_ (j := p) (by rw [Hzl.out]; exact hlt)
              have c8' := hcc8 p (by rw [Hzl.out]; exact hlt)
              rw [Hz.out p hlt, ← HHf.out] at c8'
              have hpI : (p : Int) < (xs.length : Int) := by omega
              clear hcc hcc8
              have k1 : (x != x) = false := by simp
              have k2 : (x == x) = true := by simp
              have k3 : 0 < xs.length := by omega
              have k4 : decide (0 < xs.length) = true := decide_eq_true k3
              by_cases hpf : p < hf
              · rw [if_pos hpf] at c8'
                have g1 : (p : Int) < (hf : Int) := by omega
                have g2 : ¬ ((hf : Int) ≤ (p : Int)) := by omega
                have g3 : decide ((hf : Int) ≤ (p : Int)) = false := decide_eq_false g2
                have g4 : decide (hf ≤ p) = false := decide_eq_false (by omega)
                have g5 : decide (p < hf) = true := decide_eq_true hpf
                clear hpf
                go_wp2
                go_quiet (fail)
                go_wp2
                go_roundw
                case rel => exact ⟨p + 1, by omega, by go_num, Lib.hid (hS.out.drewN _)⟩
                case measure => simp [intOf]; omega
              · rw [if_neg hpf] at c8'
                have g1 : ¬ ((p : Int) < (hf : Int)) := by omega
                have g2 : (hf : Int) ≤ (p : Int) := by omega
                have g3 : decide ((p : Int) < (hf : Int)) = false := decide_eq_false g1
                have g4 : decide (p < hf) = false := decide_eq_false hpf
                have g5 : decide (hf ≤ p) = true := decide_eq_true (by omega)
                clear hpf
                go_wp2
                go_quiet (fail)
                go_wp2
                go_roundw
                case rel => exact ⟨p + 1, by omega, by go_num, Lib.hid (hS.out.drewN _)⟩
                case measure => simp [intOf]; omega
            · have HE := Lib.hid hS.out.1
              clear hS
              go_wp2
              go_ret
              exact ⟨by first | rfl | simp, HE.out⟩

/-! ### From the walk to the statement. -/
theorem own : ownKnob Try.prog.godebug = none := by kernel_rfl
theorem laidOut : laidOutB Try.prog = true := by kernel_rfl
set_option maxRecDepth 100000 in
theorem lifted (os : Os) (started : os.Started) (H : Type) (enc : TypeId × Value → H) :
    ReturnsInHanded {} Try.checked os 5 .any (Rows.fnForwardPairsFlatSpec.pre6 enc Try.prog Try.f5 Rows.fnForwardPairsFlatRow.domain false) (Rows.fnForwardPairsFlatSpec.post enc Try.prog Try.f5 false true false false) := by
  refine returnsInHanded_of_change (C := Try.checked) own started (by kernel_rfl) Try.func5
    (ChangeSpec.witness6 (enc := enc) (C := Try.checked) false ⟨#[], #[.slice none 0 0], []⟩ 8 (by kernel_rfl) (by kernel_rfl) (by kernel_rfl) (by kernel_rfl)) ?_
  intro W base args ds gs before hval0 hW hcnd _
  have hval : ∀ (j : Nat) t v, Try.f5.params[j]? = some t → args[j]? = some v → Value.okWide Try.prog W .any base t v := hval0
  have hW' := hW
  obtain ⟨p, q, hA0, hV, rfl, hfz, hnd⟩ := hW
  have hA : DataW.TrodAll enc Try.prog W 0 (fun _ => true) true Try.f5.params.toList args.toList ds p := hA0
  rw [Try.params5] at hA hval
  obtain ⟨v0, vs0, d0, ds0, p0, q0, hargs, rfl, rfl, h0, r0⟩ := trodAll_cons hA
  obtain ⟨rfl, rfl, rfl⟩ := trodAll_nil r0
  obtain rfl : args = #[v0] := by cases args; simp_all
  obtain ⟨rfl, rfl⟩ := trodVars_none hV
  obtain ⟨a0, len0, cap0, rfl⟩ := okWide_slice Try.underlying22 (hval 0 22 v0 rfl rfl)
  have k0 := h0
  have lt0 : ∀ x ∈ p0, x.block < W.heap.size := by obtain ⟨m, hm⟩ := k0; exact DataW.trod_lt m _ _ _ hm
  obtain ⟨z0, hl0, hc0, w0⟩ : ∃ zs : List Int, len0 = zs.length ∧ zs.length ≤ cap0 ∧ Rdw .u8 W W.heap.size a0 zs := by
    obtain ⟨fuel, hf⟩ := h0
    rcases open_ints Try.underlying22 Try.underlying5 (by kernel_rfl) hf with ⟨hcs, _⟩ | ⟨x, l, c, zs, hcs, _, hl, hm, hz, _, hcell, hwz⟩
    · simp [Value.cells] at hcs
      obtain ⟨rfl, rfl, rfl⟩ := hcs
      exact ⟨[], rfl, Nat.le_refl _, Rdw.nil⟩
    · simp [Value.cells] at hcs
      obtain ⟨rfl, rfl, rfl⟩ := hcs
      exact ⟨zs.take len0, by simp at hz ⊢; omega, by simp at hz ⊢; omega, Rdw.of_row hl hm (by simpa using hz) hcell hwz⟩
  subst hl0
  clear hA0 hval0
  refine (walk W a0 cap0 z0 hc0 w0).mono fun e W' ⟨he, bel⟩ => ?_
  subst he
  exact ⟨_, rfl, _, _, _, [], _, [], hW', trodAll_mk1 (shut_bool Try.underlying4 _), (trodAll_cons_mk (Below.trod laidOut (by kernel_rfl) (of_decide_eq_true (by kernel_rfl)) k0 bel lt0) trodAll_mk0), rfl, bel.frame _, fun h => by cases h⟩

theorem over : Rows.fnForwardPairsFlatRow.holds Try.pinned (OpenSpec.ofChange Rows.fnForwardPairsFlatSpec) :=
  OpenClaim.holds_of_wide 5 Try.f5 rfl rfl rfl rfl rfl rfl rfl ⟨rfl, rfl, rfl, rfl, rfl⟩ rfl rfl rfl rfl rfl (by kernel_rfl) Try.func5 (by kernel_rfl)
    (of_decide_eq_true (by kernel_rfl)) (by unfold Func.isWrapper; first | (rw [if_pos (by decide +kernel)]; kernel_rfl) | (rw [if_neg (by decide +kernel)]; exact ⟨rfl, rfl⟩))
    (fun os started H enc _ => lifted os started H enc)

theorem proved : Rows.FnForwardPairsFlatSaid := over
end Go.Proofs.Ytmkfgcmabmocfaa.fnForwardPairsFlat
