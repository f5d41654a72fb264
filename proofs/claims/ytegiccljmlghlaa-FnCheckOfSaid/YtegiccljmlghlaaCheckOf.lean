/- Whatever the code: CheckOf of the drawn list answers what the model answers, and where the list is valid, the check changes when one byte is replaced by one that is greater or less by 1, and it is below 65536. -/
import Derived.Test.YtegiccljmlghlaaRows
import Derived.WalkKit
import Derived.ProofKit
import Derived.OpenShut
import Derived.ShutString
import Derived.ChangeOld
import Derived.Below
import Derived.Test.YtegiccljmlghlaaCheckL
import Derived.Test.YtegiccljmlghlaaDrawBytes
import Derived.Deep.QuietTactic
import Derived.BigQuiet
namespace Go.Proofs.Ytegiccljmlghlaa.fnCheckOf
open Go.ChangeShapes Go.WideShapes Go.ChangeAt Go.RowKit
open Go.ChangeMaps (open_string shut_string)
set_option linter.unusedVariables false

theorem i_CheckOf_r (A : Option Addr) (c B m : Nat) (xs : List Int) (w : World) (hm : m = xs.length) (hx : Rds .i64 w B A xs) (hl : m ≤ 10000000) :
    Calls Try.prog 37 #[.slice A m c] w fun e w' => e = .returned (.int .i64 (chk xs)) ∧ w = w' := by
  subst hm; exact i_CheckOf A c B xs w hx hl
theorem s_CheckOf_r (A : Option Addr) (c B m : Nat) (xs : List Int) (w : World) (hm : m = xs.length) (hx : Rds .i64 w B A xs) (hl : m ≤ 10000000) :
    Calls Try.prog 38 #[.slice A m c] w fun e w' => e = .returned (.int .i64 (chk xs)) ∧ w = w' := by
  subst hm; exact s_CheckOf A c B xs w hx hl
theorem i_CheckOf_at (A : Option Addr) (c B m : Nat) (xs : List Int) (w : World) (hm : m = xs.length) {base : Nat} (hO : Own w base (.slice A m c) xs) (hl : xs.length ≤ 10000000) :
    Calls Try.prog 37 #[.slice A m c] w fun e w' => e = .returned (.int .i64 (chk xs)) ∧ w = w' := by
  have h := i_CheckOf A c w.heap.size xs w hO.rds.2 hl
  rw [← hm] at h
  exact h
set_option maxRecDepth 100000 in
set_option maxHeartbeats 16000000 in
theorem walk (w : World) (a0 : Option Addr) (cap0 : Nat) (z0 : List Int) (hc0 : z0.length ≤ cap0) (w0 : Rdw .u8 w w.heap.size a0 z0) :
    Calls Try.prog 10 #[.slice a0 z0.length cap0] w fun e w' => e = .returned (.bool true) ∧ Below w.heap.size w w' := by
  have hm := w0.2.1
  unfold maxLen at hm
  by_cases hlen : 1048576 < z0.length
  · go_enter Try.func10, Try.ntmps10
    go_wp2
    go_ret
    exact ⟨rfl, Below.refl _ _⟩
  · go_enter Try.func10, Try.ntmps10
    go_wp2_with fail
    refine (drawCheck_any a0 cap0 z0 w hc0 w0).mono ?_
    rintro e u1 ⟨A, c, ys, rfl, hyc, hyl, hr, hbel⟩
    have HR := Lib.hid hr
    have HB := Lib.hid hbel
    have hcr := chk_range ys
    obtain ⟨m, hm1⟩ : ∃ m, m = ys.length := ⟨_, rfl⟩
    rw [← hm1] at hyc hyl ⊢
    have Hm := Lib.hid hm1
    clear w0 hr hbel hm hm1
    go_wp2_with fail
    refine (i_CheckOf_r A c _ m ys u1 Hm.out HR.out (by omega)).mono ?_
    rintro e u2 ⟨rfl, rfl⟩
    by_cases hv : vbs ys = true
    · have hge : 0 ≤ chk ys := by
        unfold chk; rw [if_pos hv]
        have := ckx_range ys ys.length
        have := cky_range ys ys.length
        omega
      have HV := Lib.hid hv
      have hneg : ¬ chk ys < 0 := by omega
      clear hv
      obtain ⟨n, hn⟩ : ∃ n, n = chk ys := ⟨_, rfl⟩
      have Hn := Lib.hid hn
      rw [← hn] at hcr hge hneg ⊢
      clear hn
      go_wp2_with fail
      refine (s_CheckOf_r A c _ m ys u1 Hm.out HR.out (by omega)).mono ?_
      rintro e u2 ⟨rfl, rfl⟩
      rw [← Hn.out]
      have HI0 : Hid (Rds .i64 u1 u1.heap.size A ys ∧ Below w.heap.size w u1) := Lib.hid ⟨HR.out, HB.out⟩
      clear HR HB
      go_wp2
      go_loopw [5] (fun i wr => ∃ j : Nat, j ≤ m ∧ i = .int .i64 (j : Int) ∧ Hid (Rds .i64 wr wr.heap.size A ys ∧ Below w.heap.size w wr)) (fun i _ => m - (intOf i).toNat)
      case atStart => exact ⟨0, Nat.zero_le _, rfl, HI0⟩
      case round =>
        obtain ⟨j, hj, rfl, hI⟩ := hrel
        clear HI0
        by_cases hlt : j < m
        · have HA : Hid (Own (wr.alloc (.cells #[] 3)) wr.heap.size (.slice (some ⟨wr.heap.size, 0, none⟩) 0 0) []) := Lib.hid (own_none wr)
          have HQ : Hid (Rds .i64 (wr.alloc (.cells #[] 3)) (wr.heap.size + 1) A ys) := Lib.hid ((hI.out.1.alloc (Nat.le_refl _) _).more (by omega))
          go_wp2_with (at_builtin; refine wpList_app rfl (.tmp 32) (.tmp 33) rfl wr.heap.size (.slice (some ⟨wr.heap.size, 0, none⟩) 0 0) [] rfl HA.out A m c _ ys rfl Hm.out HQ.out (by simp; have := Hm.out; omega) (by simp) ?_; intro v3 w3 hO3 hG3)
          rw [List.nil_append] at hO3
          have hlt' : j < ys.length := by rw [← Hm.out]; exact hlt
          obtain ⟨gb, c3, rfl, hg1, hg2⟩ := hO3.form (by omega)
          have hB3 : Below wr.heap.size wr w3 := ((Below.refl _ _).alloc (Nat.le_refl _) _).grown hG3 (by simp) (fun k hk => by have := (HA.out.lt k hk).1; omega)
          have hc0 := hO3.cell rfl hlt'
          have hf0 := hO3.frozen rfl j
          obtain ⟨x, hx⟩ : ∃ x, x = ys.getD j 0 := ⟨_, rfl⟩
          have hxb : 0 ≤ x ∧ x ≤ 255 := by rw [hx]; exact (vbs_parts HV.out).2 j
          obtain ⟨hx0, hx1⟩ := hxb
          rw [← hx] at hc0
          rw [← Hm.out] at hO3 ⊢
          have hput := hO3.put Hm.out j (x + 1)
          have hB4 : Below wr.heap.size wr (w3.setCell ⟨gb, j, none⟩ (.int .i64 (x + 1))) := hB3.setCell (by show _ ≤ gb; omega) _
          have Hx := Lib.hid hx
          have HL' := Lib.hid hlt'
          clear hO3 hG3 HA HQ hB3 hx hlt'
          by_cases h255 : x = 255
          · subst h255
            have hc4 := hput.1.cell (by rw [List.length_set]; exact Hm.out) (j := j) (by rw [List.length_set]; exact HL'.out)
            have e4 : (ys.set j (255 + 1)).getD j 0 = 256 := by simp [HL'.out]
            rw [e4] at hc4
            have hf4 := hput.1.frozen (by rw [List.length_set]; exact Hm.out) j
            have hput5 := hput.1.put (by rw [List.length_set]; exact Hm.out) j 254
            rw [List.set_set] at hput5
            have hB5 : Below wr.heap.size wr ((w3.setCell ⟨gb, j, none⟩ (.int .i64 (255 + 1))).setCell ⟨gb, j, none⟩ (.int .i64 254)) := hB4.setCell (by show _ ≤ gb; omega) _
            have HO5 : Hid (Own ((w3.setCell ⟨gb, j, none⟩ (.int .i64 256)).setCell ⟨gb, j, none⟩ (.int .i64 254)) wr.heap.size (.slice (some ⟨gb, 0, none⟩) m c3) (ys.set j 254)) := Lib.hid hput5.1
            have HB5 : Hid (Below w.heap.size w ((w3.setCell ⟨gb, j, none⟩ (.int .i64 256)).setCell ⟨gb, j, none⟩ (.int .i64 254)) ∧ Rds .i64 ((w3.setCell ⟨gb, j, none⟩ (.int .i64 256)).setCell ⟨gb, j, none⟩ (.int .i64 254)) ((w3.setCell ⟨gb, j, none⟩ (.int .i64 256)).setCell ⟨gb, j, none⟩ (.int .i64 254)).heap.size A ys) := Lib.hid ⟨hI.out.2.trans (hB5.mono hI.out.2.size), (hI.out.1.below hB5).more hB5.size⟩
            have Hne : Hid (chk (ys.set j 254) ≠ n) := Lib.hid (by rw [Hn.out]; exact chk_change ys j 254 HL'.out HV.out (by omega) (.inr (by rw [← Hx.out]; rfl)))
            clear hput hput5 hB4 hB5 e4 hI hc4 hf4
            go_wp2_with fail
            go_simp
            go_wp2_with fail
            refine (i_CheckOf_at _ _ 0 m (ys.set j 254) _ (by rw [List.length_set]; exact Hm.out) HO5.out (by rw [List.length_set, ← Hm.out]; omega)).mono ?_
            rintro e u5 ⟨rfl, rfl⟩
            obtain ⟨q, hq⟩ : ∃ q, q = chk (ys.set j 254) := ⟨_, rfl⟩
            rw [← hq]
            have hqn : (q == n) = false := beq_eq_false_iff_ne.2 (by rw [hq]; exact Hne.out)
            have hqn2 : ¬ q = n := by rw [hq]; exact Hne.out
            clear hq hc0 hf0 HO5
            go_wp2
            go_roundw
            case rel => exact ⟨j + 1, by omega, by go_num, Lib.hid ⟨HB5.out.2, HB5.out.1⟩⟩
            case measure => simp [intOf]; omega
          · have hc4 := hput.1.cell (by rw [List.length_set]; exact Hm.out) (j := j) (by rw [List.length_set]; exact HL'.out)
            have e4 : (ys.set j (x + 1)).getD j 0 = x + 1 := by simp [HL'.out]
            rw [e4] at hc4
            have h256 : (x + 1 == 256) = false := beq_eq_false_iff_ne.2 (by omega)
            have h2562 : ¬ x = 255 := h255
            have hx254 : x ≤ 254 := by omega
            have HO5 : Hid (Own (w3.setCell ⟨gb, j, none⟩ (.int .i64 (x + 1))) wr.heap.size (.slice (some ⟨gb, 0, none⟩) m c3) (ys.set j (x + 1))) := Lib.hid hput.1
            have HB5 : Hid (Below w.heap.size w (w3.setCell ⟨gb, j, none⟩ (.int .i64 (x + 1))) ∧ Rds .i64 (w3.setCell ⟨gb, j, none⟩ (.int .i64 (x + 1))) (w3.setCell ⟨gb, j, none⟩ (.int .i64 (x + 1))).heap.size A ys) := Lib.hid ⟨hI.out.2.trans (hB4.mono hI.out.2.size), (hI.out.1.below hB4).more hB4.size⟩
            have Hne : Hid (chk (ys.set j (x + 1)) ≠ n) := Lib.hid (by rw [Hn.out]; exact chk_change ys j (x + 1) HL'.out HV.out (by omega) (.inl (by rw [← Hx.out])))
            clear hput hB4 e4 hI hc4
            go_wp2_with fail
            go_simp
            go_wp2_with fail
            refine (i_CheckOf_at _ _ 0 m (ys.set j (x + 1)) _ (by rw [List.length_set]; exact Hm.out) HO5.out (by rw [List.length_set, ← Hm.out]; omega)).mono ?_
            rintro e u5 ⟨rfl, rfl⟩
            obtain ⟨q, hq⟩ : ∃ q, q = chk (ys.set j (x + 1)) := ⟨_, rfl⟩
            rw [← hq]
            have hqn : (q == n) = false := beq_eq_false_iff_ne.2 (by rw [hq]; exact Hne.out)
            have hqn2 : ¬ q = n := by rw [hq]; exact Hne.out
            clear hq hc0 hf0 HO5
            go_wp2
            go_roundw
            case rel => exact ⟨j + 1, by omega, by go_num, Lib.hid ⟨HB5.out.2, HB5.out.1⟩⟩
            case measure => simp [intOf]; omega
        · have HBe := Lib.hid hI.out.2
          have hn65 : n < 65536 := by omega
          clear hI
          go_wp2
          go_ret
          exact ⟨rfl, HBe.out⟩
    · have hc1 : chk ys = -1 := by unfold chk; rw [if_neg hv]
      rw [hc1]
      have HC := Lib.hid hc1
      clear hc1 hv hcr
      go_wp2_with fail
      refine (s_CheckOf_r A c _ m ys u1 Hm.out HR.out (by omega)).mono ?_
      rintro e u2 ⟨rfl, rfl⟩
      rw [HC.out]
      go_wp2_with fail
      refine (s_CheckOf_r A c _ m ys u1 Hm.out HR.out (by omega)).mono ?_
      rintro e u2 ⟨rfl, rfl⟩
      rw [HC.out]
      go_wp2
      go_ret
      exact ⟨rfl, HB.out⟩

/-! ### From the walk to the statement. -/
theorem own : ownKnob Try.prog.godebug = none := by kernel_rfl
theorem laidOut : laidOutB Try.prog = true := by kernel_rfl
set_option maxRecDepth 100000 in
theorem lifted (os : Os) (started : os.Started) (H : Type) (enc : TypeId × Value → H) :
    ReturnsInHanded {} Try.checked os 10 .any (Rows.fnCheckOfSpec.pre6 enc Try.prog Try.f10 Rows.fnCheckOfRow.domain false) (Rows.fnCheckOfSpec.post enc Try.prog Try.f10 false true false false) := by
  refine returnsInHanded_of_change (C := Try.checked) own started (by kernel_rfl) Try.func10
    (ChangeSpec.witness6 (enc := enc) (C := Try.checked) false ⟨#[], #[.slice none 0 0], []⟩ 8 (by kernel_rfl) (by kernel_rfl) (by kernel_rfl) (by kernel_rfl)) ?_
  intro W base args ds gs before hval0 hW hcnd _
  have hval : ∀ (j : Nat) t v, Try.f10.params[j]? = some t → args[j]? = some v → Value.okWide Try.prog W .any base t v := hval0
  have hW' := hW
  obtain ⟨p, q, hA0, hV, rfl, hfz, hnd⟩ := hW
  have hA : DataW.TrodAll enc Try.prog W 0 (fun _ => true) true Try.f10.params.toList args.toList ds p := hA0
  rw [Try.params10] at hA hval
  obtain ⟨v0, vs0, d0, ds0, p0, q0, hargs, rfl, rfl, h0, r0⟩ := trodAll_cons hA
  obtain ⟨rfl, rfl, rfl⟩ := trodAll_nil r0
  obtain rfl : args = #[v0] := by cases args; simp_all
  obtain ⟨rfl, rfl⟩ := trodVars_none hV
  obtain ⟨a0, len0, cap0, rfl⟩ := okWide_slice Try.underlying22 (hval 0 22 v0 rfl rfl)
  have k0 := h0
  have lt0 : ∀ x ∈ p0, x.block < W.heap.size := by obtain ⟨m, hm⟩ := k0; exact DataW.trod_lt m _ _ _ hm
  obtain ⟨z0, hl0, hc0, w0⟩ : ∃ zs : List Int, len0 = zs.length ∧ zs.length ≤ cap0 ∧ Rdw .u8 W W.heap.size a0 zs := by
    obtain ⟨fuel, hf⟩ := h0
    rcases open_ints Try.underlying22 Try.underlying5 (by kernel_rfl) hf with ⟨hcs, _⟩ | ⟨x, l, c, zs, hcs, _, hl, hm, hz, _, hcell, hwz⟩
    · simp [Value.cells] at hcs
      obtain ⟨rfl, rfl, rfl⟩ := hcs
      exact ⟨[], rfl, Nat.le_refl _, Rdw.nil⟩
    · simp [Value.cells] at hcs
      obtain ⟨rfl, rfl, rfl⟩ := hcs
      exact ⟨zs.take len0, by simp at hz ⊢; omega, by simp at hz ⊢; omega, Rdw.of_row hl hm (by simpa using hz) hcell hwz⟩
  subst hl0
  clear hA0 hval0
  refine (walk W a0 cap0 z0 hc0 w0).mono fun e W' ⟨he, bel⟩ => ?_
  subst he
  exact ⟨_, rfl, _, _, _, [], _, [], hW', trodAll_mk1 (shut_bool Try.underlying4 _), (trodAll_cons_mk (Below.trod laidOut (by kernel_rfl) (of_decide_eq_true (by kernel_rfl)) k0 bel lt0) trodAll_mk0), rfl, bel.frame _, fun h => by cases h⟩

theorem over : Rows.fnCheckOfRow.holds Try.pinned (OpenSpec.ofChange Rows.fnCheckOfSpec) :=
  OpenClaim.holds_of_wide 10 Try.f10 rfl rfl rfl rfl rfl rfl rfl ⟨rfl, rfl, rfl, rfl, rfl⟩ rfl rfl rfl rfl rfl (by kernel_rfl) Try.func10 (by kernel_rfl)
    (of_decide_eq_true (by kernel_rfl)) (by unfold Func.isWrapper; first | (rw [if_pos (by decide +kernel)]; kernel_rfl) | (rw [if_neg (by decide +kernel)]; exact ⟨rfl, rfl⟩))
    (fun os started H enc _ => lifted os started H enc)

theorem proved : Rows.FnCheckOfSaid := over
end Go.Proofs.Ytegiccljmlghlaa.fnCheckOf
