/- Contract of ValidRegion, in the model. -/
import Derived.Test.YtbjgjjhfnaiocaaDoorReg
namespace Go.Proofs.YtbjgjjhfnaiocaaDoor
open Go.RowKit
set_option linter.unusedSimpArgs false
set_option linter.unusedVariables false
set_option maxRecDepth 20000

set_option maxHeartbeats 8000000 in
theorem s_validRuns (A : Option Addr) (n c B : Nat) (xs : List Int) (w : World) (hx : xs.length = 3 * n) (h : Rds .i64 w B A xs) (hB : B ≤ w.heap.size) (hl : n ≤ 2000000) :
    Calls Tryd.prog 44 #[.slice A n c] w fun e w' => e = .returned (.bool (regB xs n)) ∧ Below w.heap.size w w' := by
  have Hh := Lib.hid h
  have HX := Lib.hid hx
  clear h hx
  go_enter Tryd.func44, Tryd.ntmps44
  go_wp2
  go_loopw [3] (fun i wr => ∃ k : Nat, k ≤ n ∧ i = .int .i64 k ∧ Hid (reg xs k) ∧ Below w.heap.size w wr) (fun i _ => n - (intOf i).toNat)
  case atStart => exact ⟨0, Nat.zero_le _, rfl, Lib.hid (fun j hj => by omega), Below.refl _ _⟩
  case round =>
    obtain ⟨k, hk, rfl, hR, hbel⟩ := hrel
    by_cases hlt : k < n
    · obtain ⟨t0, t1, t2⟩ := trio hlt HX.out
      obtain ⟨b, off, rfl, hb, hc⟩ := Hh.out.cells_ t0
      have hold : ∀ (o : Nat) (v : Option Value), w.cell? ⟨b, o, none⟩ = v → wr.cell? ⟨b, o, none⟩ = v := fun o v hv => (hbel.cell (p := ⟨b, o, none⟩) (by show b < _; omega)).trans hv
      have hc0 := hold _ _ (hc _ t0)
      have hc1 : wr.cell? ⟨b, off + k * 3 + 1, none⟩ = _ := hold _ _ (hc _ t1)
      have hc2 : wr.cell? ⟨b, off + k * 3 + 2, none⟩ = _ := hold _ _ (hc _ t2)
      have Hold := Lib.hid hold
      have Hc := Lib.hid hc
      have Hy : Hid (gY xs k = xs.getD (k * 3) 0) := Lib.hid rfl
      have Hf : Hid (gF xs k = xs.getD (k * 3 + 1) 0) := Lib.hid rfl
      have Ht : Hid (gT xs k = xs.getD (k * 3 + 2) 0) := Lib.hid rfl
      clear hc hold
      generalize xs.getD (k * 3) 0 = y at *
      generalize xs.getD (k * 3 + 1) 0 = f at *
      generalize xs.getD (k * 3 + 2) 0 = t at *
      have Hbu := Lib.hid (hbel.alloc hbel.size (.cells #[.int .i64 y, .int .i64 f, .int .i64 t] 35))
      have Hg : Hid ((wr.alloc (.cells #[.int .i64 y, .int .i64 f, .int .i64 t] 35)).heap[wr.heap.size]? = some (.cells #[.int .i64 y, .int .i64 f, .int .i64 t] 35 (0, 0))) := Lib.hid (heap_alloc_new wr _)
      have Hsz : Hid (b < w.heap.size ∧ w.heap.size ≤ wr.heap.size ∧ wr.heap.size < (wr.alloc (.cells #[.int .i64 y, .int .i64 f, .int .i64 t] 35)).heap.size) := Lib.hid ⟨by omega, hbel.size, by simp⟩
      have Hkeep : Hid (∀ (o : Nat) (v : Option Value), w.cell? ⟨b, o, none⟩ = v → (wr.alloc (.cells #[.int .i64 y, .int .i64 f, .int .i64 t] 35)).cell? ⟨b, o, none⟩ = v) := Lib.hid (fun o v hv => (Hbu.out.cell (p := ⟨b, o, none⟩) (by show b < _; omega)).trans hv)
      clear hbel Hold
      cases hv : vrunB y f t
      · have HN : Hid (regB xs n = false) := Lib.hid (regB_no hlt (regA_no1 (by rw [Hy.out, Hf.out, Ht.out]; exact hv)))
        have HV := Lib.hid hv
        clear hv
        cases h1 : decide (0 ≤ y ∧ y ≤ 15)
        · go_wp2_with fail
          refine (sIr_any _ _ _ _).mono ?_
          rintro e w' ⟨rfl, rfl⟩
          rw [h1]
          go_wp2
          go_ret
          exact ⟨ret_bool HN.out.symm, Hbu.out⟩
        · cases h2 : decide (0 ≤ f ∧ f ≤ 15)
          · go_wp2_with fail
            refine (sIr_any _ _ _ _).mono ?_
            rintro e w' ⟨rfl, rfl⟩
            rw [h1]
            go_wp2_with fail
            refine (sIr_any _ _ _ _).mono ?_
            rintro e w' ⟨rfl, rfl⟩
            rw [h2]
            go_wp2
            go_ret
            exact ⟨ret_bool HN.out.symm, Hbu.out⟩
          · have h3 : decide (f + 1 ≤ t ∧ t ≤ 16) = false := by
              have := HV.out
              simp only [vrunB, h1, h2, Bool.true_and] at this
              exact this
            obtain ⟨f0, f1⟩ := of_decide_eq_true h2
            go_wp2_with fail
            refine (sIr_any _ _ _ _).mono ?_
            rintro e w' ⟨rfl, rfl⟩
            rw [h1]
            go_wp2_with fail
            refine (sIr_any _ _ _ _).mono ?_
            rintro e w' ⟨rfl, rfl⟩
            rw [h2]
            go_wp2_with fail
            refine (sIr_any t (f + 1) 16 _).mono ?_
            rintro e w' ⟨rfl, rfl⟩
            rw [h3]
            go_wp2
            go_ret
            exact ⟨ret_bool HN.out.symm, Hbu.out⟩
      · obtain ⟨hy2, hf2, ht2⟩ := vrunB_bd hv
        have h1 : decide (0 ≤ y ∧ y ≤ 15) = true := decide_eq_true hy2
        have h2 : decide (0 ≤ f ∧ f ≤ 15) = true := decide_eq_true hf2
        have h3 : decide (f + 1 ≤ t ∧ t ≤ 16) = true := decide_eq_true ht2
        obtain ⟨f0, f1⟩ := hf2
        have HV := Lib.hid hv
        clear hv hy2 ht2
        go_wp2_with fail
        refine (sIr_any _ _ _ _).mono ?_
        rintro e w' ⟨rfl, rfl⟩
        rw [h1]
        go_wp2_with fail
        refine (sIr_any _ _ _ _).mono ?_
        rintro e w' ⟨rfl, rfl⟩
        rw [h2]
        go_wp2_with fail
        refine (sIr_any t (f + 1) 16 _).mono ?_
        rintro e w' ⟨rfl, rfl⟩
        rw [h3]
        clear h1 h2 h3
        go_wp2
        clear hc0 hc1 hc2
        generalize wr.alloc (.cells #[.int .i64 y, .int .i64 f, .int .i64 t] 35) = u at *
        have g0 : u.cell? ⟨wr.heap.size, 0, none⟩ = some (.int .i64 y) := by rw [cell_of_row _ _ _ _ _ _ Hg.out]; rfl
        have g1 : u.cell? ⟨wr.heap.size, 1, none⟩ = some (.int .i64 f) := by rw [cell_of_row _ _ _ _ _ _ Hg.out]; rfl
        have g2 : u.cell? ⟨wr.heap.size, 2, none⟩ = some (.int .i64 t) := by rw [cell_of_row _ _ _ _ _ _ Hg.out]; rfl
        by_cases hk0 : k = 0
        · have hk0' : ¬ 0 < k := by omega
          have HN : Hid (reg xs (k + 1)) := Lib.hid (reg_snoc hR.out (regA_yes (by rw [Hy.out, Hf.out, Ht.out]; exact HV.out) (fun h => absurd h hk0')))
          have hkd : decide ((k : Int) > 0) = false := decide_eq_false (by omega)
          have hkd' : decide (0 < k) = false := decide_eq_false hk0'
          clear hk0
          go_quiet (fail)
          go_wp2
          go_roundw
          case rel => exact ⟨k + 1, by omega, by go_num, HN, bel_dn Hbu.out _⟩
          case measure => simp [intOf]; omega
        · have hk1 : 0 < k := by omega
          have s0 : (k - 1) * 3 < xs.length := by omega
          have s1 : (k - 1) * 3 + 1 < xs.length := by omega
          have s2 : (k - 1) * 3 + 2 < xs.length := by omega
          have g3 := Hkeep.out _ _ (Hc.out _ s0)
          have g5 : u.cell? ⟨b, off + (k - 1) * 3 + 2, none⟩ = _ := Hkeep.out _ _ (Hc.out _ s2)
          have Hy0 : Hid (gY xs (k - 1) = xs.getD ((k - 1) * 3) 0) := Lib.hid rfl
          have Ht0 : Hid (gT xs (k - 1) = xs.getD ((k - 1) * 3 + 2) 0) := Lib.hid rfl
          clear Hc hk0
          generalize xs.getD ((k - 1) * 3) 0 = y0 at *
          generalize xs.getD ((k - 1) * 3 + 2) 0 = t0 at *
          have r1 : IntKind.i64.wrap ((k : Int) - 1) = (k : Int) - 1 := IntWalk.i64_in _ (by omega)
          have r2 : ((k : Int) - 1).toNat = k - 1 := by omega
          have r3 : 0 ≤ (k : Int) - 1 := by omega
          have r4 : (k : Int) - 1 < (n : Int) := by omega
          have r5 : (1 : Int) ≤ (k : Int) := by omega
          have r6 : decide ((k : Int) > 0) = true := decide_eq_true (by omega)
          have r7 : decide (0 < k) = true := decide_eq_true hk1
          by_cases a1 : y < y0
          · have HN : Hid (regB xs n = false) := Lib.hid (regB_no hlt (regA_no2 hk1 (by rw [Hy.out, Hf.out, Hy0.out, Ht0.out]; exact decide_eq_false (by omega))))
            have b1 : decide (y < y0) = true := decide_eq_true a1
            go_quiet (fail)
            clear r1 r2
            go_wp2
            go_ret
            exact ⟨ret_bool HN.out.symm, bel_dn Hbu.out _⟩
          · have b1 : decide (y < y0) = false := decide_eq_false a1
            by_cases a2 : y = y0
            · have b2 : (y == y0) = true := by rw [a2]; simp
              by_cases a3 : f ≤ t0
              · have HN : Hid (regB xs n = false) := Lib.hid (regB_no hlt (regA_no2 hk1 (by rw [Hy.out, Hf.out, Hy0.out, Ht0.out]; exact decide_eq_false (by omega))))
                have b3 : decide (f ≤ t0) = true := decide_eq_true a3
                clear a2
                go_quiet (fail)
                clear r1 r2
                go_wp2
                go_ret
                exact ⟨ret_bool HN.out.symm, bel_dn Hbu.out _⟩
              · have HN : Hid (reg xs (k + 1)) := Lib.hid (reg_snoc hR.out (regA_yes (by rw [Hy.out, Hf.out, Ht.out]; exact HV.out) (fun _ => by rw [Hy.out, Hf.out, Hy0.out, Ht0.out]; exact decide_eq_true (by omega))))
                have b3 : decide (f ≤ t0) = false := decide_eq_false a3
                clear a2
                go_quiet (fail)
                clear r1 r2
                go_wp2
                go_roundw
                case rel => exact ⟨k + 1, by omega, by go_num, HN, bel_dn Hbu.out _⟩
                case measure => simp [intOf]; omega
            · have HN : Hid (reg xs (k + 1)) := Lib.hid (reg_snoc hR.out (regA_yes (by rw [Hy.out, Hf.out, Ht.out]; exact HV.out) (fun _ => by rw [Hy.out, Hf.out, Hy0.out, Ht0.out]; exact decide_eq_true (by omega))))
              have b2 : (y == y0) = false := beq_eq_false_iff_ne.2 a2
              clear a2
              go_quiet (fail)
              clear r1 r2
              go_wp2
              go_roundw
              case rel => exact ⟨k + 1, by omega, by go_num, HN, bel_dn Hbu.out _⟩
              case measure => simp [intOf]; omega
    · have hk' : k = n := by omega
      have HY : Hid (regB xs n = true) := Lib.hid (regB_yes (hk' ▸ hR.out))
      clear hk'
      go_wp2
      go_ret
      exact ⟨ret_bool HY.out.symm, hbel⟩
end Go.Proofs.YtbjgjjhfnaiocaaDoor
