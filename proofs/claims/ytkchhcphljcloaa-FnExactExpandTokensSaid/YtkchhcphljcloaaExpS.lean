/- Contract of ExpandTokens, in the model. -/
import Derived.Test.YtkchhcphljcloaaExp
namespace Go.Proofs.Ytkchhcphljcloaa
open Go.RowKit
set_option linter.unusedSimpArgs false
set_option linter.unusedVariables false
set_option maxRecDepth 20000

set_option maxHeartbeats 16000000 in
theorem s_ExpandTokens (A : Option Addr) (n c : Nat) (xs : List Int) (w : World) (hx : xs.length = 3 * n) (h : Rds .i64 w w.heap.size A xs) (hl : n ≤ 2000000) :
    Calls Try.prog 37 #[.slice A n c] w (MadeO (exL xs n) (exO xs n) w) := by
  have Hh := Lib.hid h
  have HX := Lib.hid hx
  have H0 := Lib.hid (own_none w)
  clear h hx
  go_enter Try.func37, Try.ntmps37
  go_wp2
  go_loopw [5, 4] (fun i b wr => ∃ (k : Nat) (l : List Int), k ≤ n ∧ i = .int .i64 k ∧ Hid (exT xs k = some l) ∧ Hid (Own wr w.heap.size b l) ∧ Below w.heap.size w wr) (fun i _ _ => n - (intOf i).toNat)
  case atStart => exact ⟨0, [], Nat.zero_le _, rfl, Lib.hid rfl, H0, (Below.refl _ _).alloc (Nat.le_refl _) _⟩
  case round =>
    obtain ⟨k, l, hk, rfl, hE, hO, hbel⟩ := hrel
    obtain ⟨A1, c1, rfl, hc1⟩ := hO.out.slice
    have hll := ex_len hE.out
    by_cases hlt : k < n
    · obtain ⟨t0, t1, t2⟩ := trio hlt HX.out
      obtain ⟨b, off, rfl, hb, hc⟩ := Hh.out.cells_ t0
      have Hc0 := Lib.hid (hc _ t0)
      have Hc1 := Lib.hid (hc _ t1)
      have Hc2 := Lib.hid (hc _ t2)
      have HS := Lib.hid (ex_step hE.out)
      clear hc
      generalize xs.getD (k * 3) 0 = x at *
      generalize xs.getD (k * 3 + 1) 0 = y at *
      generalize xs.getD (k * 3 + 2) 0 = z at *
      have Hcel : Hid (∀ W : World, Below w.heap.size w W → W.cell? ⟨b, off + k * 3, none⟩ = some (.int .i64 x) ∧ W.cell? ⟨b, off + k * 3 + 1, none⟩ = some (.int .i64 y) ∧ W.cell? ⟨b, off + k * 3 + 2, none⟩ = some (.int .i64 z)) :=
        Lib.hid (fun W hW => ⟨(hW.cell (p := ⟨b, off + k * 3, none⟩) hb).trans Hc0.out, (hW.cell (p := ⟨b, off + k * 3 + 1, none⟩) hb).trans Hc1.out, (hW.cell (p := ⟨b, off + k * 3 + 2, none⟩) hb).trans Hc2.out⟩)
      clear Hc0 Hc1 Hc2
      obtain ⟨d0, d1, d2⟩ := Hcel.out _ hbel
      have HBw := Lib.hid hbel
      clear hbel
      go_wp2_with fail
      refine (sVt_any x y z l.length _ (by omega)).mono ?_
      rintro e w2 ⟨rfl, hb1⟩
      clear d0 d1 d2
      have HB2 := Lib.hid (HBw.out.trans (hb1.mono HBw.out.size))
      have HO2 := Lib.hid (hO.out.below hb1 (Nat.le_refl _))
      clear hb1 hO HBw
      cases hv : tokB x y z l.length
      · have HN : Hid (exT xs n = none) := Lib.hid (ex_none (k := k + 1) (by rw [HS.out]; exact step_bad hv) (by omega))
        go_wp2
        go_ret2
        exact madeO_no HN.out HB2.out
      · have hyy : y = 0 ∨ 3 ≤ y := by
          by_cases e : y = 0
          · exact .inl e
          · exact .inr (tok_pos hv e).1.1
        have HV := Lib.hid hv
        have HFit : Hid (fitT l y = true → exT xs (k + 1) = some (oneT l x y z)) := Lib.hid (fun hf => HS.out.trans (step_ok hv hf))
        have HNo : Hid (fitT l y = false → exT xs n = none) := Lib.hid (fun hf => ex_none (k := k + 1) (by rw [HS.out]; exact step_full hf) (by omega))
        obtain ⟨d0, d1, d2⟩ := Hcel.out _ HB2.out
        clear hv HS
        by_cases hy : y = 0
        · subst hy
          have HA := Lib.hid (HO2.out.alloc (.cells #[.int .i64 x] 3))
          have HR1 := Lib.hid (rds_one w2 x)
          have HB3 := Lib.hid (HB2.out.alloc HB2.out.size (.cells #[.int .i64 x] 3))
          have HLt := Lib.hid HO2.out.lt
          clear HO2
          go_wp2_with (at_builtin; refine wpList_app rfl (.tmp 29) (.tmp 35) rfl w.heap.size (.slice A1 l.length c1) l rfl HA.out (some ⟨w2.heap.size, 0, none⟩) 1 1 _ [x] rfl rfl HR1.out (by simp; omega) (by have := HB2.out.size; simp; omega) ?_; intro v3 w3 hO3 hG3; have HB4 := Lib.hid (HB3.out.grown hG3 HB3.out.size (fun q hq => (HLt.out q hq).1)); obtain ⟨e0, e1, e2⟩ := Hcel.out _ HB4.out)
          have HO4 := Lib.hid hO3
          obtain ⟨A3, c3, rfl, hc3⟩ := hO3.slice
          clear hO3 hG3 HA HB3 d0 d1 d2
          have hPl : (l ++ [x]).length = l.length + 1 := by simp
          by_cases hfit : l.length + 1 ≤ 1200
          · have HE1 : Hid (exT xs (k + 1) = some (l ++ [x])) := Lib.hid (by rw [HFit.out (by unfold fitT; exact decide_eq_true (by omega))]; rfl)
            generalize l ++ [x] = P at *
            have hP2 : P.length ≤ 1200 := by omega
            have HPl := Lib.hid hPl
            clear hPl
            refine wp_loop_rounds 1 ?_
            rw [rounds_succ]
            go_wp2
            go_roundw
            case rel => exact ⟨k + 1, P, by omega, by go_num, HE1, HO4, HB4.out⟩
            case measure => simp [intOf]; omega
          · have HN := Lib.hid (HNo.out (by unfold fitT; exact decide_eq_false (by omega)))
            generalize l ++ [x] = P at *
            have hP2 : 1200 < P.length := by omega
            have HPl := Lib.hid hPl
            clear hPl
            refine wp_loop_rounds 1 ?_
            rw [rounds_succ]
            go_wp2
            go_ret2
            exact madeO_no HN.out HB4.out
        · have hy' : (y == 0) = false := beq_eq_false_iff_ne.2 hy
          obtain ⟨⟨y3, y18⟩, z1, z2, z3⟩ := tok_pos HV.out hy
          obtain ⟨K, rfl⟩ := Int.eq_ofNat_of_zero_le (show 0 ≤ z by omega)
          have HE1 : Hid (fitT l y = true → exT xs (k + 1) = some (cpy l K y.toNat)) := Lib.hid (fun hf => by rw [HFit.out hf]; unfold oneT; rw [if_neg hy]; rfl)
          clear hy HV HFit
          go_wp2
          clear d0 d1 d2
          go_loopw [6, 4] (fun i b wr => ∃ j : Nat, (j : Int) ≤ y ∧ i = .int .i64 j ∧ Hid (Own wr w.heap.size b (cpy l K j)) ∧ Below w.heap.size w wr) (fun i _ _ => (y - intOf i).toNat)
          case atStart => exact ⟨0, by omega, rfl, HO2, HB2.out⟩
          case round =>
            obtain ⟨j, hj, rfl, hI, hbel⟩ := hrel
            have hO := hI.out
            have HSu := Lib.hid (cpy_succ l K j)
            have hcl := cpy_len l K j
            obtain ⟨d0, d1, d2⟩ := Hcel.out _ hbel
            by_cases hlt2 : (j : Int) < y
            · generalize cpy l K j = P at *
              have hPl : P.length ≤ 1218 := by omega
              have hKP : K ≤ P.length := by omega
              have hP0 : 0 < P.length := by omega
              have HPe := Lib.hid hcl
              obtain ⟨g, cap, rfl, hbg, hgl⟩ := hO.form hP0
              have cv := hO.cell rfl (j := P.length - K) (by omega)
              rw [← HPe.out] at HSu
              generalize P.getD (P.length - K) 0 = q at *
              have r1 : ((P.length : Int) - (K : Int)).toNat = P.length - K := by omega
              have r2 : 0 ≤ (P.length : Int) - (K : Int) := by omega
              have r3 : (P.length : Int) - (K : Int) < (P.length : Int) := by omega
              have HA := Lib.hid (hO.alloc (.cells #[.int .i64 q] 3))
              have HLt := Lib.hid hO.lt
              have HB3 := Lib.hid (hbel.alloc hbel.size (.cells #[.int .i64 q] 3))
              have HsB := Lib.hid hbel.size
              have HR1 := Lib.hid (rds_one wr q)
              clear hO hbel hcl hI
              go_wp2_with (at_builtin; refine wpList_app rfl (.tmp 57) (.tmp 59) rfl w.heap.size (.slice (some ⟨g, 0, none⟩) P.length cap) P rfl HA.out (some ⟨wr.heap.size, 0, none⟩) 1 1 _ [q] rfl rfl HR1.out (by simp; omega) (by have := HsB.out; simp; omega) ?_; intro v3 w3 hO3 hG3)
              have HB4 := Lib.hid (HB3.out.grown hG3 HB3.out.size (fun q hq => (HLt.out q hq).1))
              have HO4 : Hid (Own w3 w.heap.size v3 (cpy l K (j + 1))) := Lib.hid (by rw [HSu.out]; exact hO3)
              obtain ⟨A3, c3, rfl, hc3⟩ := hO3.slice
              clear hO3 hG3 HA HB3 r1 cv d0 d1 d2
              go_wp2
              go_roundw
              case rel => exact ⟨j + 1, by omega, by go_num, HO4, HB4.out⟩
              case measure => simp [intOf]; omega
            · have hjy : j = y.toNat := by omega
              have HO4 := Lib.hid hO
              obtain ⟨A3, c3, rfl, hc3⟩ := hO.slice
              by_cases hfit : l.length + j ≤ 1200
              · have HE2 : Hid (exT xs (k + 1) = some (cpy l K j)) := Lib.hid (by rw [hjy]; exact HE1.out (by unfold fitT; exact decide_eq_true (by omega)))
                clear hjy hO hI
                generalize cpy l K j = P at *
                have hP2 : P.length ≤ 1200 := by omega
                have HPl := Lib.hid hcl
                clear hcl
                go_wp2
                go_roundw
                case rel => exact ⟨k + 1, P, by omega, by go_num, HE2, HO4, hbel⟩
                case measure => simp [intOf]; omega
              · have HN := Lib.hid (HNo.out (by unfold fitT; exact decide_eq_false (by omega)))
                clear hjy hO hI
                generalize cpy l K j = P at *
                have hP2 : 1200 < P.length := by omega
                have HPl := Lib.hid hcl
                clear hcl
                go_wp2
                go_ret2
                exact madeO_no HN.out hbel
    · have hk' : k = n := by omega
      have HN : Hid (exT xs n = some l) := Lib.hid (by rw [← hk']; exact hE.out)
      clear hk'
      go_wp2
      go_ret2
      exact madeO_yes HN.out hO.out hbel
end Go.Proofs.Ytkchhcphljcloaa
