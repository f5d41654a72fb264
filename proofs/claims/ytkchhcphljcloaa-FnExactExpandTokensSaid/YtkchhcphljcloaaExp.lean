/- Contracts of ExpandTokens, in the model and in the program. -/
import Derived.Test.YtkchhcphljcloaaExpM
import Derived.LoopN
namespace Go.Proofs.Ytkchhcphljcloaa
open Go.RowKit
set_option linter.unusedSimpArgs false
set_option linter.unusedVariables false
set_option maxRecDepth 20000

def MadeO (xs : List Int) (ok : Bool) (w : World) (e : Ending) (w' : World) : Prop := ∃ v, e = .returned (.tuple #[v, .bool ok]) ∧ Own w' w.heap.size v xs ∧ Below w.heap.size w w'
theorem madeO_no {xs : List Int} {n : Nat} {w w' : World} (h : exT xs n = none) (hb : Below w.heap.size w w') : MadeO (exL xs n) (exO xs n) w (.returned (.tuple #[.slice none 0 0, .bool false])) w' := by
  have e1 : exL xs n = [] := by unfold exL; rw [h]; rfl
  have e2 : exO xs n = false := by unfold exO; rw [h]; rfl
  rw [e1, e2]
  exact ⟨_, rfl, World.ownsRow_nil _ _ _ _, hb⟩
theorem madeO_yes {xs l : List Int} {n : Nat} {v : Value} {w w' : World} (h : exT xs n = some l) (hO : Own w' w.heap.size v l) (hb : Below w.heap.size w w') : MadeO (exL xs n) (exO xs n) w (.returned (.tuple #[v, .bool true])) w' := by
  have e1 : exL xs n = l := by unfold exL; rw [h]; rfl
  have e2 : exO xs n = true := by unfold exO; rw [h]; rfl
  rw [e1, e2]
  exact ⟨_, rfl, hO, hb⟩
theorem box_keep {w w' : World} {g base : Nat} {T : TypeId} {cs : Array Value} {v : Value} {l : List Int} (h : w.heap[g]? = some (.cells cs T (0, 0))) (hT : T ≠ 3) (hO : Own w base v l) (hG : w.grownBy w' v.ownBlock) : w'.heap[g]? = some (.cells cs T (0, 0)) := by
  have hlt : g < w.heap.size := by
    rcases Nat.lt_or_ge g w.heap.size with h' | h'
    · exact h'
    · rw [Array.getElem?_eq_none h'] at h; cases h
  refine (hG.block g hlt (fun e => ?_)).trans h
  rcases hO.2 with ⟨rfl, _⟩ | ⟨g', cap, cur, rfl, _, hg, _⟩
  · simp [Value.ownBlock] at e
  · simp [Value.ownBlock] at e
    subst e
    rw [hg] at h
    have := Option.some.inj h
    injection this with _ h2 _
    exact hT h2.symm
theorem box3 {w : World} {g : Nat} {T : TypeId} {x y z : Int} (h : w.heap[g]? = some (.cells #[.int .i64 x, .int .i64 y, .int .i64 z] T (0, 0))) :
    w.cell? ⟨g, 0, none⟩ = some (.int .i64 x) ∧ w.cell? ⟨g, 1, none⟩ = some (.int .i64 y) ∧ w.cell? ⟨g, 2, none⟩ = some (.int .i64 z) := by
  refine ⟨?_, ?_, ?_⟩ <;> (rw [cell_of_row _ _ _ _ _ _ h]; rfl)
theorem own_nil0 (w : World) (base : Nat) : Own w base (.slice none 0 0) [] := World.ownsRow_nil _ _ _ _
set_option maxHeartbeats 16000000 in
theorem i_ExpandTokens (A : Option Addr) (n c : Nat) (xs : List Int) (w : World) (hx : xs.length = 3 * n) (h : Rds .i64 w w.heap.size A xs) (hl : n ≤ 2000000) :
    Calls Try.prog 38 #[.slice A n c] w (MadeO (exL xs n) (exO xs n) w) := by
  have Hh := Lib.hid h
  have HX := Lib.hid hx
  clear h hx
  go_enter Try.func38, Try.ntmps38
  go_wp2
  go_loopw [9, 4] (fun i b wr => ∃ (k : Nat) (l : List Int), k ≤ n ∧ i = .int .i64 k ∧ Hid (exT xs k = some l) ∧ Hid (Own wr w.heap.size b l) ∧ Below w.heap.size w wr) (fun i _ _ => n - (intOf i).toNat)
  case atStart => exact ⟨0, [], Nat.zero_le _, rfl, Lib.hid rfl, Lib.hid (own_nil0 _ _), Below.refl _ _⟩
  case round =>
    obtain ⟨k, l, hk, rfl, hE, hO, hbel⟩ := hrel
    obtain ⟨A1, c1, rfl, hc1⟩ := hO.out.slice
    have hll := ex_len hE.out
    by_cases hlt : k < n
    · obtain ⟨t0, t1, t2⟩ := trio hlt HX.out
      obtain ⟨b, off, rfl, hb, hc⟩ := Hh.out.cells_ t0
      have hc0 := (hbel.cell (p := ⟨b, off + k * 3, none⟩) hb).trans (hc _ t0)
      have hc1' := (hbel.cell (p := ⟨b, off + k * 3 + 1, none⟩) hb).trans (hc _ t1)
      have hc2 := (hbel.cell (p := ⟨b, off + k * 3 + 2, none⟩) hb).trans (hc _ t2)
      have HS := Lib.hid (ex_step hE.out)
      clear hc
      generalize xs.getD (k * 3) 0 = x at *
      generalize xs.getD (k * 3 + 1) 0 = y at *
      generalize xs.getD (k * 3 + 2) 0 = z at *
      have Hg := Lib.hid (show (wr.alloc (.cells #[.int .i64 x, .int .i64 y, .int .i64 z] 91)).heap[wr.heap.size]? = some (.cells #[.int .i64 x, .int .i64 y, .int .i64 z] 91 (0, 0)) from heap_alloc_new wr _)
      have HbA := Lib.hid (hbel.alloc hbel.size (.cells #[.int .i64 x, .int .i64 y, .int .i64 z] 91))
      have HOA := Lib.hid (hO.out.alloc (.cells #[.int .i64 x, .int .i64 y, .int .i64 z] 91))
      have HsA : Hid (wr.heap.size < (wr.alloc (.cells #[.int .i64 x, .int .i64 y, .int .i64 z] 91)).heap.size ∧ w.heap.size ≤ wr.heap.size) := Lib.hid ⟨by simp, hbel.size⟩
      clear hbel hO
      go_wp2_with fail
      clear hc0 hc1' hc2
      generalize wr.alloc (.cells #[.int .i64 x, .int .i64 y, .int .i64 z] 91) = u at *
      generalize wr.heap.size = bx at *
      refine (iVt_any x y z l.length u (by omega)).mono ?_
      rintro e w1 ⟨rfl, hb1⟩
      cases hv : tokB x y z l.length
      · have HN : Hid (exT xs n = none) := Lib.hid (ex_none (k := k + 1) (by rw [HS.out]; exact step_bad hv) (by omega))
        have HE := Lib.hid (HbA.out.trans (hb1.mono HbA.out.size))
        clear hb1
        go_wp2
        go_ret2
        exact madeO_no HN.out HE.out
      · have Hg1 := Lib.hid ((hb1.block _ HsA.out.1).trans Hg.out)
        have HO1 := Lib.hid (HOA.out.below hb1 (Nat.le_refl _))
        have HB1 := Lib.hid (HbA.out.trans (hb1.mono HbA.out.size))
        have hyy : y = 0 ∨ 3 ≤ y := by
          by_cases e : y = 0
          · exact .inl e
          · exact .inr (tok_pos hv e).1.1
        have hy18 : y ≤ 18 := by
          by_cases e : y = 0
          · omega
          · exact (tok_pos hv e).1.2
        have HV := Lib.hid hv
        obtain ⟨g0, g1, g2⟩ := box3 Hg1.out
        clear hb1 Hg HOA HbA hv
        go_wp2_with fail
        refine (iSize_any x y z w1 hyy).mono ?_
        rintro e w2 ⟨rfl, hb2⟩
        obtain ⟨M, hM⟩ : ∃ M : Int, M = max y 1 := ⟨_, rfl⟩
        have HM := Lib.hid hM
        have hM1 : 1 ≤ M ∧ M ≤ 18 := by omega
        rw [← hM]
        clear hM
        obtain ⟨hM0, hM18⟩ := hM1
        have Hg2 := Lib.hid ((hb2.block _ (show bx < w1.heap.size from by
          rcases Nat.lt_or_ge bx w1.heap.size with h' | h'
          · exact h'
          · have := Hg1.out; rw [Array.getElem?_eq_none h'] at this; cases this)).trans Hg1.out)
        have HO2 := Lib.hid (HO1.out.below hb2 (Nat.le_refl _))
        have HB2 := Lib.hid (HB1.out.trans (hb2.mono HB1.out.size))
        obtain ⟨g0, g1, g2⟩ := box3 Hg2.out
        clear hb2 Hg1 HO1 HB1
        by_cases hfit : (l.length : Int) + M ≤ 1200
        · have HST := Lib.hid (HS.out.trans (step_ok HV.out (by unfold fitT; rw [← HM.out]; exact decide_eq_true hfit)))
          by_cases hy : y = 0
          · have HE1 : Hid (exT xs (k + 1) = some (l ++ [x])) := Lib.hid (by rw [HST.out]; unfold oneT; rw [if_pos hy])
            subst hy
            have HL : Hid (l.length + 1 ≤ 1200) := Lib.hid (by omega)
            have HA := Lib.hid (HO2.out.alloc (.cells #[.int .i64 x] 3))
            have HR1 := Lib.hid (rds_one w2 x)
            have HB3 := Lib.hid (HB2.out.alloc HB2.out.size (.cells #[.int .i64 x] 3))
            have HLt := Lib.hid HO2.out.lt
            clear HO2
            have HGB := Lib.hid (show (w2.alloc (.cells #[.int .i64 x] 3)).heap[bx]? = _ from (((Below.refl w2.heap.size w2).alloc (Nat.le_refl _) _).block bx (by
              rcases Nat.lt_or_ge bx w2.heap.size with h' | h'
              · exact h'
              · have := Hg2.out; rw [Array.getElem?_eq_none h'] at this; cases this)).trans Hg2.out)
            go_wp2_with (at_builtin; refine wpList_app rfl (.tmp 29) (.tmp 32) rfl w.heap.size (.slice A1 l.length c1) l rfl HA.out (some ⟨w2.heap.size, 0, none⟩) 1 1 _ [x] rfl rfl HR1.out (by simp; omega) (by have := HB2.out.size; simp; omega) ?_; intro v3 w3 hO3 hG3; have Hg3 := Lib.hid (box_keep HGB.out (by decide) HA.out hG3); have g1 := (box3 Hg3.out).2.1)
            have HB4 := Lib.hid (HB3.out.grown hG3 HB3.out.size (fun q hq => (HLt.out q hq).1))
            have HO4 := Lib.hid hO3
            clear hO3 hG3 HA HB3
            refine wp_loop_rounds 1 ?_
            rw [rounds_succ]
            go_wp2
            go_roundw
            case rel => exact ⟨k + 1, l ++ [x], by omega, by go_num, HE1, HO4, HB4.out⟩
            case measure => simp [intOf]; omega
          · have hy' : (y == 0) = false := beq_eq_false_iff_ne.2 hy
            obtain ⟨⟨y3, _⟩, z1, z2, z3⟩ := tok_pos HV.out hy
            obtain ⟨K, rfl⟩ := Int.eq_ofNat_of_zero_le (show 0 ≤ z by omega)
            have HE1 : Hid (exT xs (k + 1) = some (cpy l K y.toNat)) := Lib.hid (by rw [HST.out]; unfold oneT; rw [if_neg hy]; rfl)
            have HL0 : Hid (0 < l.length) := Lib.hid (by omega)
            have hfit2 : (l.length : Int) + y ≤ 1200 := by have := HM.out; omega
            clear hy HV HST HS
            go_wp2
            clear g0 g1 g2
            go_loopw [36, 4] (fun i b wr => ∃ j : Nat, (j : Int) ≤ y ∧ i = .int .i64 j ∧ Hid (Own wr w.heap.size b (cpy l K j) ∧ wr.heap[bx]? = some (.cells #[.int .i64 x, .int .i64 y, .int .i64 (K : Int)] 91 (0, 0))) ∧ Below w.heap.size w wr) (fun i _ _ => (y - intOf i).toNat)
            case atStart => exact ⟨0, by omega, rfl, Lib.hid ⟨HO2.out, Hg2.out⟩, HB2.out⟩
            case round =>
              obtain ⟨j, hj, rfl, hI, hbel⟩ := hrel
              obtain ⟨hO, hG⟩ := hI.out
              have HSu := Lib.hid (cpy_succ l K j)
              have hcl := cpy_len l K j
              by_cases hlt2 : (j : Int) < y
              · generalize cpy l K j = P at *
                have hPl : P.length ≤ 1200 := by omega
                have hKP : K ≤ P.length := by omega
                have hP0 : 0 < P.length := by omega
                have HPe := Lib.hid hcl
                obtain ⟨g, cap, rfl, hbg, hgl⟩ := hO.form hP0
                have cv := hO.cell rfl (j := P.length - K) (by omega)
                rw [← HPe.out] at HSu
                obtain ⟨g0, g1, g2⟩ := box3 hG
                generalize P.getD (P.length - K) 0 = q at *
                have r1 : ((P.length : Int) - (K : Int)).toNat = P.length - K := by omega
                have r2 : 0 ≤ (P.length : Int) - (K : Int) := by omega
                have r3 : (P.length : Int) - (K : Int) < (P.length : Int) := by omega
                have HA := Lib.hid (hO.alloc (.cells #[.int .i64 q] 3))
                have HLt := Lib.hid hO.lt
                have HB3 := Lib.hid (hbel.alloc hbel.size (.cells #[.int .i64 q] 3))
                have HGA := Lib.hid hG
                have HsB := Lib.hid hbel.size
                have HGB := Lib.hid (show (wr.alloc (.cells #[.int .i64 q] 3)).heap[bx]? = _ from (((Below.refl wr.heap.size wr).alloc (Nat.le_refl _) _).block bx (by
                  rcases Nat.lt_or_ge bx wr.heap.size with h' | h'
                  · exact h'
                  · have := hG; rw [Array.getElem?_eq_none h'] at this; cases this)).trans hG)
                have HR1 := Lib.hid (rds_one wr q)
                clear hO hG hbel hcl hI
                go_wp2_with (at_builtin; refine wpList_app rfl (.tmp 38) (.tmp 47) rfl w.heap.size (.slice (some ⟨g, 0, none⟩) P.length cap) P rfl HA.out (some ⟨wr.heap.size, 0, none⟩) 1 1 _ [q] rfl rfl HR1.out (by simp; omega) (by have := HsB.out; simp; omega) ?_; intro v3 w3 hO3 hG3)
                have HG4 := Lib.hid (box_keep HGB.out (by decide) HA.out hG3)
                have HB4 := Lib.hid (HB3.out.grown hG3 HB3.out.size (fun q hq => (HLt.out q hq).1))
                have HO4 : Hid (Own w3 w.heap.size v3 (cpy l K (j + 1))) := Lib.hid (by rw [HSu.out]; exact hO3)
                obtain ⟨A3, c3, rfl, hc3⟩ := hO3.slice
                clear hO3 hG3 HA HB3 r1 cv
                go_wp2
                go_roundw
                case rel => exact ⟨j + 1, by omega, by go_num, Lib.hid ⟨HO4.out, HG4.out⟩, HB4.out⟩
                case measure => simp [intOf]; omega
              · have hjy : j = y.toNat := by omega
                have HO4 := Lib.hid hO
                have HE2 : Hid (exT xs (k + 1) = some (cpy l K j)) := Lib.hid (by rw [hjy]; exact HE1.out)
                obtain ⟨A3, c3, rfl, hc3⟩ := hO.slice
                obtain ⟨g0, g1, g2⟩ := box3 hG
                clear hjy hO hG hI
                generalize cpy l K j = P at *
                go_wp2
                go_roundw
                case rel => exact ⟨k + 1, P, by omega, by go_num, HE2, HO4, hbel⟩
                case measure => simp [intOf]; omega
        · have HN : Hid (exT xs n = none) := Lib.hid (ex_none (k := k + 1) (by rw [HS.out]; exact step_full (by unfold fitT; rw [← HM.out]; exact decide_eq_false hfit)) (by omega))
          go_wp2
          go_ret2
          exact madeO_no HN.out HB2.out
    · have hk' : k = n := by omega
      have HN : Hid (exT xs n = some l) := Lib.hid (by rw [← hk']; exact hE.out)
      clear hk'
      go_wp2
      go_ret2
      exact madeO_yes HN.out hO.out hbel
end Go.Proofs.Ytkchhcphljcloaa
