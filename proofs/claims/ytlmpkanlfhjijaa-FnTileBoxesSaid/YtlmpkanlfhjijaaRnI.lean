/- Contract of the program's region of the pixels that a function picks. -/
import Derived.Test.YtlmpkanlfhjijaaRnS
import Derived.Shelf.Abstract
namespace Go.Proofs.Ytlmpkanlfhjijaa
open Go.RowKit
set_option linter.unusedSimpArgs false
set_option linter.unusedVariables false
set_option maxRecDepth 20000

theorem RnSt.call {u w w' : World} {base : Nat} {l : Value} {xs : List Int} (h : RnSt u base w l xs) (hb : Below w.heap.size w w') (hB : base ≤ w.heap.size) : RnSt u base w' l xs := by
  obtain ⟨n, h1, h2, h3, h4⟩ := h
  exact ⟨n, h1, h2, h3.below hb (Nat.le_refl _), h4.trans (hb.mono hB)⟩
theorem set_last {L : List Int} {m : Nat} (hl : L.length = 3 * m) (a b c d : Int) : (L ++ [a, b, c]).set (m * 3 + 2) d = L ++ [a, b, d] := by
  rw [List.set_append_right _ _ (by omega), show m * 3 + 2 - L.length = 2 by omega]
  rfl
set_option maxHeartbeats 8000000 in
theorem i_regionWhere (W H : Nat) (hW : W ≤ 16) (hH : H ≤ 16) (f : Nat) (cs : Array Value) (G : Nat → Nat → Bool) (w : World)
    (eg : ∀ args w, (callFunc f args).run Try.prog w = .ok (.enter f args) w)
    (hc : ∀ (x y : Nat) (w' : World), x < W → y < H → Below w.heap.size w w' → Calls Try.prog f (#[.int .i64 (x : Int), .int .i64 (y : Int)] ++ cs) w' fun e w'' => e = .returned (.bool (G x y)) ∧ Below w'.heap.size w' w'')
    (hGx : ∀ x y, W ≤ x → G x y = false) (hGy : ∀ x y, H ≤ y → G x y = false) :
    Calls Try.prog 56 #[.int .i64 (W : Int), .int .i64 (H : Int), .func (.func f) #[] cs] w (RunsI G w) := by
  have HC := Lib.hid hc
  have HGx := Lib.hid hGx
  have HGy := Lib.hid hGy
  have HI0 : Hid (RnSt w w.heap.size w (.slice none 0 0) (rnk G 0)) := Lib.hid ⟨0, rfl, by omega, OwnT.nil _ _ _ _, Below.refl _ _⟩
  clear hc hGx hGy
  go_enter Try.func56, Try.ntmps56
  go_wp2
  go_loopw [7, 12] (fun v i wr => ∃ y : Nat, y ≤ H ∧ i = .int .i64 y ∧ Hid (RnSt w w.heap.size wr v (rnk G y))) (fun _ i _ => H - (intOf i).toNat)
  case atStart => exact ⟨0, Nat.zero_le _, rfl, HI0⟩
  case round =>
    clear HI0
    obtain ⟨y, hy, rfl, hI⟩ := hrel
    by_cases hylt : y < H
    · go_wp2
      go_loopw [7, 16] (fun v i wr => ∃ k : Nat, k ≤ W ∧ i = .int .i64 k ∧ Hid (RnSt w w.heap.size wr v (rnk G y ++ rowF (rowG G y) y k))) (fun _ i _ => W - (intOf i).toNat)
      case atStart => exact ⟨0, Nat.zero_le _, rfl, by rw [rowF_zero, List.append_nil]; exact hI⟩
      case round =>
        clear hI
        obtain ⟨k, hk, rfl, hJ⟩ := hrel
        by_cases hklt : k < W
        · have hsz : w.heap.size ≤ wr.heap.size := by obtain ⟨n, _, _, _, hb⟩ := hJ.out; exact hb.size
          have hbl : Below w.heap.size w wr := by obtain ⟨n, _, _, _, hb⟩ := hJ.out; exact hb
          go_wp2_with fail
          refine (HC.out k y wr hklt hylt hbl).mono ?_
          rintro e w2 ⟨rfl, hB2⟩
          have HK := Lib.hid (hJ.out.call hB2 hsz)
          have HsB : Hid (w.heap.size ≤ w2.heap.size) := Lib.hid (by have := hB2.size; omega)
          have HR : Hid (rowG G y k = G k y) := Lib.hid (by unfold rowG; rw [decide_eq_true (by omega), Bool.true_and])
          clear hJ hB2 hbl hsz
          cases hv : G k y
          · have HN : Hid (RnSt w w.heap.size w2 u7 (rnk G y ++ rowF (rowG G y) y (k + 1))) := Lib.hid (by rw [rowF_off (by rw [HR.out, hv])]; exact HK.out)
            clear HK hv
            go_wp2
            go_roundw
            case rel => exact ⟨k + 1, by omega, by go_num, HN⟩
            case measure => simp [intOf]; omega
          · have hb : rowG G y k = true := by rw [HR.out, hv]
            clear hv HR
            by_cases h0 : (rowS (rowG G y) y k).2 < 0
            · -- a new run
              have HE : Hid (rnk G y ++ rowF (rowG G y) y (k + 1) = (rnk G y ++ rowF (rowG G y) y k) ++ [(y : Int), (k : Int), (k : Int) + 1]) := Lib.hid (by
                rw [rowF_on_new hb h0, List.append_assoc]; simp)
              have HLast := Lib.hid (open_no h0)
              obtain ⟨n, hl, hn, hO, hbel⟩ := HK.out
              have hn2 : n ≤ 290 := by
                obtain ⟨n1, e1, e2⟩ := rnk_len G y
                obtain ⟨n2, e3, e4⟩ := rowF_len (G := rowG G y) (y := (y : Int)) k
                rw [List.length_append, e1, e3] at hl; omega
              obtain ⟨A1, c1, rfl, hc1⟩ := hO.slice
              have HO := Lib.hid (hO.alloc (.cells #[.int .i64 (y : Int), .int .i64 (k : Int), .int .i64 ((k : Int) + 1)] 82))
              have HLt := Lib.hid hO.lt
              have HA := Lib.hid (hbel.alloc hbel.size (.cells #[.int .i64 (y : Int), .int .i64 (k : Int), .int .i64 ((k : Int) + 1)] 82))
              have HRC := Lib.hid (run_cells w2 (y : Int) (k : Int) ((k : Int) + 1) 82)
              have HL := Lib.hid hl
              have hcase : n = 0 ∨ ∃ (m : Nat) (a c : Int), n = m + 1 ∧ 0 < n ∧ A1 ≠ none ∧ (∀ ad, A1 = some ad → w2.cell? ⟨ad.block, ad.off + m * 3, none⟩ = some (.int .i64 a) ∧ w2.cell? ⟨ad.block, ad.off + m * 3 + 2, none⟩ = some (.int .i64 c) ∧ ad.spot = none) ∧ (a < (y : Int) ∨ (a = (y : Int) ∧ c < (k : Int))) := by
                rcases Nat.eq_zero_or_pos n with h | h
                · exact .inl h
                · obtain ⟨m, rfl⟩ : ∃ m, n = m + 1 := ⟨n - 1, by omega⟩
                  have hg := HLast.out.get hl h
                  rw [Nat.add_sub_cancel] at hg
                  obtain ⟨gg, cap, ev, hbg, hgl⟩ := hO.form h
                  simp only [Value.slice.injEq] at ev
                  obtain ⟨rfl, _, rfl⟩ := ev
                  refine .inr ⟨m, gY (rnk G y ++ rowF (rowG G y) y k) m, gT (rnk G y ++ rowF (rowG G y) y k) m, rfl, h, by simp, fun ad had => ?_, hg⟩
                  obtain rfl := Option.some.inj had
                  refine ⟨?_, ?_, rfl⟩
                  · rw [Nat.zero_add]; exact hO.cell (by omega)
                  · rw [Nat.zero_add]; exact hO.cell (by omega)
              clear hO hbel HK h0 hb hl HLast
              rcases hcase with rfl | ⟨m, a, c, rfl, _, hne, hcl, hg⟩
              · go_wp2_with (at_builtin; refine wpList_appRun rfl (.tmp 55) (.tmp 61) rfl w.heap.size (.slice A1 0 c1) 0 _ rfl HO.out w2.heap.size 1 1 [(y : Int), (k : Int), (k : Int) + 1] rfl (by simp) HRC.out (by omega) (by have := HsB.out; simp; omega) ?_; intro v3 w3 hO3 hG3)
                have HN : Hid (RnSt w w.heap.size w3 v3 (rnk G y ++ rowF (rowG G y) y (k + 1))) := Lib.hid (by
                  rw [HE.out]
                  exact ⟨1, by rw [List.length_append, HL.out]; simp, by omega, hO3, HA.out.grown hG3 HA.out.size (fun k hk => (HLt.out k hk).1)⟩)
                clear hO3 hG3 HA HO HRC HE HL
                go_wp2
                go_roundw
                case rel => exact ⟨k + 1, by omega, by go_num, HN⟩
                case measure => simp [intOf]; omega
              · obtain ⟨ad, rfl⟩ := Option.ne_none_iff_exists'.1 hne
                obtain ⟨c0, c2, hel⟩ := hcl ad rfl
                obtain ⟨ab, ao, ae⟩ := ad
                simp only at c0 c2 hel
                subst hel
                clear hcl hne
                by_cases ha : a = (y : Int)
                · have hcne : ¬ c = (k : Int) := by omega
                  have hcneB : (c == (k : Int)) = false := beq_eq_false_iff_ne.2 hcne
                  subst ha
                  go_wp2_with (at_builtin; refine wpList_appRun rfl (.tmp 55) (.tmp 61) rfl w.heap.size (.slice (some ⟨ab, ao, none⟩) (m + 1) c1) (m + 1) _ rfl HO.out w2.heap.size 1 1 [(y : Int), (k : Int), (k : Int) + 1] rfl (by simp) HRC.out (by omega) (by have := HsB.out; simp; omega) ?_; intro v3 w3 hO3 hG3)
                  have HN : Hid (RnSt w w.heap.size w3 v3 (rnk G y ++ rowF (rowG G y) y (k + 1))) := Lib.hid (by
                    rw [HE.out]
                    exact ⟨m + 1 + 1, by rw [List.length_append, HL.out]; simp; omega, by omega, hO3, HA.out.grown hG3 HA.out.size (fun k hk => (HLt.out k hk).1)⟩)
                  clear hO3 hG3 HA HO HRC HE HL c0 c2
                  go_wp2
                  go_roundw
                  case rel => exact ⟨k + 1, by omega, by go_num, HN⟩
                  case measure => simp [intOf]; omega
                · have haB : (a == (y : Int)) = false := beq_eq_false_iff_ne.2 ha
                  go_wp2_with (at_builtin; refine wpList_appRun rfl (.tmp 55) (.tmp 61) rfl w.heap.size (.slice (some ⟨ab, ao, none⟩) (m + 1) c1) (m + 1) _ rfl HO.out w2.heap.size 1 1 [(y : Int), (k : Int), (k : Int) + 1] rfl (by simp) HRC.out (by omega) (by have := HsB.out; simp; omega) ?_; intro v3 w3 hO3 hG3)
                  have HN : Hid (RnSt w w.heap.size w3 v3 (rnk G y ++ rowF (rowG G y) y (k + 1))) := Lib.hid (by
                    rw [HE.out]
                    exact ⟨m + 1 + 1, by rw [List.length_append, HL.out]; simp; omega, by omega, hO3, HA.out.grown hG3 HA.out.size (fun k hk => (HLt.out k hk).1)⟩)
                  clear hO3 hG3 HA HO HRC HE HL c0 c2
                  go_wp2
                  go_roundw
                  case rel => exact ⟨k + 1, by omega, by go_num, HN⟩
                  case measure => simp [intOf]; omega
            · -- the last run grows
              obtain ⟨e1, e2⟩ := rowF_on_old hb h0
              obtain ⟨n, hl, hn, hO, hbel⟩ := HK.out
              rw [e1, ← List.append_assoc] at hl hO
              obtain ⟨m, rfl⟩ : ∃ m, n = m + 1 := ⟨n - 1, by simp at hl; omega⟩
              have hlm : (rnk G y ++ (rowS (rowG G y) y k).1).length = 3 * m := by rw [List.length_append] at hl; simp at hl ⊢; omega
              obtain ⟨gg, cap, rfl, hbg, hgl⟩ := hO.form (by omega)
              obtain ⟨q1, q2, q3⟩ := gY_new hlm (y : Int) (rowS (rowG G y) y k).2 (k : Int)
              have c0 := hO.cell (j := m * 3) (by omega)
              have c2 := hO.cell (j := m * 3 + 2) (by omega)
              have f2 := hO.frozen (m * 3 + 2)
              rw [show List.getD _ (m * 3) 0 = (y : Int) from q1] at c0
              rw [show List.getD _ (m * 3 + 2) 0 = (k : Int) from q3] at c2
              have hp := hO.put (m * 3 + 2) ((k : Int) + 1)
              rw [set_last hlm] at hp
              have HN : Hid (RnSt w w.heap.size (w2.setCell ⟨gg, m * 3 + 2, none⟩ (.int .i64 ((k : Int) + 1))) (.slice (some ⟨gg, 0, none⟩) (m + 1) cap) (rnk G y ++ rowF (rowG G y) y (k + 1))) := Lib.hid (by
                rw [e2, ← List.append_assoc, show ((k + 1 : Nat) : Int) = (k : Int) + 1 by omega]
                exact ⟨m + 1, by rw [List.length_append] at hl ⊢; simp at hl ⊢; omega, hn, hp.1, hbel.setCell (by exact hbg) _⟩)
              have hcap : m + 1 ≤ cap := by
                obtain ⟨A9, c9, e9, h9⟩ := hO.slice
                simp only [Value.slice.injEq] at e9
                omega
              clear hO hbel HK h0 hb hl hlm e1 e2 q1 q2 q3 hp
              go_wp2
              go_roundw
              case rel => exact ⟨k + 1, by omega, by go_num, HN⟩
              case measure => simp [intOf]; omega
        · have HN : Hid (RnSt w w.heap.size wr u7 (rnk G (y + 1))) := Lib.hid (by
            rw [rnk_row hW (fun x hx => HGx.out x y hx)]
            have := hJ.out
            rwa [show k = W by omega] at this)
          clear hJ
          go_wp2
          go_roundw
          case rel => exact ⟨y + 1, by omega, by go_num, HN⟩
          case measure => simp [intOf]; omega
    · obtain ⟨n, hl, hn, hO, hbel⟩ := hI.out
      obtain ⟨A1, c1, rfl, hc1⟩ := hO.slice
      have HE : Hid (RunsI G w (.returned (.slice A1 n c1)) wr) := Lib.hid (by
        have e : rnk G y = rnL G := by rw [show y = H by omega]; exact (rnL_of hH HGy.out).symm
        rw [e] at hl hO
        have e2 : n = rnN G := by have := (rnL_len G).1; omega
        refine ⟨_, rfl, ?_, hbel⟩
        rw [← e2]; exact hO)
      clear hI hO hbel hl
      go_wp2
      go_ret
      exact HE.out
end Go.Proofs.Ytlmpkanlfhjijaa
