/- Grids of the model that grow and shrink. -/
import Derived.Test.YtoeifhflbgfcjaaDoorRnS
import Derived.Test.YtoeifhflbgfcjaaDoorDsc
import Derived.Test.YtoeifhflbgfcjaaDoorHasS
import Derived.Test.YtoeifhflbgfcjaaDoorReg3
import Derived.Laws.AppendOwn
namespace Go.Proofs.YtoeifhflbgfcjaaDoor
open Go.RowKit
set_option linter.unusedSimpArgs false
set_option linter.unusedVariables false
set_option maxRecDepth 100000

/-- Block g holds a grid (and perhaps more). -/
def GX (w : World) (g : Nat) (F : Nat → Bool) : Prop := ∃ cur : Array Value, w.heap[g]? = some (.cells cur 4 (0, 0)) ∧ 256 ≤ cur.size ∧ ∀ j, j < 256 → cur[j]? = some (.bool (F j))
section
variable {w w' : World} {g : Nat} {F F' : Nat → Bool}
theorem GX.lt (h : GX w g F) : g < w.heap.size := by
  obtain ⟨cur, h1, _⟩ := h
  rcases Nat.lt_or_ge g w.heap.size with h' | h'
  · exact h'
  · rw [Array.getElem?_eq_none h'] at h1; cases h1
theorem GX.cell (h : GX w g F) {j : Nat} (hj : j < 256) : w.cell? ⟨g, j, none⟩ = some (.bool (F j)) := by
  obtain ⟨cur, h1, h2, h3⟩ := h
  rw [cell_of_row w g j _ _ _ h1]; exact h3 j hj
theorem GX.frozen (h : GX w g F) (j : Nat) : w.frozen? ⟨g, j, none⟩ = false := by
  obtain ⟨cur, h1, h2, h3⟩ := h
  exact frozen_of_row w g j _ _ h1
theorem GX.congr (h : GX w g F) (he : ∀ j, j < 256 → F j = F' j) : GX w g F' := by
  obtain ⟨cur, h1, h2, h3⟩ := h
  exact ⟨cur, h1, h2, fun j hj => by rw [← he j hj]; exact h3 j hj⟩
theorem GX.keep (h : GX w g F) (he : w'.heap[g]? = w.heap[g]?) : GX w' g F := by
  obtain ⟨cur, h1, h2, h3⟩ := h
  exact ⟨cur, he.trans h1, h2, h3⟩
theorem GX.below {B : Nat} (h : GX w g F) (hb : Below B w w') (hg : g < B) : GX w' g F := h.keep (hb.block g hg)
theorem GX.put (h : GX w g F) {j0 : Nat} (hj : j0 < 256) (b : Bool) : GX (w.setCell ⟨g, j0, none⟩ (.bool b)) g (fun j => if j = j0 then b else F j) := by
  obtain ⟨cur, h1, h2, h3⟩ := h
  refine ⟨cur.setIfInBounds j0 (.bool b), heap_setCell_same w g j0 _ _ _ h1, by simpa using h2, fun j hj' => ?_⟩
  by_cases e : j = j0
  · subst e
    show (cur.setIfInBounds j (.bool b))[j]? = some (.bool (if j = j then b else F j))
    rw [Array.getElem?_setIfInBounds_self_of_lt (by omega), if_pos rfl]
  · show (cur.setIfInBounds j0 (.bool b))[j]? = some (.bool (if j = j0 then b else F j))
    rw [Array.getElem?_setIfInBounds_ne (by omega), if_neg e]; exact h3 j hj'
theorem GX.other (h : GX w g F) {g2 j0 : Nat} (hne : g ≠ g2) (v : Value) : GX (w.setCell ⟨g2, j0, none⟩ v) g F := h.keep (heap_setCell_other w ⟨g2, j0, none⟩ g _ hne)
theorem GX.of_fn (h : GridFn w g F) : GX w g F := by
  obtain ⟨gs, h1, h2, h3⟩ := h
  refine ⟨_, h1, by simp [h2], fun j hj => ?_⟩
  have := h3 j hj
  rw [← this]
  simp [h2, hj]
theorem GX.of_row {base cap : Nat} {A : Option Addr} {gs : List Value} (h : w.ownsRow base 4 1 (.slice A 256 cap) 256 gs) (hgs : gs = (List.range 256).map fun j => .bool (F j)) : ∃ g, A = some ⟨g, 0, none⟩ ∧ base ≤ g ∧ GX w g F := by
  rcases h.2 with ⟨_, h0⟩ | ⟨g, cap', cur, hv, hbg, hg, hnc, hcm, hcs, ht⟩
  · cases h0
  · simp only [Value.slice.injEq] at hv
    obtain ⟨rfl, _, rfl⟩ := hv
    refine ⟨g, rfl, hbg, cur, hg, by omega, fun j hj => ?_⟩
    have e : (cur.toList.take (256 * 1))[j]? = some (.bool (F j)) := by rw [ht, hgs]; simp [hj]
    rw [List.getElem?_take_of_lt (by omega)] at e
    rw [← Array.getElem?_toList]; exact e
end
theorem bools_oneCell (F : Nat → Bool) : ∀ u ∈ (List.range 256).map (fun j => (Value.bool (F j))), u.oneCell' = true := by
  intro u hu
  obtain ⟨j, _, rfl⟩ := List.mem_map.1 hu
  rfl
theorem wpList_appGrid {w : World} {ops : Array Oper} {rest : List Oper} {o : Oper} {a : Act} {Q : Exit → Act → World → Prop} (hgd : o.guard = none) (s x : Operand)
    (ho : o.op = .call { callee := .builtin .append, args := #[s, x], argTypes := #[53, 53] })
    (base : Nat) (v : Value) (hs : a.eval s = v) (hown : w.ownsRow base 4 1 v 0 [])
    (b c : Nat) (F : Nat → Bool) (hx : a.eval x = .slice (some ⟨b, 0, .none⟩) 256 c) (hr : ∀ j, j < 256 → w.cell? ⟨b, j, .none⟩ = some (.bool (F j))) (hbase : base ≤ w.heap.size)
    (h : ∀ g c' w', base ≤ g → GX w' g F → w.grownBy w' v.ownBlock → wpList Tryd.prog ops Q rest (a.put o.dst (.slice (some ⟨g, 0, none⟩) 256 c')) w') : wpList Tryd.prog ops Q (o :: rest) a w := by
  obtain ⟨i, hi, hz, hsz, hb⟩ := info_parts info_bool
  refine wpList_append_own w hgd s x 53 ho base 4 i (.bool false) 1 1 Tryd.underlying53 hi hz hsz hb rfl (by omega) v 0 [] hs hown ⟨b, 0, .none⟩ 256 c ((List.range 256).map fun j => .bool (F j)) hx (by simp) ?_ (bools_oneCell F)
    (by unfold maxLen; omega) (by omega) hbase ?_
  · intro j u hu
    have hj : j < 256 := by
      rcases Nat.lt_or_ge j 256 with h | h
      · exact h
      · rw [List.getElem?_eq_none (by simpa using h)] at hu; cases hu
    have e : (⟨b, 0, .none⟩ : Addr).add j = ⟨b, j, .none⟩ := (add_spot rfl j).trans (by simp)
    rw [e, hr j hj]
    simp [hj] at hu ⊢
    exact hu
  · intro v' w' ho' hg hv
    have hsl : ∃ A c', v' = .slice A 256 c' := by
      rcases ho'.2 with ⟨_, h0⟩ | ⟨g, cap, cur, hv', _⟩
      · cases h0
      · exact ⟨_, _, hv'⟩
    obtain ⟨A, c', rfl⟩ := hsl
    obtain ⟨g, rfl, hbg, hgx⟩ := GX.of_row (F := F) (by simpa using ho') rfl
    exact h g c' w' hbg hgx hg

/-- A grid with the neighbours of its pixels, its edge, the grid without its edge. -/
def gwF (F : Nat → Bool) (p : Nat) : Bool := F p || ((decide (0 < p % 16) && F (p - 1)) || ((decide (p % 16 < 15) && F (p + 1)) || ((decide (0 < p / 16) && F (p - 16)) || (decide (p / 16 < 15) && F (p + 16)))))
def inF (F : Nat → Bool) (p : Nat) : Bool := (decide (0 < p % 16) && (decide (p % 16 < 15) && (decide (0 < p / 16) && decide (p / 16 < 15)))) && (F (p - 1) && (F (p + 1) && (F (p - 16) && F (p + 16))))
def edF (F : Nat → Bool) (p : Nat) : Bool := F p && !inF F p
def skF (F : Nat → Bool) (p : Nat) : Bool := F p && !edF F p
/-- Half way: the first p pixels are new. -/
def upF (N O : Nat → Bool) (p j : Nat) : Bool := if j < p then N j else O j
theorem upF_zero (N O : Nat → Bool) (j : Nat) : upF N O 0 j = O j := by unfold upF; rw [if_neg (by omega)]
theorem upF_all (N O : Nat → Bool) (j : Nat) (h : j < 256) : upF N O 256 j = N j := by unfold upF; rw [if_pos h]
theorem upF_step (N O : Nat → Bool) (p : Nat) (b : Bool) (hb : N p = b) (j : Nat) : (if j = p then b else upF N O p j) = upF N O (p + 1) j := by
  unfold upF
  by_cases e : j = p
  · subst e; rw [if_pos rfl, if_pos (by omega), hb]
  · rw [if_neg e]
    by_cases h : j < p
    · rw [if_pos h, if_pos (by omega)]
    · rw [if_neg h, if_neg (by omega)]
set_option maxHeartbeats 64000000 in
theorem s_grow (g c : Nat) (F : Nat → Bool) (w : World) (hg : g < w.heap.size) (hF : ∀ j, j < 256 → w.cell? ⟨g, j, none⟩ = some (.bool (F j))) :
    Calls Tryd.prog 73 #[.slice (some ⟨g, 0, none⟩) 256 c] w fun e w' => ∃ g' c', e = .returned (.slice (some ⟨g', 0, none⟩) 256 c') ∧ GX w' g' (gwF F) ∧ Below w.heap.size w w' := by
  have HF := Lib.hid hF
  have HO0 : Hid ((w.alloc (.cells #[] 4)).ownsRow w.heap.size 4 1 (.slice (some ⟨w.heap.size, 0, none⟩) 0 0) 0 []) := Lib.hid (World.ownsRow_made w #[] 0 (Nat.le_refl _) (Nat.zero_le _) (by simp))
  have HB0 : Hid (Below w.heap.size w (w.alloc (.cells #[] 4))) := Lib.hid ((Below.refl _ _).alloc (Nat.le_refl _) _)
  have HF0 : Hid (∀ j, j < 256 → (w.alloc (.cells #[] 4)).cell? ⟨g, j, none⟩ = some (.bool (F j))) := Lib.hid (fun j hj => (HB0.out.cell (p := ⟨g, j, none⟩) hg).trans (hF j hj))
  clear hF
  go_enter Tryd.func73, Tryd.ntmps73
  go_wp2_with (at_builtin; refine wpList_appGrid rfl (.tmp 8) (.tmp 9) rfl w.heap.size (.slice (some ⟨w.heap.size, 0, none⟩) 0 0) (by simp [Act.eval]) HO0.out g c F (by simp [Act.eval]) HF0.out (by simp) ?_; intro o c2 w2 ho hO2 hG2)
  have HO2 := Lib.hid hO2
  have HB2 : Hid (Below w.heap.size w w2) := Lib.hid (HB0.out.grown hG2 HB0.out.size (fun j hj => (World.ownsRow.lt HO0.out j hj).1))
  have HF2 : Hid (∀ j, j < 256 → w2.cell? ⟨g, j, none⟩ = some (.bool (F j))) := Lib.hid (fun j hj => (HB2.out.cell (p := ⟨g, j, none⟩) hg).trans (HF.out j hj))
  have hne : g ≠ o := by omega
  have Ho := Lib.hid ho
  have Hne := Lib.hid hne
  clear hO2 hG2 HO0 HB0 HF0 HF ho hne hg
  have HI0 : Hid (GX w2 o (upF (gwF F) F 0) ∧ (∀ j, j < 256 → w2.cell? ⟨g, j, none⟩ = some (.bool (F j))) ∧ Below w.heap.size w w2) := Lib.hid ⟨HO2.out.congr (fun j _ => (upF_zero _ _ j).symm), HF2.out, HB2.out⟩
  clear HO2 HF2 HB2
  go_wp2
  go_loopw [5] (fun i wr => ∃ p : Nat, p ≤ 256 ∧ i = .int .i64 (p : Int) ∧ Hid (GX wr o (upF (gwF F) F p) ∧ (∀ j, j < 256 → wr.cell? ⟨g, j, none⟩ = some (.bool (F j))) ∧ Below w.heap.size w wr)) (fun i _ => 256 - (intOf i).toNat)
  case atStart => exact ⟨0, by omega, rfl, HI0⟩
  case round =>
    clear HI0
    obtain ⟨p, hp, rfl, hI⟩ := hrel
    rename World => wr
    by_cases hlt : p < 256
    · obtain ⟨m, hm⟩ : ∃ m, m = p % 16 := ⟨_, rfl⟩
      obtain ⟨q, hq⟩ : ∃ q, q = p / 16 := ⟨_, rfl⟩
      have hm15 : m ≤ 15 := by omega
      have hq15 : q ≤ 15 := by omega
      have hpm : p = q * 16 + m := by omega
      have e1 : (p : Int).tmod 16 = (m : Int) := by rw [hm, Int.tmod_eq_emod_of_nonneg (by omega)]; omega
      have e2 : (p : Int).tdiv 16 = (q : Int) := by rw [hq, Int.tdiv_eq_ediv_of_nonneg (by omega)]; omega
      have e3 : (p : Int) % 16 = (m : Int) := by omega
      have e4 : (p : Int) / 16 = (q : Int) := by omega
      have hF := hI.out.2.1
      have f0 := hF p hlt
      have z0 : wr.frozen? ⟨o, p, none⟩ = false := hI.out.1.frozen p
      have s0 := hI.out.1.cell hlt
      have hpI : (p : Int) < 256 := by omega
      have HN : Hid (∀ b : Bool, gwF F p = b → GX (wr.setCell ⟨o, p, none⟩ (.bool b)) o (upF (gwF F) F (p + 1)) ∧ (∀ j, j < 256 → (wr.setCell ⟨o, p, none⟩ (.bool b)).cell? ⟨g, j, none⟩ = some (.bool (F j))) ∧ Below w.heap.size w (wr.setCell ⟨o, p, none⟩ (.bool b))) := Lib.hid (fun b hb => ⟨(hI.out.1.put hlt b).congr (fun j _ => upF_step _ _ p b hb j), fun j hj => (World.cell?_of_block (heap_setCell_other wr ⟨o, p, none⟩ g _ Hne.out)).trans (hI.out.2.1 j hj), hI.out.2.2.setCell Ho.out _⟩)
      have HG : gwF F p = (F p || ((decide (0 < m) && F (p - 1)) || ((decide (m < 15) && F (p + 1)) || ((decide (0 < q) && F (p - 16)) || (decide (q < 15) && F (p + 16)))))) := by unfold gwF; rw [hm, hq]
      have HGh := Lib.hid HG
      clear hI HG hm hq
      generalize upF (gwF F) F p p = sp at s0
      cases h0 : F p
      · rw [h0] at f0
        by_cases hx : 0 < m
        · have hxI : (0 : Int) < (m : Int) := by omega
          have hxc := hF (p - 1) (by omega)
          have hxi : ((p - 1 : Nat) : Int) = (p : Int) - 1 := by omega
          have hxj : ((p : Int) - 1).toNat = p - 1 := by omega
          have hxb : 0 ≤ (p : Int) - 1 ∧ (p : Int) - 1 < 256 := by omega
          cases hxv : F (p - 1)
          · rw [hxv] at hxc
            by_cases hX : m < 15
            · have hXI : (m : Int) < 15 := by omega
              have hXc := hF (p + 1) (by omega)
              have hXb : (p : Int) + 1 < 256 := by omega
              have hXj : ((p : Int) + 1).toNat = p + 1 := by omega
              cases hXv : F (p + 1)
              · rw [hXv] at hXc
                by_cases hy : 0 < q
                · have hyI : (0 : Int) < (q : Int) := by omega
                  have hyc := hF (p - 16) (by omega)
                  have hyi : ((p - 16 : Nat) : Int) = (p : Int) - 16 := by omega
                  have hyj : ((p : Int) - 16).toNat = p - 16 := by omega
                  have hyb : 0 ≤ (p : Int) - 16 ∧ (p : Int) - 16 < 256 := by omega
                  cases hyv : F (p - 16)
                  · rw [hyv] at hyc
                    by_cases hY : q < 15
                    · have hYI : (q : Int) < 15 := by omega
                      have hYc := hF (p + 16) (by omega)
                      have hYb : (p : Int) + 16 < 256 := by omega
                      have hYj : ((p : Int) + 16).toNat = p + 16 := by omega
                      cases hYv : F (p + 16)
                      · rw [hYv] at hYc
                        have HV : gwF F p = false := by rw [HGh.out, h0, hxv, decide_eq_true hx, hXv, decide_eq_true hX, hyv, decide_eq_true hy, hYv, decide_eq_true hY]; rfl
                        have HN3 := Lib.hid (HN.out _ HV)
                        clear HN HV HGh hF hpm
                        go_wp2
                        go_roundw
                        case rel => exact ⟨p + 1, by omega, by go_num, HN3⟩
                        case measure => simp [intOf]; omega
                      · rw [hYv] at hYc
                        have HV : gwF F p = true := by rw [HGh.out, h0, hxv, decide_eq_true hx, hXv, decide_eq_true hX, hyv, decide_eq_true hy, hYv, decide_eq_true hY]; rfl
                        have HN3 := Lib.hid (HN.out _ HV)
                        clear HN HV HGh hF hpm
                        go_wp2
                        go_roundw
                        case rel => exact ⟨p + 1, by omega, by go_num, HN3⟩
                        case measure => simp [intOf]; omega
                    · have hYI : ¬ (q : Int) < 15 := by omega
                      have HV : gwF F p = false := by rw [HGh.out, h0, hxv, decide_eq_true hx, hXv, decide_eq_true hX, hyv, decide_eq_true hy, decide_eq_false hY]; rfl
                      have HN3 := Lib.hid (HN.out _ HV)
                      clear HN HV HGh hF hpm
                      go_wp2
                      go_roundw
                      case rel => exact ⟨p + 1, by omega, by go_num, HN3⟩
                      case measure => simp [intOf]; omega
                  · rw [hyv] at hyc
                    have HV : gwF F p = true := by rw [HGh.out, h0, hxv, decide_eq_true hx, hXv, decide_eq_true hX, hyv, decide_eq_true hy]; rfl
                    have HN3 := Lib.hid (HN.out _ HV)
                    clear HN HV HGh hF hpm
                    go_wp2
                    go_roundw
                    case rel => exact ⟨p + 1, by omega, by go_num, HN3⟩
                    case measure => simp [intOf]; omega
                · have hyI : ¬ (0 : Int) < (q : Int) := by omega
                  by_cases hY : q < 15
                  · have hYI : (q : Int) < 15 := by omega
                    have hYc := hF (p + 16) (by omega)
                    have hYb : (p : Int) + 16 < 256 := by omega
                    have hYj : ((p : Int) + 16).toNat = p + 16 := by omega
                    cases hYv : F (p + 16)
                    · rw [hYv] at hYc
                      have HV : gwF F p = false := by rw [HGh.out, h0, hxv, decide_eq_true hx, hXv, decide_eq_true hX, decide_eq_false hy, hYv, decide_eq_true hY]; rfl
                      have HN3 := Lib.hid (HN.out _ HV)
                      clear HN HV HGh hF hpm
                      go_wp2
                      go_roundw
                      case rel => exact ⟨p + 1, by omega, by go_num, HN3⟩
                      case measure => simp [intOf]; omega
                    · rw [hYv] at hYc
                      have HV : gwF F p = true := by rw [HGh.out, h0, hxv, decide_eq_true hx, hXv, decide_eq_true hX, decide_eq_false hy, hYv, decide_eq_true hY]; rfl
                      have HN3 := Lib.hid (HN.out _ HV)
                      clear HN HV HGh hF hpm
                      go_wp2
                      go_roundw
                      case rel => exact ⟨p + 1, by omega, by go_num, HN3⟩
                      case measure => simp [intOf]; omega
                  · exfalso
                    omega
              · rw [hXv] at hXc
                have HV : gwF F p = true := by rw [HGh.out, h0, hxv, decide_eq_true hx, hXv, decide_eq_true hX]; rfl
                have HN3 := Lib.hid (HN.out _ HV)
                clear HN HV HGh hF hpm
                go_wp2
                go_roundw
                case rel => exact ⟨p + 1, by omega, by go_num, HN3⟩
                case measure => simp [intOf]; omega
            · have hXI : ¬ (m : Int) < 15 := by omega
              by_cases hy : 0 < q
              · have hyI : (0 : Int) < (q : Int) := by omega
                have hyc := hF (p - 16) (by omega)
                have hyi : ((p - 16 : Nat) : Int) = (p : Int) - 16 := by omega
                have hyj : ((p : Int) - 16).toNat = p - 16 := by omega
                have hyb : 0 ≤ (p : Int) - 16 ∧ (p : Int) - 16 < 256 := by omega
                cases hyv : F (p - 16)
                · rw [hyv] at hyc
                  by_cases hY : q < 15
                  · have hYI : (q : Int) < 15 := by omega
                    have hYc := hF (p + 16) (by omega)
                    have hYb : (p : Int) + 16 < 256 := by omega
                    have hYj : ((p : Int) + 16).toNat = p + 16 := by omega
                    cases hYv : F (p + 16)
                    · rw [hYv] at hYc
                      have HV : gwF F p = false := by rw [HGh.out, h0, hxv, decide_eq_true hx, decide_eq_false hX, hyv, decide_eq_true hy, hYv, decide_eq_true hY]; rfl
                      have HN3 := Lib.hid (HN.out _ HV)
                      clear HN HV HGh hF hpm
                      go_wp2
                      go_roundw
                      case rel => exact ⟨p + 1, by omega, by go_num, HN3⟩
                      case measure => simp [intOf]; omega
                    · rw [hYv] at hYc
                      have HV : gwF F p = true := by rw [HGh.out, h0, hxv, decide_eq_true hx, decide_eq_false hX, hyv, decide_eq_true hy, hYv, decide_eq_true hY]; rfl
                      have HN3 := Lib.hid (HN.out _ HV)
                      clear HN HV HGh hF hpm
                      go_wp2
                      go_roundw
                      case rel => exact ⟨p + 1, by omega, by go_num, HN3⟩
                      case measure => simp [intOf]; omega
                  · have hYI : ¬ (q : Int) < 15 := by omega
                    have HV : gwF F p = false := by rw [HGh.out, h0, hxv, decide_eq_true hx, decide_eq_false hX, hyv, decide_eq_true hy, decide_eq_false hY]; rfl
                    have HN3 := Lib.hid (HN.out _ HV)
                    clear HN HV HGh hF hpm
                    go_wp2
                    go_roundw
                    case rel => exact ⟨p + 1, by omega, by go_num, HN3⟩
                    case measure => simp [intOf]; omega
                · rw [hyv] at hyc
                  have HV : gwF F p = true := by rw [HGh.out, h0, hxv, decide_eq_true hx, decide_eq_false hX, hyv, decide_eq_true hy]; rfl
                  have HN3 := Lib.hid (HN.out _ HV)
                  clear HN HV HGh hF hpm
                  go_wp2
                  go_roundw
                  case rel => exact ⟨p + 1, by omega, by go_num, HN3⟩
                  case measure => simp [intOf]; omega
              · have hyI : ¬ (0 : Int) < (q : Int) := by omega
                by_cases hY : q < 15
                · have hYI : (q : Int) < 15 := by omega
                  have hYc := hF (p + 16) (by omega)
                  have hYb : (p : Int) + 16 < 256 := by omega
                  have hYj : ((p : Int) + 16).toNat = p + 16 := by omega
                  cases hYv : F (p + 16)
                  · rw [hYv] at hYc
                    have HV : gwF F p = false := by rw [HGh.out, h0, hxv, decide_eq_true hx, decide_eq_false hX, decide_eq_false hy, hYv, decide_eq_true hY]; rfl
                    have HN3 := Lib.hid (HN.out _ HV)
                    clear HN HV HGh hF hpm
                    go_wp2
                    go_roundw
                    case rel => exact ⟨p + 1, by omega, by go_num, HN3⟩
                    case measure => simp [intOf]; omega
                  · rw [hYv] at hYc
                    have HV : gwF F p = true := by rw [HGh.out, h0, hxv, decide_eq_true hx, decide_eq_false hX, decide_eq_false hy, hYv, decide_eq_true hY]; rfl
                    have HN3 := Lib.hid (HN.out _ HV)
                    clear HN HV HGh hF hpm
                    go_wp2
                    go_roundw
                    case rel => exact ⟨p + 1, by omega, by go_num, HN3⟩
                    case measure => simp [intOf]; omega
                · exfalso
                  omega
          · rw [hxv] at hxc
            have HV : gwF F p = true := by rw [HGh.out, h0, hxv, decide_eq_true hx]; rfl
            have HN3 := Lib.hid (HN.out _ HV)
            clear HN HV HGh hF hpm
            go_wp2
            go_roundw
            case rel => exact ⟨p + 1, by omega, by go_num, HN3⟩
            case measure => simp [intOf]; omega
        · have hxI : ¬ (0 : Int) < (m : Int) := by omega
          by_cases hX : m < 15
          · have hXI : (m : Int) < 15 := by omega
            have hXc := hF (p + 1) (by omega)
            have hXb : (p : Int) + 1 < 256 := by omega
            have hXj : ((p : Int) + 1).toNat = p + 1 := by omega
            cases hXv : F (p + 1)
            · rw [hXv] at hXc
              by_cases hy : 0 < q
              · have hyI : (0 : Int) < (q : Int) := by omega
                have hyc := hF (p - 16) (by omega)
                have hyi : ((p - 16 : Nat) : Int) = (p : Int) - 16 := by omega
                have hyj : ((p : Int) - 16).toNat = p - 16 := by omega
                have hyb : 0 ≤ (p : Int) - 16 ∧ (p : Int) - 16 < 256 := by omega
                cases hyv : F (p - 16)
                · rw [hyv] at hyc
                  by_cases hY : q < 15
                  · have hYI : (q : Int) < 15 := by omega
                    have hYc := hF (p + 16) (by omega)
                    have hYb : (p : Int) + 16 < 256 := by omega
                    have hYj : ((p : Int) + 16).toNat = p + 16 := by omega
                    cases hYv : F (p + 16)
                    · rw [hYv] at hYc
                      have HV : gwF F p = false := by rw [HGh.out, h0, decide_eq_false hx, hXv, decide_eq_true hX, hyv, decide_eq_true hy, hYv, decide_eq_true hY]; rfl
                      have HN3 := Lib.hid (HN.out _ HV)
                      clear HN HV HGh hF hpm
                      go_wp2
                      go_roundw
                      case rel => exact ⟨p + 1, by omega, by go_num, HN3⟩
                      case measure => simp [intOf]; omega
                    · rw [hYv] at hYc
                      have HV : gwF F p = true := by rw [HGh.out, h0, decide_eq_false hx, hXv, decide_eq_true hX, hyv, decide_eq_true hy, hYv, decide_eq_true hY]; rfl
                      have HN3 := Lib.hid (HN.out _ HV)
                      clear HN HV HGh hF hpm
                      go_wp2
                      go_roundw
                      case rel => exact ⟨p + 1, by omega, by go_num, HN3⟩
                      case measure => simp [intOf]; omega
                  · have hYI : ¬ (q : Int) < 15 := by omega
                    have HV : gwF F p = false := by rw [HGh.out, h0, decide_eq_false hx, hXv, decide_eq_true hX, hyv, decide_eq_true hy, decide_eq_false hY]; rfl
                    have HN3 := Lib.hid (HN.out _ HV)
                    clear HN HV HGh hF hpm
                    go_wp2
                    go_roundw
                    case rel => exact ⟨p + 1, by omega, by go_num, HN3⟩
                    case measure => simp [intOf]; omega
                · rw [hyv] at hyc
                  have HV : gwF F p = true := by rw [HGh.out, h0, decide_eq_false hx, hXv, decide_eq_true hX, hyv, decide_eq_true hy]; rfl
                  have HN3 := Lib.hid (HN.out _ HV)
                  clear HN HV HGh hF hpm
                  go_wp2
                  go_roundw
                  case rel => exact ⟨p + 1, by omega, by go_num, HN3⟩
                  case measure => simp [intOf]; omega
              · have hyI : ¬ (0 : Int) < (q : Int) := by omega
                by_cases hY : q < 15
                · have hYI : (q : Int) < 15 := by omega
                  have hYc := hF (p + 16) (by omega)
                  have hYb : (p : Int) + 16 < 256 := by omega
                  have hYj : ((p : Int) + 16).toNat = p + 16 := by omega
                  cases hYv : F (p + 16)
                  · rw [hYv] at hYc
                    have HV : gwF F p = false := by rw [HGh.out, h0, decide_eq_false hx, hXv, decide_eq_true hX, decide_eq_false hy, hYv, decide_eq_true hY]; rfl
                    have HN3 := Lib.hid (HN.out _ HV)
                    clear HN HV HGh hF hpm
                    go_wp2
                    go_roundw
                    case rel => exact ⟨p + 1, by omega, by go_num, HN3⟩
                    case measure => simp [intOf]; omega
                  · rw [hYv] at hYc
                    have HV : gwF F p = true := by rw [HGh.out, h0, decide_eq_false hx, hXv, decide_eq_true hX, decide_eq_false hy, hYv, decide_eq_true hY]; rfl
                    have HN3 := Lib.hid (HN.out _ HV)
                    clear HN HV HGh hF hpm
                    go_wp2
                    go_roundw
                    case rel => exact ⟨p + 1, by omega, by go_num, HN3⟩
                    case measure => simp [intOf]; omega
                · exfalso
                  omega
            · rw [hXv] at hXc
              have HV : gwF F p = true := by rw [HGh.out, h0, decide_eq_false hx, hXv, decide_eq_true hX]; rfl
              have HN3 := Lib.hid (HN.out _ HV)
              clear HN HV HGh hF hpm
              go_wp2
              go_roundw
              case rel => exact ⟨p + 1, by omega, by go_num, HN3⟩
              case measure => simp [intOf]; omega
          · exfalso
            omega
      · rw [h0] at f0
        have HV : gwF F p = true := by rw [HGh.out, h0]; rfl
        have HN3 := Lib.hid (HN.out _ HV)
        clear HN HV HGh hF hpm
        go_wp2
        go_roundw
        case rel => exact ⟨p + 1, by omega, by go_num, HN3⟩
        case measure => simp [intOf]; omega
    · obtain rfl : p = 256 := by omega
      have HE : Hid (GX wr o (gwF F) ∧ Below w.heap.size w wr) := Lib.hid ⟨hI.out.1.congr (fun j hj => upF_all _ _ j hj), hI.out.2.2⟩
      clear hI
      go_wp2
      go_ret
      exact ⟨o, c2, rfl, HE.out⟩
end Go.Proofs.YtoeifhflbgfcjaaDoor
