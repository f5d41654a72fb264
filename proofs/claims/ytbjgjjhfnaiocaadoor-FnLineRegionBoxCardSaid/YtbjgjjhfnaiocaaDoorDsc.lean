/- Contracts of DiscRegion, in the model and in the program. -/
import Derived.Test.YtbjgjjhfnaiocaaDoorRnI
import Derived.Test.YtbjgjjhfnaiocaaDoorGA
import Derived.BigQuiet
namespace Go.Proofs.YtbjgjjhfnaiocaaDoor
open Go.RowKit
set_option linter.unusedSimpArgs false
set_option linter.unusedVariables false
set_option maxRecDepth 20000

theorem bo1 {w : World} {g : Nat} {T : TypeId} {a : Value} (h : Bx w g T #[a]) : w.cell? ⟨g, 0, none⟩ = some a := cell_of_row w g 0 _ _ _ h
theorem mul_bd16 {c : Int} {k : Nat} (h : -(k : Int) ≤ c ∧ c ≤ k) (hk : k ≤ 1000) : 0 ≤ c * c ∧ c * c ≤ 1000000 := by
  have h4 := Int.natAbs_mul_self (a := c)
  have h5 : c.natAbs ≤ 1000 := by omega
  have h6 := Nat.mul_le_mul h5 h5
  omega
def dscG (x y r : Int) (c o : Nat) : Bool := decide (((c : Int) - x) * ((c : Int) - x) + ((o : Int) - y) * ((o : Int) - y) ≤ r * r)
def dscG' (x y r : Int) (c o : Nat) : Bool := decide (c < 16) && (decide (o < 16) && dscG x y r c o)
def ongB (x y : Int) : Bool := decide (0 ≤ x ∧ x ≤ 15) && decide (0 ≤ y ∧ y ≤ 15)
def dscOk (x y r : Int) : Bool := ongB x y && decide (0 ≤ r ∧ r ≤ 16)
/-- The answer is a new row with the runs of a grid, or none. -/
def RunsIf (ok : Bool) (G : Nat → Nat → Bool) (w : World) (e : Ending) (w' : World) : Prop :=
  ∃ v, e = .returned v ∧ OwnT 35 3 w' w.heap.size v (cond ok (rnN G) 0) (cond ok (rnL G) []) ∧ Below w.heap.size w w'
theorem RunsIf.no {ok : Bool} {G : Nat → Nat → Bool} {w w' : World} (h : ok = false) (hb : Below w.heap.size w w') : RunsIf ok G w (.returned (.slice none 0 0)) w' := by
  subst h; exact ⟨_, rfl, OwnT.nil _ _ _ _, hb⟩
theorem RunsIf.yes {ok : Bool} {G G' : Nat → Nat → Bool} {w u w' : World} {e : Ending} (h : ok = true) (hG : ∀ x y, x < 16 → y < 16 → G' x y = G x y) (hb : Below w.heap.size w u) (hr : RunsI G' u e w') : RunsIf ok G w e w' := by
  subst h
  obtain ⟨v, h1, h2, h3⟩ := hr
  have e1 : rnL G' = rnL G := rnL_congr hG
  have e2 : rnN G' = rnN G := by unfold rnN; rw [e1]
  refine ⟨v, h1, ?_, hb.trans (h3.mono hb.size)⟩
  show OwnT _ _ _ _ v (rnN G) (rnL G)
  rw [← e1, ← e2]; exact h2.base_le hb.size
/-- Block g holds a grid of 256 bools. -/
def GridFn (w : World) (g : Nat) (F : Nat → Bool) : Prop := ∃ gs, GB w g gs ∧ gs.length = 256 ∧ ∀ j, j < 256 → gs.getD j false = F j
theorem GridFn.start (w : World) : GridFn (w.alloc (.cells gz 4)) w.heap.size (fun _ => false) :=
  ⟨List.replicate 256 false, heap_alloc_new w _, by simp, fun j hj => by
    rw [List.getD_eq_getElem?_getD, List.getElem?_replicate]; split <;> rfl⟩
theorem GridFn.congr {w : World} {g : Nat} {F F' : Nat → Bool} (h : GridFn w g F) (he : ∀ j, j < 256 → F j = F' j) : GridFn w g F' := by
  obtain ⟨gs, h1, h2, h3⟩ := h
  exact ⟨gs, h1, h2, fun j hj => (h3 j hj).trans (he j hj)⟩
theorem GridFn.put {w : World} {g : Nat} {F : Nat → Bool} (h : GridFn w g F) {j0 : Nat} (hj : j0 < 256) (b : Bool) : GridFn (w.setCell ⟨g, j0, none⟩ (.bool b)) g (fun j => if j = j0 then b else F j) := by
  obtain ⟨gs, h1, h2, h3⟩ := h
  refine ⟨gs.set j0 b, h1.put j0 b, by simpa using h2, fun j hj' => ?_⟩
  by_cases e : j = j0
  · subst e; simp [List.getD_eq_getElem?_getD, h2, hj']
  · have : (gs.set j0 b).getD j false = gs.getD j false := by simp [List.getD_eq_getElem?_getD, List.getElem?_set, Ne.symm e]
    rw [this, h3 j hj']; exact (if_neg e).symm
theorem GridFn.cell {w : World} {g : Nat} {F : Nat → Bool} (h : GridFn w g F) {j : Nat} (hj : j < 256) : w.cell? ⟨g, j, none⟩ = some (.bool (F j)) := by
  obtain ⟨gs, h1, h2, h3⟩ := h
  rw [h1.cell (by omega), h3 j hj]
theorem GridFn.frozen {w : World} {g : Nat} {F : Nat → Bool} (h : GridFn w g F) (j : Nat) : w.frozen? ⟨g, j, none⟩ = false := by
  obtain ⟨gs, h1, h2, h3⟩ := h
  exact h1.frozen j
theorem GridFn.lt {w : World} {g : Nat} {F : Nat → Bool} (h : GridFn w g F) : g < w.heap.size := by
  obtain ⟨gs, h1, h2, h3⟩ := h
  rcases Nat.lt_or_ge g w.heap.size with h' | h'
  · exact h'
  · unfold GB at h1; rw [Array.getElem?_eq_none h'] at h1; cases h1
theorem GridFn.keep {w w' : World} {g : Nat} {F : Nat → Bool} (h : GridFn w g F) (he : w'.heap[g]? = w.heap[g]?) : GridFn w' g F := by
  obtain ⟨gs, h1, h2, h3⟩ := h
  exact ⟨gs, he.trans h1, h2, h3⟩
theorem GridFn.below {B : Nat} {w w' : World} {g : Nat} {F : Nat → Bool} (h : GridFn w g F) (hb : Below B w w') (hg : g < B) : GridFn w' g F := h.keep (hb.block g hg)
set_option maxHeartbeats 4000000 in
theorem sOng_any (x y : Int) (w : World) :
    Calls Tryd.prog 24 #[.int .i64 x, .int .i64 y] w fun e w' => e = .returned (.bool (ongB x y)) ∧ Below w.heap.size w w' := by
  cases h1 : decide (0 ≤ x ∧ x ≤ 15)
  · have H : Hid (ongB x y = false) := Lib.hid (by simp only [ongB, h1, Bool.false_and])
    go_enter Tryd.func24, Tryd.ntmps24
    go_wp2_with fail
    refine (sIr_any x 0 15 _).mono ?_
    rintro e w' ⟨rfl, rfl⟩
    rw [h1]
    go_wp2
    go_ret
    exact ⟨ret_bool H.out.symm, by (repeat' (first | (exact Below.refl _ _) | (refine Below.setCell ?_ (by first | omega | (simp; done) | (simp; omega)) _) | (refine below_dn ?_ _) | (refine Below.drew ?_) | (refine Below.alloc ?_ (by first | omega | (simp; done) | (simp; omega)) _) | (exact Below.refl _ _)))⟩
  · have H : Hid (ongB x y = decide (0 ≤ y ∧ y ≤ 15)) := Lib.hid (by simp only [ongB, h1, Bool.true_and])
    go_enter Tryd.func24, Tryd.ntmps24
    go_wp2_with fail
    refine (sIr_any x 0 15 _).mono ?_
    rintro e w' ⟨rfl, rfl⟩
    rw [h1]
    go_wp2_with fail
    refine (sIr_any y 0 15 _).mono ?_
    rintro e w' ⟨rfl, rfl⟩
    rw [← H.out]
    go_wp2
    go_ret
    exact ⟨rfl, by (repeat' (first | (exact Below.refl _ _) | (refine Below.setCell ?_ (by first | omega | (simp; done) | (simp; omega)) _) | (refine below_dn ?_ _) | (refine Below.drew ?_) | (refine Below.alloc ?_ (by first | omega | (simp; done) | (simp; omega)) _) | (exact Below.refl _ _)))⟩
set_option maxHeartbeats 4000000 in
theorem iOng_any (x y : Int) (w : World) :
    Calls Tryd.prog 27 #[.int .i64 x, .int .i64 y] w fun e w' => e = .returned (.bool (ongB x y)) ∧ Below w.heap.size w w' := by
  cases h1 : decide (0 ≤ x ∧ x ≤ 15)
  · have H : Hid (ongB x y = false) := Lib.hid (by simp only [ongB, h1, Bool.false_and])
    go_enter Tryd.func27, Tryd.ntmps27
    go_wp2_with fail
    refine (iIr_any x 0 15 _).mono ?_
    rintro e w' ⟨rfl, rfl⟩
    rw [h1]
    go_wp2
    go_ret
    exact ⟨ret_bool H.out.symm, by (repeat' (first | (exact Below.refl _ _) | (refine Below.setCell ?_ (by first | omega | (simp; done) | (simp; omega)) _) | (refine below_dn ?_ _) | (refine Below.drew ?_) | (refine Below.alloc ?_ (by first | omega | (simp; done) | (simp; omega)) _) | (exact Below.refl _ _)))⟩
  · have H : Hid (ongB x y = decide (0 ≤ y ∧ y ≤ 15)) := Lib.hid (by simp only [ongB, h1, Bool.true_and])
    go_enter Tryd.func27, Tryd.ntmps27
    go_wp2_with fail
    refine (iIr_any x 0 15 _).mono ?_
    rintro e w' ⟨rfl, rfl⟩
    rw [h1]
    go_wp2_with fail
    refine (iIr_any y 0 15 _).mono ?_
    rintro e w' ⟨rfl, rfl⟩
    rw [← H.out]
    go_wp2
    go_ret
    exact ⟨rfl, by (repeat' (first | (exact Below.refl _ _) | (refine Below.setCell ?_ (by first | omega | (simp; done) | (simp; omega)) _) | (refine below_dn ?_ _) | (refine Below.drew ?_) | (refine Below.alloc ?_ (by first | omega | (simp; done) | (simp; omega)) _) | (exact Below.refl _ _)))⟩
set_option maxHeartbeats 8000000 in
theorem s_DiscRegion (x y r : Int) (w : World) : Calls Tryd.prog 61 #[.int .i64 x, .int .i64 y, .int .i64 r] w (RunsIf (dscOk x y r) (dscG x y r) w) := by
  have hmk := make_grid
  cases h1 : ongB x y
  · have H : Hid (dscOk x y r = false) := Lib.hid (by unfold dscOk; rw [h1, Bool.false_and])
    go_enter Tryd.func61, Tryd.ntmps61
    go_wp2_with fail
    refine (sOng_any x y _).mono ?_
    rintro e w1 ⟨rfl, hb1⟩
    rw [h1]
    go_wp2
    go_ret
    exact RunsIf.no H.out hb1
  · cases h2 : decide (0 ≤ r ∧ r ≤ 16)
    · have H : Hid (dscOk x y r = false) := Lib.hid (by unfold dscOk; rw [h2, Bool.and_false])
      go_enter Tryd.func61, Tryd.ntmps61
      go_wp2_with fail
      refine (sOng_any x y _).mono ?_
      rintro e w1 ⟨rfl, hb1⟩
      rw [h1]
      go_wp2_with fail
      refine (sIr_any r 0 16 _).mono ?_
      rintro e w' ⟨rfl, rfl⟩
      rw [h2]
      go_wp2
      go_ret
      exact RunsIf.no H.out hb1
    · have H : Hid (dscOk x y r = true) := Lib.hid (by unfold dscOk; rw [h1, h2]; rfl)
      have hr := of_decide_eq_true h2
      have hxy : (0 ≤ x ∧ x ≤ 15) ∧ (0 ≤ y ∧ y ≤ 15) := by
        unfold ongB at h1
        simp only [Bool.and_eq_true, decide_eq_true_eq] at h1
        exact h1
      obtain ⟨⟨x0, x1⟩, y0, y1⟩ := hxy
      obtain ⟨r0, r1⟩ := hr
      obtain ⟨rr0, rr1⟩ := mul_bd16 (c := r) (k := 16) (by omega) (by omega)
      have HD : Hid (∀ c o : Nat, dscG x y r c o = decide (((c : Int) - x) * ((c : Int) - x) + ((o : Int) - y) * ((o : Int) - y) ≤ r * r)) := Lib.hid (fun c o => rfl)
      go_enter Tryd.func61, Tryd.ntmps61
      go_wp2_with fail
      refine (sOng_any x y _).mono ?_
      rintro e w1 ⟨rfl, hb1⟩
      rw [h1]
      go_wp2_with fail
      refine (sIr_any r 0 16 _).mono ?_
      rintro e w' ⟨rfl, rfl⟩
      rw [h2]
      have HB1 := Lib.hid hb1
      have HG0 := Lib.hid (GridFn.start w1)
      have HBu : Hid (Below w.heap.size w (w1.alloc (.cells gz 4))) := Lib.hid (hb1.alloc hb1.size _)
      clear h1 h2 hb1
      go_wp2
      clear hmk
      have Hgw : Hid (w.heap.size ≤ w1.heap.size) := Lib.hid HB1.out.size
      generalize w1.alloc (.cells gz 4) = u at *
      generalize w1.heap.size = g at *
      go_loopw [8] (fun i wr => ∃ p : Nat, p ≤ 256 ∧ i = .int .i64 p ∧ Hid (GridFn wr g (fun j => decide (j < p) && dscG x y r (j % 16) (j / 16)) ∧ Below w.heap.size w wr)) (fun i _ => 256 - (intOf i).toNat)
      case atStart => exact ⟨0, by omega, rfl, Lib.hid ⟨HG0.out.congr (fun j hj => by simp), HBu.out⟩⟩
      case round =>
        clear HG0 HBu
        obtain ⟨p, hp, rfl, hI⟩ := hrel
        by_cases hlt : p < 256
        · obtain ⟨m, hm⟩ : ∃ m, m = p % 16 := ⟨_, rfl⟩
          obtain ⟨q, hq⟩ : ∃ q, q = p / 16 := ⟨_, rfl⟩
          have hm16 : m < 16 := by rw [hm]; exact Nat.mod_lt _ (by omega)
          have hq16 : q < 16 := by rw [hq]; omega
          have e1 : (p : Int).tmod 16 = (m : Int) := by rw [hm, Int.tmod_eq_emod_of_nonneg (by omega)]; omega
          have e2 : (p : Int).tdiv 16 = (q : Int) := by rw [hq, Int.tdiv_eq_ediv_of_nonneg (by omega)]; omega
          have e3 : (p : Int) % 16 = (m : Int) := by omega
          have e4 : (p : Int) / 16 = (q : Int) := by omega
          obtain ⟨c, hc⟩ : ∃ c : Int, c = (m : Int) - x := ⟨_, rfl⟩
          obtain ⟨o, ho⟩ : ∃ o : Int, o = (q : Int) - y := ⟨_, rfl⟩
          obtain ⟨cc0, cc1⟩ := mul_bd16 (c := c) (k := 16) (by omega) (by omega)
          obtain ⟨oo0, oo1⟩ := mul_bd16 (c := o) (k := 16) (by omega) (by omega)
          have HN : Hid (GridFn (wr.setCell ⟨g, p, none⟩ (.bool (decide (c * c + o * o ≤ r * r)))) g (fun j => decide (j < p + 1) && dscG x y r (j % 16) (j / 16)) ∧ Below w.heap.size w (wr.setCell ⟨g, p, none⟩ (.bool (decide (c * c + o * o ≤ r * r))))) := Lib.hid ⟨(hI.out.1.put hlt (decide (c * c + o * o ≤ r * r))).congr (fun j hj => by
            by_cases e : j = p
            · subst e
              rw [if_pos rfl, decide_eq_true (show j < j + 1 by omega), Bool.true_and, HD.out, ← hm, ← hq, ← hc, ← ho]
            · rw [if_neg e]
              congr 1
              exact decide_eq_decide.2 (by omega)), hI.out.2.setCell (by exact Hgw.out) _⟩
          have c0 := hI.out.1.cell (j := p) hlt
          have f0 := hI.out.1.frozen p
          generalize (decide (p < p) && dscG x y r (p % 16) (p / 16)) = bb at c0
          have hgl := hI.out.1.lt
          clear hI hm hq
          have hle : ((m : Int) - x) = c := hc.symm
          have hle2 : ((q : Int) - y) = o := ho.symm
          clear hc ho
          go_wp2
          go_roundw
          case rel => exact ⟨p + 1, by omega, by go_num, HN⟩
          case measure => simp [intOf]; omega
        · have HK := Lib.hid hI.out.2
          have hgl := hI.out.1.lt
          have HC : Hid (∀ a b : Nat, a ≤ 15 → b ≤ 15 → wr.cell? ⟨g, b * 16 + a, none⟩ = some (.bool (dscG x y r a b))) := Lib.hid (fun a b ha hb => by
            rw [hI.out.1.cell (j := b * 16 + a) (by omega)]
            rw [show (b * 16 + a) % 16 = a by omega, show (b * 16 + a) / 16 = b by omega, decide_eq_true (show b * 16 + a < p by omega), Bool.true_and])
          clear hI
          go_wp2_with fail
          refine (s_runsOf g 256 (dscG x y r) wr hgl HC.out).mono ?_
          rintro e w3 hR
          have HE := Lib.hid (RunsIf.yes (w := w) H.out (fun _ _ _ _ => rfl) HK.out hR)
          obtain ⟨v3, rfl, _, _⟩ := hR
          clear HK
          go_wp2
          go_ret
          exact HE.out
end Go.Proofs.YtbjgjjhfnaiocaaDoor
