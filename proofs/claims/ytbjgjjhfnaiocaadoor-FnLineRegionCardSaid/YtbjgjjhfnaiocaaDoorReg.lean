/- Contracts of valid regions, in the model and in the program. -/
import Derived.Test.YtbjgjjhfnaiocaaDoorTri
import Derived.Deep.RegionHeld3
import Derived.Deep.QuietTactic
import Derived.BigQuiet
namespace Go.Proofs.YtbjgjjhfnaiocaaDoor
open Go.RowKit
set_option linter.unusedSimpArgs false
set_option linter.unusedVariables false
set_option maxRecDepth 20000

/-- Whether a run has a row and columns of the grid. -/
def vrunB (y f t : Int) : Bool := decide (0 ≤ y ∧ y ≤ 15) && (decide (0 ≤ f ∧ f ≤ 15) && decide (f + 1 ≤ t ∧ t ≤ 16))
/-- Whether a run may come behind another one. -/
def folB (y0 t0 y f : Int) : Bool := decide (y0 < y ∨ (y0 = y ∧ t0 < f))
def gY (xs : List Int) (j : Nat) : Int := xs.getD (j * 3) 0
def gF (xs : List Int) (j : Nat) : Int := xs.getD (j * 3 + 1) 0
def gT (xs : List Int) (j : Nat) : Int := xs.getD (j * 3 + 2) 0
def regA (xs : List Int) (j : Nat) : Bool := vrunB (gY xs j) (gF xs j) (gT xs j) && (decide (j = 0) || folB (gY xs (j - 1)) (gT xs (j - 1)) (gY xs j) (gF xs j))
def regAt (xs : List Int) (j : Nat) : Prop := regA xs j = true
/-- Whether the first n runs are a region. -/
def reg (xs : List Int) (n : Nat) : Prop := ∀ j, j < n → regA xs j = true
def regB (xs : List Int) (n : Nat) : Bool := decide (∀ j, j < n → regA xs j = true)
theorem regA_no1 {xs : List Int} {j : Nat} (h : vrunB (gY xs j) (gF xs j) (gT xs j) = false) : ¬ regAt xs j := by unfold regAt regA; rw [h]; simp
theorem regA_no2 {xs : List Int} {j : Nat} (h0 : 0 < j) (h : folB (gY xs (j - 1)) (gT xs (j - 1)) (gY xs j) (gF xs j) = false) : ¬ regAt xs j := by
  unfold regAt regA; rw [h, decide_eq_false (show ¬ j = 0 by omega)]; simp
theorem regA_yes {xs : List Int} {j : Nat} (h : vrunB (gY xs j) (gF xs j) (gT xs j) = true) (h2 : 0 < j → folB (gY xs (j - 1)) (gT xs (j - 1)) (gY xs j) (gF xs j) = true) : regAt xs j := by
  unfold regAt regA; rw [h]
  rcases Nat.eq_zero_or_pos j with h0 | h0
  · rw [decide_eq_true h0]; rfl
  · rw [h2 h0]; simp
theorem regAt_parts {xs : List Int} {j : Nat} (h : regAt xs j) : vrunB (gY xs j) (gF xs j) (gT xs j) = true ∧ (0 < j → folB (gY xs (j - 1)) (gT xs (j - 1)) (gY xs j) (gF xs j) = true) := by
  unfold regAt regA at h
  simp only [Bool.and_eq_true, Bool.or_eq_true, decide_eq_true_eq] at h
  exact ⟨h.1, fun h0 => h.2.resolve_left (by omega)⟩
theorem regB_no {xs : List Int} {n k : Nat} (hk : k < n) (h : ¬ regAt xs k) : regB xs n = false := by unfold regB; exact decide_eq_false fun hr => h (hr k hk)
theorem regB_yes {xs : List Int} {n : Nat} (h : reg xs n) : regB xs n = true := by unfold regB; exact decide_eq_true (p := ∀ j, j < n → regA xs j = true) h
theorem regB_of {xs : List Int} {n : Nat} (h : regB xs n = true) : reg xs n := by unfold regB at h; exact of_decide_eq_true (p := ∀ j, j < n → regA xs j = true) h
theorem reg_snoc {xs : List Int} {k : Nat} (h : reg xs k) (hk : regAt xs k) : reg xs (k + 1) := fun j hj => by
  by_cases e : j = k
  · subst e; exact hk
  · exact h j (by omega)
theorem vrunB_bd {y f t : Int} (h : vrunB y f t = true) : (0 ≤ y ∧ y ≤ 15) ∧ (0 ≤ f ∧ f ≤ 15) ∧ (f + 1 ≤ t ∧ t ≤ 16) := by
  simp only [vrunB, Bool.and_eq_true, decide_eq_true_eq] at h; exact h
theorem bel_dn {B : Nat} {a w : World} (h : Below B a w) (n : Nat) : Below B a (w.drewN n) := ⟨h.os, h.tape, h.output, h.size, h.block⟩
set_option maxHeartbeats 1000000 in
theorem sIr_any (n lo hi : Int) (w : World) : Calls Tryd.prog 45 #[.int .i64 n, .int .i64 lo, .int .i64 hi] w fun e w' => e = .returned (.bool (decide (lo ≤ n ∧ n ≤ hi))) ∧ w = w' := by
  by_cases h1 : lo ≤ n <;> by_cases h2 : n ≤ hi
  all_goals
    go_enter Tryd.func45, Tryd.ntmps45
    go_wp2
    go_ret
    exact ⟨ret_bool (by simp [h1, h2] <;> omega), rfl⟩
set_option maxHeartbeats 1000000 in
theorem iIr_any (n lo hi : Int) (w : World) : Calls Tryd.prog 52 #[.int .i64 n, .int .i64 lo, .int .i64 hi] w fun e w' => e = .returned (.bool (decide (lo ≤ n ∧ n ≤ hi))) ∧ w = w' := by
  by_cases h1 : lo ≤ n <;> by_cases h2 : n ≤ hi
  all_goals
    go_enter Tryd.func52, Tryd.ntmps52
    go_wp2
    go_ret
    exact ⟨ret_bool (by simp [h1, h2] <;> omega), rfl⟩
set_option maxHeartbeats 4000000 in
theorem validRun_any (y f t : Int) (w : World) :
    Calls Tryd.prog 47 #[.agg #[.int .i64 y, .int .i64 f, .int .i64 t]] w fun e w' => e = .returned (.bool (vrunB y f t)) ∧ Below w.heap.size w w' := by
  cases h1 : decide (0 ≤ y ∧ y ≤ 15)
  · have H : Hid (vrunB y f t = false) := Lib.hid (by simp only [vrunB, h1, Bool.false_and])
    go_enter Tryd.func47, Tryd.ntmps47
    go_wp2_with fail
    refine (iIr_any _ _ _ _).mono ?_
    rintro e w' ⟨rfl, rfl⟩
    rw [h1]
    go_wp2
    go_ret
    exact ⟨ret_bool H.out.symm, by (repeat' (first | (exact Below.refl _ _) | (refine Below.setCell ?_ (by first | omega | (simp; done) | (simp; omega)) _) | (refine below_dn ?_ _) | (refine Below.drew ?_) | (refine Below.alloc ?_ (by first | omega | (simp; done) | (simp; omega)) _) | (exact Below.refl _ _)))⟩
  · cases h2 : decide (0 ≤ f ∧ f ≤ 15)
    · have H : Hid (vrunB y f t = false) := Lib.hid (by simp only [vrunB, h2, Bool.false_and, Bool.and_false])
      go_enter Tryd.func47, Tryd.ntmps47
      go_wp2_with fail
      refine (iIr_any _ _ _ _).mono ?_
      rintro e w' ⟨rfl, rfl⟩
      rw [h1]
      go_wp2_with fail
      refine (iIr_any _ _ _ _).mono ?_
      rintro e w' ⟨rfl, rfl⟩
      rw [h2]
      go_wp2
      go_ret
      exact ⟨ret_bool H.out.symm, by (repeat' (first | (exact Below.refl _ _) | (refine Below.setCell ?_ (by first | omega | (simp; done) | (simp; omega)) _) | (refine below_dn ?_ _) | (refine Below.drew ?_) | (refine Below.alloc ?_ (by first | omega | (simp; done) | (simp; omega)) _) | (exact Below.refl _ _)))⟩
    · have H : Hid (vrunB y f t = decide (f + 1 ≤ t ∧ t ≤ 16)) := Lib.hid (by simp only [vrunB, h1, h2, Bool.true_and])
      have hf := of_decide_eq_true h2
      obtain ⟨f0, f1⟩ := hf
      go_enter Tryd.func47, Tryd.ntmps47
      go_wp2_with fail
      refine (iIr_any _ _ _ _).mono ?_
      rintro e w' ⟨rfl, rfl⟩
      rw [h1]
      go_wp2_with fail
      refine (iIr_any _ _ _ _).mono ?_
      rintro e w' ⟨rfl, rfl⟩
      rw [h2]
      go_wp2_with fail
      refine (iIr_any t (f + 1) 16 _).mono ?_
      rintro e w' ⟨rfl, rfl⟩
      rw [← H.out]
      go_wp2
      go_ret
      exact ⟨rfl, by (repeat' (first | (exact Below.refl _ _) | (refine Below.setCell ?_ (by first | omega | (simp; done) | (simp; omega)) _) | (refine below_dn ?_ _) | (refine Below.drew ?_) | (refine Below.alloc ?_ (by first | omega | (simp; done) | (simp; omega)) _) | (exact Below.refl _ _)))⟩
set_option maxHeartbeats 4000000 in
theorem mayFollow_any (y0 f0 t0 y f t : Int) (w : World) :
    Calls Tryd.prog 48 #[.agg #[.int .i64 y0, .int .i64 f0, .int .i64 t0], .agg #[.int .i64 y, .int .i64 f, .int .i64 t]] w fun e w' => e = .returned (.bool (folB y0 t0 y f)) ∧ Below w.heap.size w w' := by
  by_cases h1 : y0 < y
  · have H : Hid (folB y0 t0 y f = true) := Lib.hid (decide_eq_true (.inl h1))
    go_enter Tryd.func48, Tryd.ntmps48
    go_wp2
    go_ret
    exact ⟨ret_bool H.out.symm, by (repeat' (first | (exact Below.refl _ _) | (refine Below.setCell ?_ (by first | omega | (simp; done) | (simp; omega)) _) | (refine below_dn ?_ _) | (refine Below.drew ?_) | (refine Below.alloc ?_ (by first | omega | (simp; done) | (simp; omega)) _) | (exact Below.refl _ _)))⟩
  · by_cases h2 : y0 = y
    · have h2' : (y0 == y) = true := by rw [h2]; simp
      by_cases h3 : t0 < f
      · have H : Hid (folB y0 t0 y f = true) := Lib.hid (decide_eq_true (.inr ⟨h2, h3⟩))
        clear h2
        go_enter Tryd.func48, Tryd.ntmps48
        go_wp2
        go_ret
        exact ⟨ret_bool H.out.symm, by (repeat' (first | (exact Below.refl _ _) | (refine Below.setCell ?_ (by first | omega | (simp; done) | (simp; omega)) _) | (refine below_dn ?_ _) | (refine Below.drew ?_) | (refine Below.alloc ?_ (by first | omega | (simp; done) | (simp; omega)) _) | (exact Below.refl _ _)))⟩
      · have H : Hid (folB y0 t0 y f = false) := Lib.hid (decide_eq_false fun h => by omega)
        clear h2
        go_enter Tryd.func48, Tryd.ntmps48
        go_wp2
        go_ret
        exact ⟨ret_bool H.out.symm, by (repeat' (first | (exact Below.refl _ _) | (refine Below.setCell ?_ (by first | omega | (simp; done) | (simp; omega)) _) | (refine below_dn ?_ _) | (refine Below.drew ?_) | (refine Below.alloc ?_ (by first | omega | (simp; done) | (simp; omega)) _) | (exact Below.refl _ _)))⟩
    · have h2' : (y0 == y) = false := beq_eq_false_iff_ne.2 h2
      have H : Hid (folB y0 t0 y f = false) := Lib.hid (decide_eq_false fun h => by omega)
      go_enter Tryd.func48, Tryd.ntmps48
      go_wp2
      go_ret
      exact ⟨ret_bool H.out.symm, by (repeat' (first | (exact Below.refl _ _) | (refine Below.setCell ?_ (by first | omega | (simp; done) | (simp; omega)) _) | (refine below_dn ?_ _) | (refine Below.drew ?_) | (refine Below.alloc ?_ (by first | omega | (simp; done) | (simp; omega)) _) | (exact Below.refl _ _)))⟩
end Go.Proofs.YtbjgjjhfnaiocaaDoor
