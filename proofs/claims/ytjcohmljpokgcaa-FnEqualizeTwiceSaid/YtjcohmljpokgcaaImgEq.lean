/- Facts of equalized images that the law needs. -/
import Derived.Test.YtjcohmljpokgcaaLSt
import Derived.Test.YtjcohmljpokgcaaImgB
import Derived.Test.YtjcohmljpokgcaaEquE
import Derived.Test.YtjcohmljpokgcaaEquS
namespace Go.Proofs.Ytjcohmljpokgcaa
open Go.RowKit Go.Shelf
set_option linter.unusedSimpArgs false
set_option linter.unusedVariables false

/-- The least and the greatest of the first numbers, and whether they are equal. -/
def lowY (ys : List Int) : Nat → Int
  | 0 => 255
  | k + 1 => min (lowY ys k) (ys.getD k 0)
def higY (ys : List Int) : Nat → Int
  | 0 => 0
  | k + 1 => max (higY ys k) (ys.getD k 0)
def eqY (xs : List Int) : Nat → Bool
  | 0 => true
  | k + 1 => eqY xs k && decide (xs.getD k 0 = xs.getD 0 0)
theorem low_le (ys : List Int) : ∀ k j, j < k → lowY ys k ≤ ys.getD j 0
  | 0, j, h => by omega
  | k + 1, j, h => by
    show min (lowY ys k) (ys.getD k 0) ≤ _
    by_cases e : j = k
    · subst e; omega
    · have := low_le ys k j (by omega); omega
theorem low_ge {ys : List Int} (hb : ∀ j, 0 ≤ ys.getD j 0) : ∀ k, 0 ≤ lowY ys k
  | 0 => by show (0 : Int) ≤ 255; omega
  | k + 1 => by show 0 ≤ min (lowY ys k) (ys.getD k 0); have := low_ge hb k; have := hb k; omega
theorem hig_ge (ys : List Int) : ∀ k j, j < k → ys.getD j 0 ≤ higY ys k
  | 0, j, h => by omega
  | k + 1, j, h => by
    show _ ≤ max (higY ys k) (ys.getD k 0)
    by_cases e : j = k
    · subst e; omega
    · have := hig_ge ys k j (by omega); omega
theorem hig_le {ys : List Int} (hb : ∀ j, ys.getD j 0 ≤ 255) : ∀ k, higY ys k ≤ 255
  | 0 => by show (0 : Int) ≤ 255; omega
  | k + 1 => by show max (higY ys k) (ys.getD k 0) ≤ 255; have := hig_le hb k; have := hb k; omega
theorem eqY_all {xs : List Int} : ∀ k, (∀ j, j < k → xs.getD j 0 = xs.getD 0 0) → eqY xs k = true
  | 0, _ => rfl
  | k + 1, h => by show (eqY xs k && decide (xs.getD k 0 = xs.getD 0 0)) = true; rw [eqY_all k (fun j hj => h j (by omega)), decide_eq_true (h k (by omega))]; rfl
theorem eqY_get {xs : List Int} : ∀ k, eqY xs k = true → ∀ j, j < k → xs.getD j 0 = xs.getD 0 0
  | 0, _, j, hj => by omega
  | k + 1, h, j, hj => by
    have h' : (eqY xs k && decide (xs.getD k 0 = xs.getD 0 0)) = true := h
    rw [Bool.and_eq_true] at h'
    by_cases e : j = k
    · subst e; exact of_decide_eq_true h'.2
    · exact eqY_get k h'.1 j (by omega)
section
variable {xs : List Int} (h0 : 0 < xs.length) (hb : ∀ j, j < xs.length → 0 ≤ xs.getD j 0 ∧ xs.getD j 0 ≤ 255)
include h0 hb
omit h0 hb in
theorem eqL_get {i : Nat} (hi : i < xs.length) : (eqL xs).getD i 0 = eqF xs (xs.getD i 0) := by simp [eqL, hi]
theorem eqF_mono {x y : Int} (hx : x ∈ xs) (hy : y ∈ xs) (h : x ≤ y) : eqF xs x ≤ eqF xs y := by
  by_cases hn : oth xs = 0
  · unfold eqF; rw [if_pos hn, if_pos hn]; exact h
  · unfold eqF
    rw [if_neg hn, if_neg hn]
    have ho := oth_bd h0 hb
    have h1 := pos_mem hb hx
    have h2 := pos_mem hb hy
    have h3 : y ≤ 255 := by obtain ⟨j, hj, rfl⟩ := mem_getD hy; exact (hb j hj).2
    have := sm_mono hb (a := x.toNat) (b := y.toNat) (by omega) (by omega)
    exact Int.ediv_le_ediv (by omega) (by omega)
/-- Where not all are equal, some are not the greatest. -/
theorem oth_pos {i : Nat} (hi : i < xs.length) (hne : ¬ xs.getD i 0 = xs.getD 0 0) : 0 < oth xs := by
  have ho := oth_eq h0 hb
  rw [ho, hist_get xs (show tp xs < 256 by have := tp_bd h0 hb; omega)]
  have hc := List.count_le_length (a := ((tp xs : Nat) : Int)) (l := xs)
  by_cases e : xs.count ((tp xs : Nat) : Int) = xs.length
  · exfalso
    have hall := List.count_eq_length.1 e
    have e1 := hall (xs.getD i 0) (by simp [hi])
    have e2 := hall (xs.getD 0 0) (by simp [h0])
    exact hne (by rw [← e1, ← e2])
  · omega
omit hb in
/-- The least number. -/
theorem least_ex : ∃ i, i < xs.length ∧ ∀ x ∈ xs, xs.getD i 0 ≤ x := by
  have : ∀ k, k ≤ xs.length → 0 < k → ∃ i, i < k ∧ ∀ j, j < k → xs.getD i 0 ≤ xs.getD j 0 := by
    intro k
    induction k with
    | zero => intro _ h; omega
    | succ k ih =>
      intro hk _
      by_cases e : k = 0
      · subst e
        exact ⟨0, by omega, fun j hj => (by rw [show j = 0 by omega]; exact Int.le_refl _)⟩
      · obtain ⟨i, hi, h⟩ := ih (by omega) (by omega)
        by_cases c : xs.getD i 0 ≤ xs.getD k 0
        · exact ⟨i, by omega, fun j hj => by
            by_cases e2 : j = k
            · subst e2; exact c
            · exact h j (by omega)⟩
        · exact ⟨k, by omega, fun j hj => by
            by_cases e2 : j = k
            · subst e2; omega
            · have := h j (by omega); omega⟩
  obtain ⟨i, hi, h⟩ := this xs.length (Nat.le_refl _) h0
  exact ⟨i, hi, fun x hx => by obtain ⟨j, hj, rfl⟩ := mem_getD hx; exact h j hj⟩
theorem eq_zero (hn : ¬ oth xs = 0) : ∃ i, i < xs.length ∧ (eqL xs).getD i 0 = 0 := by
  obtain ⟨i, hi, h⟩ := least_ex h0
  refine ⟨i, hi, ?_⟩
  rw [eqL_get hi]
  unfold eqF
  have hbi := hb i hi
  rw [if_neg hn, sm_hist xs (fun x => pos_mem hb) _ (by omega)]
  have hz : xs.countP (fun x => decide (x < (((xs.getD i 0).toNat : Nat) : Int))) = 0 := List.countP_eq_zero.2 (fun x hx => (by
    have h4 := h x hx
    have h5 : ¬ x < (((xs.getD i 0).toNat : Nat) : Int) := by omega
    intro h6
    exact h5 (of_decide_eq_true h6)))
  rw [hz]
  exact Int.zero_ediv _
theorem eq_top (hn : ¬ oth xs = 0) : ∃ i, i < xs.length ∧ (eqL xs).getD i 0 = 255 := by
  obtain ⟨i, hi, e⟩ := mem_getD (tp_mem h0 hb)
  refine ⟨i, hi, ?_⟩
  rw [eqL_get hi, e]
  unfold eqF
  rw [if_neg hn, Int.toNat_natCast]
  show 255 * oth xs / oth xs = 255
  exact Int.mul_ediv_cancel _ hn
end
theorem vim_memb {W H P : Int} {xs : List Int} (hv : vim W H P xs = true) : ∀ x ∈ xs, 0 ≤ x ∧ x ≤ 255 := by
  have e0 : vim W H P xs = (vsh W H P && (decide ((xs.length : Int) = W * H * P) && allB 0 255 xs)) := rfl
  rw [e0, Bool.and_eq_true, Bool.and_eq_true] at hv
  exact of_decide_eq_true hv.2.2
theorem vim_w {W H P : Int} {xs : List Int} (hv : vim W H P xs = true) : ¬ W = 0 := by
  have e0 : vim W H P xs = (vsh W H P && (decide ((xs.length : Int) = W * H * P) && allB 0 255 xs)) := rfl
  rw [e0, Bool.and_eq_true] at hv
  have h := hv.1
  unfold vsh at h
  rw [Bool.and_eq_true] at h
  have := of_decide_eq_true h.1
  omega
theorem MadeIf.shE {b : Bool} {W H P : Int} {ys : List Int} {w : World} {e : Ending} {w' : World} (h : MadeIf b W H P ys w e w') : ShI (cond b W 0) (cond b H 0) (cond b P 0) (cond b ys []) w e w' := ShI.of h
theorem iEq_C (W H P : Int) (xs : List Int) (hx : xs.length ≤ 2000) : ImC0 19 W H P xs (cond (vpl W H P xs) W 0) (cond (vpl W H P xs) H 0) (cond (vpl W H P xs) P 0) (cond (vpl W H P xs) (eqL xs) []) :=
  fun A c w hr hc => (by first | exact i_EqualizeImage W H P A c xs w hr (by omega) | exact s_EqualizeImage W H P A c xs w hr (by omega) : Calls _ _ _ _ _).mono fun _ _ h => MadeIf.shE h
theorem sEq_C (W H P : Int) (xs : List Int) (hx : xs.length ≤ 2000) : ImC0 20 W H P xs (cond (vpl W H P xs) W 0) (cond (vpl W H P xs) H 0) (cond (vpl W H P xs) P 0) (cond (vpl W H P xs) (eqL xs) []) :=
  fun A c w hr hc => (by first | exact i_EqualizeImage W H P A c xs w hr (by omega) | exact s_EqualizeImage W H P A c xs w hr (by omega) : Calls _ _ _ _ _).mono fun _ _ h => MadeIf.shE h
end Go.Proofs.Ytjcohmljpokgcaa
