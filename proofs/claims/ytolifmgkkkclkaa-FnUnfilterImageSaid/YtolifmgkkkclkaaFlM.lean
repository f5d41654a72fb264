/- Filtered images and back: mathematics. -/
import Derived.Test.YtolifmgkkkclkaaFilterG
import Derived.Test.YtolifmgkkkclkaaFilterF
import Derived.Test.YtolifmgkkkclkaaImgA
namespace Go.Proofs.Ytolifmgkkkclkaa
open Go.RowKit
set_option linter.unusedSimpArgs false
set_option linter.unusedVariables false

/-- A row of n numbers. -/
def rwL (n : Nat) (xs : List Int) (y : Nat) : List Int := (xs.drop (y * n)).take n
theorem row_end {n H y L : Nat} (hl : L = H * n) (hy : y < H) : y * n + n ≤ L := by
  have := Nat.mul_le_mul_right n (show y + 1 ≤ H from hy)
  rw [Nat.add_mul, Nat.one_mul] at this
  omega
theorem rwL_len {n H : Nat} {xs : List Int} (hl : xs.length = H * n) {y : Nat} (hy : y < H) : (rwL n xs y).length = n := by
  have := row_end hl hy
  unfold rwL
  rw [List.length_take, List.length_drop]; omega
theorem rwL_get {n : Nat} {xs : List Int} {y i : Nat} (hi : i < n) : (rwL n xs y).getD i 0 = xs.getD (y * n + i) 0 := by
  unfold rwL
  simp [List.getD_eq_getElem?_getD, List.getElem?_take, hi]
theorem rwL_byt {n : Nat} {xs : List Int} (h : Byt xs) (y : Nat) : Byt (rwL n xs y) := by
  intro j
  by_cases hj : j < n
  · rw [rwL_get hj]; exact h _
  · have : (rwL n xs y).getD j 0 = 0 := by
      unfold rwL
      simp [List.getD_eq_getElem?_getD, List.getElem?_take, hj]
    rw [this]; omega
/-- The row before row y. -/
def rwB (n : Nat) (xs : List Int) : Nat → List Int
  | 0 => zeros n
  | y + 1 => rwL n xs y
theorem zrs_byt (n : Nat) : Byt (zeros n) := by
  intro j
  have : (zeros n).getD j 0 = 0 := by
    unfold zeros
    by_cases h : j < n
    · simp [List.getD_eq_getElem?_getD, h]
    · simp [List.getD_eq_getElem?_getD, h]
  rw [this]; omega
theorem rwB_len {n H : Nat} {xs : List Int} (hl : xs.length = H * n) : ∀ {y : Nat}, y ≤ H → (rwB n xs y).length = n
  | 0, _ => by simp [rwB, zeros]
  | y + 1, h => rwL_len hl (by omega)
theorem rwB_byt {n : Nat} {xs : List Int} (h : Byt xs) : ∀ y, Byt (rwB n xs y)
  | 0 => zrs_byt n
  | y + 1 => rwL_byt h y
/-- Its filter. -/
def fiK (n P : Nat) (xs : List Int) (y : Nat) : Int := bst (rwL n xs y) (rwB n xs y) P 4
/-- The filtered rows. -/
def fiL (n P : Nat) (xs : List Int) : Nat → List Int
  | 0 => []
  | y + 1 => fiL n P xs y ++ [fiK n P xs y] ++ flt (fiK n P xs y) (rwL n xs y) (rwB n xs y) P n
theorem fiL_len (n P : Nat) (xs : List Int) : ∀ y, (fiL n P xs y).length = y * (n + 1)
  | 0 => by simp [fiL]
  | y + 1 => by
    unfold fiL
    rw [List.length_append, List.length_append, fiL_len n P xs y, flt_len, Nat.add_mul, Nat.one_mul]
    simp; omega
theorem fiK_bd (n P : Nat) (xs : List Int) (y : Nat) : 0 ≤ fiK n P xs y ∧ fiK n P xs y ≤ 4 := bst_range _ _ _ 4
theorem fiL_byt (n P : Nat) (xs : List Int) : ∀ y, ∀ v ∈ fiL n P xs y, 0 ≤ v ∧ v ≤ 255
  | 0 => by simp [fiL]
  | y + 1 => by
    intro v hv
    unfold fiL at hv
    rcases List.mem_append.1 hv with hv | hv
    · rcases List.mem_append.1 hv with hv | hv
      · exact fiL_byt n P xs y v hv
      · simp at hv; subst hv
        have := fiK_bd n P xs y; omega
    · exact of_byt (flt_byt _ _ _ _ _) v hv
/-- A filtered part: its kind, its numbers. -/
def ptK (n : Nat) (l : List Int) (y : Nat) : Int := l.getD (y * (n + 1)) 0
def ptR (n : Nat) (l : List Int) (y : Nat) : List Int := (l.drop (y * (n + 1) + 1)).take n
theorem ptR_len {n H : Nat} {l : List Int} (hl : l.length = H * (n + 1)) {y : Nat} (hy : y < H) : (ptR n l y).length = n := by
  have := row_end hl hy
  unfold ptR
  rw [List.length_take, List.length_drop]; omega
theorem ptR_get {n : Nat} {l : List Int} {y i : Nat} (hi : i < n) : (ptR n l y).getD i 0 = l.getD (y * (n + 1) + 1 + i) 0 := by
  unfold ptR
  simp [List.getD_eq_getElem?_getD, List.getElem?_take, hi]
/-- The restored row before part y. -/
def unP (n P : Nat) (l : List Int) : Nat → List Int
  | 0 => zeros n
  | y + 1 => unf (ptK n l y) (ptR n l y) (unP n P l y) P n
theorem unP_len (n P : Nat) (l : List Int) : ∀ y, (unP n P l y).length = n
  | 0 => by simp [unP, zeros]
  | y + 1 => unf_len _ _ _ _ _
theorem unP_byt (n P : Nat) (l : List Int) : ∀ y, Byt (unP n P l y)
  | 0 => zrs_byt n
  | y + 1 => unf_byt _ _ _ _ _
/-- The numbers of the restored image. -/
def unL (n P : Nat) (l : List Int) : Nat → List Int
  | 0 => []
  | y + 1 => unL n P l y ++ unP n P l (y + 1)
theorem unL_len (n P : Nat) (l : List Int) : ∀ y, (unL n P l y).length = y * n
  | 0 => by simp [unL]
  | y + 1 => by unfold unL; rw [List.length_append, unL_len n P l y, unP_len, Nat.add_mul, Nat.one_mul]
theorem unL_byt (n P : Nat) (l : List Int) : ∀ y, ∀ v ∈ unL n P l y, 0 ≤ v ∧ v ≤ 255
  | 0 => by simp [unL]
  | y + 1 => by
    intro v hv
    unfold unL at hv
    rcases List.mem_append.1 hv with hv | hv
    · exact unL_byt n P l y v hv
    · exact of_byt (unP_byt n P l (y + 1)) v hv
/-- Whether a part can be restored; whether the first H can. -/
def ptOk (n : Nat) (l : List Int) (y : Nat) : Bool := decide (0 ≤ ptK n l y ∧ ptK n l y ≤ 4) && allB 0 255 (ptR n l y)
def unOk (n H : Nat) (l : List Int) : Bool := decide (∀ y, y < H → ptOk n l y = true)
/-- The parts of filtered rows. -/
theorem fiL_pre {n P : Nat} {xs : List Int} {H y : Nat} (hy : y ≤ H) : (fiL n P xs H).take (y * (n + 1)) = fiL n P xs y := by
  induction H with
  | zero =>
    obtain rfl : y = 0 := by omega
    simp [fiL]
  | succ H ih =>
    rcases Nat.lt_or_ge H y with h | h
    · obtain rfl : y = H + 1 := by omega
      exact List.take_of_length_le (by rw [fiL_len]; exact Nat.le_refl _)
    · have h1 : y * (n + 1) ≤ (fiL n P xs H).length := by rw [fiL_len]; exact Nat.mul_le_mul_right _ h
      rw [show fiL n P xs (H + 1) = fiL n P xs H ++ ([fiK n P xs H] ++ flt (fiK n P xs H) (rwL n xs H) (rwB n xs H) P n) by rw [← List.append_assoc]; rfl]
      rw [List.take_append_of_le_length h1]
      exact ih h
theorem fiL_at {n P : Nat} {xs : List Int} {H y i : Nat} (hy : y < H) (hi : i < n + 1) : (fiL n P xs H).getD (y * (n + 1) + i) 0 = ([fiK n P xs y] ++ flt (fiK n P xs y) (rwL n xs y) (rwB n xs y) P n).getD i 0 := by
  have h1 := fiL_pre (n := n) (P := P) (xs := xs) (H := H) (y := y + 1) (by omega)
  have hlt : y * (n + 1) + i < (y + 1) * (n + 1) := by rw [Nat.add_mul, Nat.one_mul]; omega
  have h2 : (fiL n P xs H).getD (y * (n + 1) + i) 0 = ((fiL n P xs H).take ((y + 1) * (n + 1))).getD (y * (n + 1) + i) 0 := by
    simp [List.getD_eq_getElem?_getD, List.getElem?_take, hlt]
  rw [h2, h1, show fiL n P xs (y + 1) = fiL n P xs y ++ ([fiK n P xs y] ++ flt (fiK n P xs y) (rwL n xs y) (rwB n xs y) P n) by rw [← List.append_assoc]; rfl]
  rw [List.getD_eq_getElem?_getD, List.getElem?_append_right (by rw [fiL_len]; omega), fiL_len, Nat.add_sub_cancel_left, ← List.getD_eq_getElem?_getD]
theorem pt_fiK {n P : Nat} {xs : List Int} {H y : Nat} (hy : y < H) : ptK n (fiL n P xs H) y = fiK n P xs y := by
  have := fiL_at (n := n) (P := P) (xs := xs) hy (show 0 < n + 1 by omega)
  unfold ptK
  rw [Nat.add_zero] at this
  rw [this]; rfl
theorem ext0 {xs ys : List Int} (hl : xs.length = ys.length) (h : ∀ k, k < xs.length → xs.getD k 0 = ys.getD k 0) : xs = ys := by
  apply List.ext_getElem hl
  intro k h1 h2
  have := h k h1
  simp only [List.getD_eq_getElem?_getD] at this
  rw [List.getElem?_eq_getElem h1, List.getElem?_eq_getElem h2] at this
  simpa using this
theorem pt_fiR {n P : Nat} {xs : List Int} {H y : Nat} (hy : y < H) : ptR n (fiL n P xs H) y = flt (fiK n P xs y) (rwL n xs y) (rwB n xs y) P n := by
  refine ext0 (by rw [ptR_len (fiL_len n P xs H) hy, flt_len]) fun k hk => ?_
  rw [ptR_len (fiL_len n P xs H) hy] at hk
  rw [ptR_get hk, Nat.add_assoc, fiL_at hy (by omega)]
  simp [List.getD_eq_getElem?_getD, Nat.add_comm 1 k]
/-- Restoring filtered rows gives the rows. -/
theorem un_fi {n P H : Nat} {xs : List Int} (hP : 1 ≤ P) (hl : xs.length = H * n) (hb : Byt xs) : ∀ y, y ≤ H → unP n P (fiL n P xs H) y = rwB n xs y
  | 0, _ => rfl
  | y + 1, h => by
    have hy : y < H := by omega
    show unf (ptK n (fiL n P xs H) y) (ptR n (fiL n P xs H) y) (unP n P (fiL n P xs H) y) P n = rwL n xs y
    rw [pt_fiK hy, pt_fiR hy, un_fi hP hl hb y (by omega)]
    have hn := rwL_len hl hy
    have h1 := unf_flt (fiK n P xs y) (xs := rwL n xs y) (bs := rwB n xs y) hP (rwL_byt hb y) n (by omega) n (Nat.le_refl _)
    rw [h1]
    exact List.take_of_length_le (by omega)
theorem unL_fi {n P H : Nat} {xs : List Int} (hP : 1 ≤ P) (hl : xs.length = H * n) (hb : Byt xs) : ∀ y, y ≤ H → unL n P (fiL n P xs H) y = xs.take (y * n)
  | 0, _ => by simp [unL]
  | y + 1, h => by
    show unL n P (fiL n P xs H) y ++ unP n P (fiL n P xs H) (y + 1) = _
    rw [unL_fi hP hl hb y (by omega), un_fi hP hl hb (y + 1) h]
    show xs.take (y * n) ++ rwL n xs y = xs.take ((y + 1) * n)
    unfold rwL
    rw [Nat.add_mul, Nat.one_mul, List.take_add]
theorem ok_fi {n P H : Nat} {xs : List Int} : unOk n H (fiL n P xs H) = true := by
  unfold unOk
  refine decide_eq_true fun y hy => ?_
  unfold ptOk
  rw [pt_fiK hy, pt_fiR hy, decide_eq_true (fiK_bd n P xs y), Bool.true_and]
  unfold allB
  exact decide_eq_true fun v hv => of_byt (flt_byt _ _ _ _ _) v hv
/-- The filtered rows of some rows, in the order given, and the last one of them. -/
def fiS (n P : Nat) (xs : List Int) {M : Nat} (pre : List (Fin M)) : List Int × List Int :=
  pre.foldl (fun s x => (s.1 ++ [bst (rwL n xs x.val) s.2 P 4] ++ flt (bst (rwL n xs x.val) s.2 P 4) (rwL n xs x.val) s.2 P n, rwL n xs x.val)) ([], zeros n)
theorem fiS_snoc (n P : Nat) (xs : List Int) {M : Nat} (pre : List (Fin M)) (x : Fin M) : fiS n P xs (pre ++ [x]) = ((fiS n P xs pre).1 ++ [bst (rwL n xs x.val) (fiS n P xs pre).2 P 4] ++ flt (bst (rwL n xs x.val) (fiS n P xs pre).2 P 4) (rwL n xs x.val) (fiS n P xs pre).2 P n, rwL n xs x.val) := by
  unfold fiS
  rw [List.foldl_append]; rfl
theorem fin_take3 (M k : Nat) (hk : k < M) : (List.finRange M).take (k + 1) = (List.finRange M).take k ++ [⟨k, hk⟩] := by
  rw [List.take_add_one, List.getElem?_eq_getElem (by simpa using hk)]
  simp
theorem fiS_take (n P : Nat) (xs : List Int) {M : Nat} : ∀ k, k ≤ M → fiS n P xs ((List.finRange M).take k) = (fiL n P xs k, rwB n xs k)
  | 0, _ => by simp [fiS, fiL, rwB]
  | k + 1, h => by
    rw [fin_take3 M k (by omega), fiS_snoc, fiS_take n P xs k (by omega)]
    rfl
theorem fiS_all (n P : Nat) (xs : List Int) {M : Nat} : (fiS n P xs (List.finRange M)).1 = fiL n P xs M := by
  have := fiS_take n P xs (M := M) M (Nat.le_refl _)
  rw [List.take_of_length_le (by simp)] at this
  rw [this]
theorem snoc_ind {α : Type} {p : List α → Prop} (h0 : p []) (h1 : ∀ l x, p l → p (l ++ [x])) : ∀ l, p l := by
  intro l
  rw [← List.reverse_reverse l]
  induction l.reverse with
  | nil => exact h0
  | cons a t ih => rw [List.reverse_cons]; exact h1 _ _ ih
theorem fiS_bd {n P M : Nat} {xs : List Int} (hl : xs.length = M * n) (hb : Byt xs) : ∀ pre : List (Fin M), (fiS n P xs pre).1.length = pre.length * (n + 1) ∧ (fiS n P xs pre).2.length = n ∧ Byt (fiS n P xs pre).2 :=
  snoc_ind ⟨by simp [fiS], by simp [fiS, zeros], by unfold fiS; exact zrs_byt n⟩ fun pre x ih => by
    rw [fiS_snoc]
    refine ⟨?_, rwL_len hl x.isLt, rwL_byt hb _⟩
    simp only [List.length_append, ih.1, flt_len, Nat.add_mul, List.length_cons, List.length_nil]
    omega
def fiV (W H P : Nat) (xs : List Int) : List Int := fiL (W * P) P xs H
def fimV (W H P : Int) (xs : List Int) : List Int := cond (vim W H P xs) (fiV W.toNat H.toNat P.toNat xs) []
end Go.Proofs.Ytolifmgkkkclkaa
