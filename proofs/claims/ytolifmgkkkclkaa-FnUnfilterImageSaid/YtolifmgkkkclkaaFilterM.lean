/- The arithmetic of filters: predictions, filtered rows, restored rows. -/
import Derived.Test.YtolifmgkkkclkaaWords
namespace Go.Proofs.Ytolifmgkkkclkaa
set_option linter.unusedSimpArgs false
set_option linter.unusedVariables false

/-- The absolute value. -/
def dist (n : Int) : Int := if n < 0 then -n else n
/-- The neighbour that is nearest to left plus up minus corner. -/
def pae (l u c : Int) : Int := if dist (u - c) ≤ dist (l - c) ∧ dist (u - c) ≤ dist (l + u - c - c) then l else if dist (l - c) ≤ dist (l + u - c - c) then u else c
/-- The prediction of a kind. -/
def pred (k l u c : Int) : Int := if k = 1 then l else if k = 2 then u else if k = 3 then (l + u) / 2 else if k = 4 then pae l u c else 0
/-- The number that is earlier by s. -/
def back (xs : List Int) (s i : Nat) : Int := if s ≤ i then xs.getD (i - s) 0 else 0
/-- The prediction for number i. -/
def gs (k : Int) (xs bs : List Int) (s i : Nat) : Int := pred k (back xs s i) (bs.getD i 0) (back bs s i)
/-- A filtered row, its first n numbers. -/
def flt (k : Int) (xs bs : List Int) (s n : Nat) : List Int := (List.range n).map (fun i => (xs.getD i 0 - gs k xs bs s i) % 256)
/-- A restored row, its first n numbers. -/
def unf (k : Int) (xs bs : List Int) (s : Nat) : Nat → List Int
  | 0 => []
  | n + 1 => unf k xs bs s n ++ [(xs.getD n 0 + gs k (unf k xs bs s n) bs s n) % 256]

def Byt (xs : List Int) : Prop := ∀ j, 0 ≤ xs.getD j 0 ∧ xs.getD j 0 ≤ 255
theorem byt_of {xs : List Int} (h : ∀ x ∈ xs, 0 ≤ x ∧ x ≤ 255) : Byt xs := by
  intro j
  rcases Nat.lt_or_ge j xs.length with hj | hj
  · simp only [List.getD_eq_getElem?_getD, List.getElem?_eq_getElem hj, Option.getD_some]; exact h _ (List.getElem_mem hj)
  · simp [hj]
theorem of_byt {xs : List Int} (h : Byt xs) : ∀ x ∈ xs, 0 ≤ x ∧ x ≤ 255 := by
  intro x hx
  obtain ⟨j, hj, rfl⟩ := List.getElem_of_mem hx
  have := h j
  simpa [hj] using this
theorem pae_one (l u c : Int) : pae l u c = l ∨ pae l u c = u ∨ pae l u c = c := by
  unfold pae
  split
  · exact .inl rfl
  · split
    · exact .inr (.inl rfl)
    · exact .inr (.inr rfl)
theorem pred_range (k : Int) {l u c : Int} (hl : 0 ≤ l ∧ l ≤ 255) (hu : 0 ≤ u ∧ u ≤ 255) (hc : 0 ≤ c ∧ c ≤ 255) : 0 ≤ pred k l u c ∧ pred k l u c ≤ 255 := by
  unfold pred
  repeat' split
  · exact hl
  · exact hu
  · omega
  · rcases pae_one l u c with h | h | h <;> rw [h] <;> assumption
  · omega
theorem back_range {xs : List Int} (h : Byt xs) (s i : Nat) : 0 ≤ back xs s i ∧ back xs s i ≤ 255 := by
  unfold back
  split
  · exact h _
  · omega
theorem gs_range (k : Int) {xs bs : List Int} (hx : Byt xs) (hb : Byt bs) (s i : Nat) : 0 ≤ gs k xs bs s i ∧ gs k xs bs s i ≤ 255 := pred_range k (back_range hx s i) (hb i) (back_range hb s i)
theorem flt_len (k : Int) (xs bs : List Int) (s n : Nat) : (flt k xs bs s n).length = n := by simp [flt]
theorem flt_succ (k : Int) (xs bs : List Int) (s n : Nat) : flt k xs bs s (n + 1) = flt k xs bs s n ++ [(xs.getD n 0 - gs k xs bs s n) % 256] := by simp [flt, List.range_succ]
theorem flt_get (k : Int) (xs bs : List Int) (s n i : Nat) (hi : i < n) : (flt k xs bs s n).getD i 0 = (xs.getD i 0 - gs k xs bs s i) % 256 := by simp [flt, hi]
theorem flt_byt (k : Int) (xs bs : List Int) (s n : Nat) : Byt (flt k xs bs s n) := by
  apply byt_of
  intro x hx
  simp only [flt, List.mem_map] at hx
  obtain ⟨i, _, rfl⟩ := hx
  omega
theorem unf_len (k : Int) (xs bs : List Int) (s n : Nat) : (unf k xs bs s n).length = n := by
  induction n with
  | zero => rfl
  | succ n ih => simp [unf, ih]
theorem unf_byt (k : Int) (xs bs : List Int) (s n : Nat) : Byt (unf k xs bs s n) := by
  apply byt_of
  induction n with
  | zero => simp [unf]
  | succ n ih =>
    intro x hx
    simp only [unf, List.mem_append, List.mem_singleton] at hx
    rcases hx with hx | rfl
    · exact ih x hx
    · omega
theorem unf_get (k : Int) (xs bs : List Int) (s : Nat) {n m i : Nat} (hi : i < n) (hn : n ≤ m) : (unf k xs bs s m).getD i 0 = (unf k xs bs s n).getD i 0 := by
  induction m with
  | zero => omega
  | succ m ih =>
    by_cases e : n = m + 1
    · rw [e]
    · rw [← ih (by omega)]
      simp only [unf, List.getD_eq_getElem?_getD]
      rw [List.getElem?_append_left (by rw [unf_len]; omega)]
theorem unf_at (k : Int) (xs bs : List Int) (s : Nat) {n m : Nat} (hn : n < m) : (unf k xs bs s m).getD n 0 = (xs.getD n 0 + gs k (unf k xs bs s n) bs s n) % 256 := by
  rw [unf_get k xs bs s (n := n + 1) (by omega) (by omega)]
  simp only [unf, List.getD_eq_getElem?_getD]
  rw [List.getElem?_append_right (by rw [unf_len]; omega)]
  simp [unf_len]
theorem back_congr {xs ys : List Int} {s i : Nat} (hs : 1 ≤ s) (h : ∀ j, j < i → xs.getD j 0 = ys.getD j 0) : back xs s i = back ys s i := by
  unfold back
  split
  · by_cases hi : i = 0
    · omega
    · exact h _ (by omega)
  · rfl
theorem gs_congr (k : Int) {xs ys : List Int} (bs : List Int) {s i : Nat} (hs : 1 ≤ s) (h : ∀ j, j < i → xs.getD j 0 = ys.getD j 0) : gs k xs bs s i = gs k ys bs s i := by
  unfold gs
  rw [back_congr hs h]
theorem getD_take' (xs : List Int) (n j : Nat) (h : j < n) : (xs.take n).getD j 0 = xs.getD j 0 := by simp [List.getElem?_take, h]
/-- Filters can be undone. -/
theorem unf_flt (k : Int) {xs bs : List Int} {s : Nat} (hs : 1 ≤ s) (hx : Byt xs) (n : Nat) (hn : n ≤ xs.length) : ∀ j, j ≤ n → unf k (flt k xs bs s n) bs s j = xs.take j := by
  intro j
  induction j with
  | zero => intro _; simp [unf]
  | succ j ih =>
    intro hj
    have e := ih (by omega)
    have hlt : j < xs.length := by omega
    simp only [unf]
    rw [e, flt_get k xs bs s n j (by omega), gs_congr k bs hs (fun i hi => getD_take' xs j i hi), List.take_succ_eq_append_getElem hlt]
    congr 2
    have h := hx j
    have hg : xs.getD j 0 = xs[j] := by simp [hlt]
    rw [hg] at h ⊢
    omega
/-- Rows can be filtered again. -/
theorem flt_unf (k : Int) {xs bs : List Int} {s : Nat} (hs : 1 ≤ s) (hx : Byt xs) (n : Nat) (hn : n = xs.length) : flt k (unf k xs bs s n) bs s n = xs := by
  subst hn
  apply List.ext_getElem?
  intro j
  rcases Nat.lt_or_ge j xs.length with hj | hj
  · rw [List.getElem?_eq_getElem (by rw [flt_len]; exact hj), List.getElem?_eq_getElem hj]
    have h1 := flt_get k (unf k xs bs s xs.length) bs s xs.length j hj
    rw [unf_at k xs bs s hj, gs_congr k bs hs (fun i hi => unf_get k xs bs s (n := j) (m := xs.length) hi (by omega))] at h1
    simp only [List.getD_eq_getElem?_getD, List.getElem?_eq_getElem (show j < (flt k (unf k xs bs s xs.length) bs s xs.length).length by rw [flt_len]; exact hj), Option.getD_some] at h1
    rw [h1]
    have h := hx j
    simp only [List.getD_eq_getElem?_getD, List.getElem?_eq_getElem hj, Option.getD_some] at h ⊢
    congr 1
    omega
  · rw [List.getElem?_eq_none (by rw [flt_len]; exact hj), List.getElem?_eq_none hj]
theorem dist_nonneg (n : Int) : 0 ≤ dist n := by unfold dist; split <;> omega
theorem dist_comm (a b : Int) : dist (a - b) = dist (b - a) := by unfold dist; split <;> split <;> omega
/-- The sum over a filtered row. -/
def fcost (xs : List Int) : Int := (xs.map (fun n => min n (256 - n))).sum
theorem fcost_snoc (xs : List Int) (y : Int) : fcost (xs ++ [y]) = fcost xs + min y (256 - y) := by simp [fcost]
theorem fcost_take (xs : List Int) (k : Nat) (hk : k < xs.length) : fcost (xs.take (k + 1)) = fcost (xs.take k) + min (xs.getD k 0) (256 - xs.getD k 0) := by
  rw [List.take_succ_eq_append_getElem hk, fcost_snoc]; simp [hk]
theorem fcost_bd {xs : List Int} (h : Byt xs) (k : Nat) : 0 ≤ fcost (xs.take k) ∧ fcost (xs.take k) ≤ 255 * k := by
  induction k with
  | zero => simp [fcost]
  | succ k ih =>
    rcases Nat.lt_or_ge k xs.length with hk | hk
    · rw [fcost_take xs k hk]; have := h k; push_cast; omega
    · rw [List.take_of_length_le (by omega)] at ih ⊢; push_cast; omega
end Go.Proofs.Ytolifmgkkkclkaa
