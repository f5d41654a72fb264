/- Mathematics of equalizing: the greatest number of a list, how many are less, the table. -/
import Derived.Test.YtaejhodikpjeoaaHisM
namespace Go.Proofs.Ytaejhodikpjeoaa
set_option linter.unusedSimpArgs false
set_option linter.unusedVariables false

/-- The greatest of the first k numbers, 1 ≤ k. -/
def mx (xs : List Int) : Nat → Int
  | 0 => xs.getD 0 0
  | k + 1 => max (mx xs k) (xs.getD k 0)
theorem mx_one (xs : List Int) : mx xs 1 = xs.getD 0 0 := by show max (xs.getD 0 0) (xs.getD 0 0) = _; omega
theorem mx_ge (xs : List Int) : ∀ k j, j < k → xs.getD j 0 ≤ mx xs k
  | 0, j, h => by omega
  | k + 1, j, h => by
    show _ ≤ max (mx xs k) (xs.getD k 0)
    by_cases e : j = k
    · subst e; omega
    · have := mx_ge xs k j (by omega); omega
theorem mx_in (xs : List Int) (h0 : 0 < xs.length) : ∀ k, k ≤ xs.length → ∃ j, j < xs.length ∧ mx xs k = xs.getD j 0
  | 0, _ => ⟨0, h0, rfl⟩
  | k + 1, h => by
    obtain ⟨j, hj, e⟩ := mx_in xs h0 k (by omega)
    by_cases c : mx xs k ≤ xs.getD k 0
    · exact ⟨k, by omega, by show max (mx xs k) (xs.getD k 0) = _; omega⟩
    · exact ⟨j, hj, by show max (mx xs k) (xs.getD k 0) = _; omega⟩
theorem mx_bd (xs : List Int) (h0 : 0 < xs.length) (hb : ∀ j, j < xs.length → 0 ≤ xs.getD j 0 ∧ xs.getD j 0 ≤ 255) (k : Nat) (h : k ≤ xs.length) : 0 ≤ mx xs k ∧ mx xs k ≤ 255 := by
  obtain ⟨j, hj, e⟩ := mx_in xs h0 k h
  rw [e]; exact hb j hj
/-- The greatest number. -/
def tp (xs : List Int) : Nat := (mx xs xs.length).toNat
theorem mem_getD {xs : List Int} {x : Int} (h : x ∈ xs) : ∃ j, j < xs.length ∧ xs.getD j 0 = x := by
  obtain ⟨j, hj, e⟩ := List.mem_iff_getElem.1 h
  exact ⟨j, hj, by simp [hj, e]⟩
section
variable {xs : List Int} (h0 : 0 < xs.length) (hb : ∀ j, j < xs.length → 0 ≤ xs.getD j 0 ∧ xs.getD j 0 ≤ 255)
include h0 hb
theorem tp_bd : tp xs ≤ 255 := by have := mx_bd xs h0 hb xs.length (Nat.le_refl _); unfold tp; omega
theorem tp_eq : (tp xs : Int) = mx xs xs.length := by have := mx_bd xs h0 hb xs.length (Nat.le_refl _); unfold tp; omega
theorem tp_ge {x : Int} (h : x ∈ xs) : x ≤ tp xs := by
  obtain ⟨j, hj, rfl⟩ := mem_getD h
  rw [tp_eq h0 hb]
  exact mx_ge xs _ j hj
theorem tp_mem : (tp xs : Int) ∈ xs := by
  obtain ⟨j, hj, e⟩ := mx_in xs h0 xs.length (Nat.le_refl _)
  rw [tp_eq h0 hb, e]
  simp [hj]
omit h0 in
theorem pos_mem {x : Int} (h : x ∈ xs) : 0 ≤ x := by
  obtain ⟨j, hj, rfl⟩ := mem_getD h
  exact (hb j hj).1
/-- The greatest number that appears. -/
theorem tp_cnt : 0 < (hist xs).getD (tp xs) 0 := by
  rw [hist_get xs (show tp xs < 256 by have := tp_bd h0 hb; omega)]
  have := List.count_pos_iff.2 (tp_mem h0 hb)
  omega
theorem no_cnt {n : Nat} (h : tp xs < n) (h2 : n < 256) : (hist xs).getD n 0 = 0 := by
  rw [hist_get xs h2, List.count_eq_zero.2]
  · rfl
  · intro hm; have := tp_ge h0 hb hm; omega
/-- How many do not have the greatest number. -/
def oth (xs : List Int) : Int := sm (hist xs) (tp xs)
theorem oth_eq : oth xs = xs.length - (hist xs).getD (tp xs) 0 := by
  have ht := tp_bd h0 hb
  have h1 := sm_hist xs (fun x => pos_mem hb) (tp xs) (by omega)
  have h2 := countP_next (tp xs) xs (fun x => pos_mem hb)
  have h3 : xs.countP (fun x => decide (x < ((tp xs + 1 : Nat) : Int))) = xs.length := List.countP_eq_length.2 fun x hx => by have := tp_ge h0 hb hx; simp; omega
  rw [hist_get xs (show tp xs < 256 by omega)]
  unfold oth
  omega
omit h0 in
theorem sm_mono {a b : Nat} (h : a ≤ b) (hb' : b ≤ 256) : sm (hist xs) a ≤ sm (hist xs) b := by
  rw [sm_hist xs (fun x => pos_mem hb) a (by omega), sm_hist xs (fun x => pos_mem hb) b hb']
  have := List.countP_mono_left (l := xs) (p := fun x => decide (x < (a : Int))) (q := fun x => decide (x < (b : Int))) (fun x hx => by simp; omega)
  omega
omit h0 in
theorem sm_le {a : Nat} (h : a ≤ 256) : 0 ≤ sm (hist xs) a ∧ sm (hist xs) a ≤ xs.length := by
  rw [sm_hist xs (fun x => pos_mem hb) a h]
  have := List.countP_le_length (l := xs) (p := fun x => decide (x < (a : Int)))
  omega
theorem oth_bd : 0 ≤ oth xs ∧ oth xs ≤ xs.length := sm_le hb (by have := tp_bd h0 hb; omega)
end
/-- What becomes of a number. -/
def eqF (xs : List Int) (n : Int) : Int := if oth xs = 0 then n else 255 * sm (hist xs) n.toNat / oth xs
def eqL (xs : List Int) : List Int := xs.map (eqF xs)
/-- The table of the model. -/
def tbF (xs : List Int) (n : Nat) : Int := min 255 (255 * sm (hist xs) n / oth xs)
def tbL (xs : List Int) (k : Nat) : List Int := (List.range k).map (tbF xs)
theorem tbL_len (xs : List Int) (k : Nat) : (tbL xs k).length = k := by simp [tbL]
theorem tbL_next (xs : List Int) (k : Nat) : tbL xs (k + 1) = tbL xs k ++ [tbF xs k] := by simp [tbL, List.range_succ]
theorem tbL_get (xs : List Int) {n : Nat} (h : n < 256) : (tbL xs 256).getD n 0 = tbF xs n := by simp [tbL, h]
section
variable {xs : List Int} (h0 : 0 < xs.length) (hb : ∀ j, j < xs.length → 0 ≤ xs.getD j 0 ∧ xs.getD j 0 ≤ 255)
include h0 hb
theorem tb_eq {x : Int} (hx : x ∈ xs) (hn : ¬ oth xs = 0) : tbF xs x.toNat = eqF xs x := by
  unfold tbF eqF
  rw [if_neg hn]
  have ho := oth_bd h0 hb
  have hp := pos_mem hb hx
  have ht := tp_ge h0 hb hx
  have hm := sm_mono hb (a := x.toNat) (b := tp xs) (by omega) (by have := tp_bd h0 hb; omega)
  have : 255 * sm (hist xs) x.toNat / oth xs ≤ 255 := by
    refine Int.ediv_le_of_le_mul (by omega) ?_
    have : 255 * sm (hist xs) x.toNat ≤ 255 * oth xs := Int.mul_le_mul_of_nonneg_left hm (by omega)
    omega
  omega
theorem eqF_bd {x : Int} (hx : x ∈ xs) : 0 ≤ eqF xs x ∧ eqF xs x ≤ 255 := by
  by_cases hn : oth xs = 0
  · unfold eqF
    rw [if_pos hn]
    obtain ⟨j, hj, rfl⟩ := mem_getD hx
    exact hb j hj
  · rw [← tb_eq h0 hb hx hn]
    have ho := oth_bd h0 hb
    have hs := sm_le hb (a := x.toNat) (by obtain ⟨j, hj, rfl⟩ := mem_getD hx; have := hb j hj; omega)
    have : 0 ≤ 255 * sm (hist xs) x.toNat / oth xs := Int.ediv_nonneg (by omega) (by omega)
    unfold tbF
    omega
end
/-- The last number below n that appears. -/
def lastOf (xs : List Int) : Nat → Nat
  | 0 => 0
  | n + 1 => if 0 < (hist xs).getD n 0 then n else lastOf xs n
theorem lastOf_le (xs : List Int) : ∀ n, lastOf xs n ≤ n
  | 0 => Nat.le_refl _
  | n + 1 => by
    show (if 0 < (hist xs).getD n 0 then n else lastOf xs n) ≤ n + 1
    have := lastOf_le xs n
    by_cases h : 0 < (hist xs).getD n 0
    · rw [if_pos h]; omega
    · rw [if_neg h]; omega
theorem lastOf_all {xs : List Int} (h0 : 0 < xs.length) (hb : ∀ j, j < xs.length → 0 ≤ xs.getD j 0 ∧ xs.getD j 0 ≤ 255) : ∀ n, tp xs < n → n ≤ 256 → lastOf xs n = tp xs
  | 0, h, _ => by omega
  | n + 1, h, h2 => by
    show (if 0 < (hist xs).getD n 0 then n else lastOf xs n) = _
    by_cases e : n = tp xs
    · rw [if_pos (by rw [e]; exact tp_cnt h0 hb), e]
    · rw [if_neg (by rw [no_cnt h0 hb (n := n) (by omega) (by omega)]; omega)]
      exact lastOf_all h0 hb n (by omega) (by omega)
/-- The sums that the program lays: less than n, for each n. -/
def lsL (xs : List Int) (k : Nat) : List Int := (List.range k).map (fun n => sm (hist xs) n)
theorem lsL_len (xs : List Int) (k : Nat) : (lsL xs k).length = k := by simp [lsL]
theorem lsL_get (xs : List Int) {n k : Nat} (h : n < k) : (lsL xs k).getD n 0 = sm (hist xs) n := by simp [lsL, h]
theorem lsL_next (xs : List Int) (k : Nat) : lsL xs (k + 1) = lsL xs k ++ [sm (hist xs) k] := by simp [lsL, List.range_succ]
end Go.Proofs.Ytaejhodikpjeoaa
