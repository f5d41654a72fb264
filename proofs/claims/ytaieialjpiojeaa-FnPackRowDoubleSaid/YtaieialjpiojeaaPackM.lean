/- The arithmetic of packed rows: bytes as sums of shifted numbers. -/
import Derived.Test.YtaieialjpiojeaaWords
namespace Go.Proofs.Ytaieialjpiojeaa
set_option linter.unusedSimpArgs false
set_option linter.unusedVariables false

def Dep (d : Nat) : Prop := d = 1 ∨ d = 2 ∨ d = 4 ∨ d = 8
/-- The shift of number k. -/
def sh (d k : Nat) : Nat := 8 - d - k * d % 8
/-- Byte j of the first k numbers. -/
def bt (d : Nat) (xs : List Int) : Nat → Nat → Int
  | 0, _ => 0
  | k + 1, j => bt d xs k j + if k * d / 8 = j then xs.getD k 0 * 2 ^ sh d k else 0
def sz (d k : Nat) : Nat := (k * d + 7) / 8
def pkTo (d : Nat) (xs : List Int) (k : Nat) : List Int := (List.range (sz d k)).map (bt d xs k)
def pk (d : Nat) (xs : List Int) : List Int := pkTo d xs xs.length
def mid (d : Nat) (xs : List Int) (k : Nat) : List Int := (List.range (k * d / 8 + 1)).map (bt d xs k)
def spTo (d : Nat) (xs : List Int) (k : Nat) : List Int := (List.range (sz d xs.length)).map (bt d xs k)

theorem succ_mul' (k d : Nat) : (k + 1) * d = k * d + d := by rw [Nat.add_mul, Nat.one_mul]
theorem dep_room {d : Nat} (h : Dep d) (k : Nat) : d + k * d % 8 ≤ 8 := by
  rcases h with rfl | rfl | rfl | rfl <;> omega
theorem dep_le {d : Nat} (h : Dep d) : 1 ≤ d ∧ d ≤ 8 := by rcases h with rfl | rfl | rfl | rfl <;> omega
theorem bt_beyond {d : Nat} (h : Dep d) (xs : List Int) (k j : Nat) (hj : sz d k ≤ j) : bt d xs k j = 0 := by
  induction k with
  | zero => rfl
  | succ k ih =>
    have hd := dep_le h
    have e := succ_mul' k d
    unfold sz at hj ih
    rw [e] at hj
    have := dep_room h k
    simp only [bt]
    rw [ih (by omega), if_neg (by omega)]
    rfl
theorem sz_succ {d : Nat} (h : Dep d) (k : Nat) : sz d (k + 1) = k * d / 8 + 1 := by
  unfold sz
  rw [succ_mul']
  have := dep_le h
  have := dep_room h k
  omega
theorem pkTo_len (d : Nat) (xs : List Int) (k : Nat) : (pkTo d xs k).length = sz d k := by simp [pkTo]
theorem mid_len (d : Nat) (xs : List Int) (k : Nat) : (mid d xs k).length = k * d / 8 + 1 := by simp [mid]
theorem spTo_len (d : Nat) (xs : List Int) (k : Nat) : (spTo d xs k).length = sz d xs.length := by simp [spTo]
theorem mid_new {d : Nat} (h : Dep d) (xs : List Int) (k : Nat) (h0 : k * d % 8 = 0) : pkTo d xs k ++ [0] = mid d xs k := by
  have e : sz d k = k * d / 8 := by unfold sz; omega
  unfold pkTo mid
  rw [e, List.range_succ, List.map_append]
  simp
  exact (bt_beyond h xs k _ (by omega)).symm
theorem mid_old {d : Nat} (h : Dep d) (xs : List Int) (k : Nat) (h0 : k * d % 8 ≠ 0) : pkTo d xs k = mid d xs k := by
  have e : sz d k = k * d / 8 + 1 := by unfold sz; omega
  unfold pkTo mid
  rw [e]
theorem range_set (n i : Nat) (f g : Nat → Int) (y : Int) (hi : i < n) (hy : g i = y) (hg : ∀ j, j ≠ i → g j = f j) : ((List.range n).map f).set i y = (List.range n).map g := by
  apply List.ext_getElem?
  intro j
  simp only [List.getElem?_set, List.getElem?_map, List.length_map, List.length_range]
  by_cases h : i = j
  · subst h; simp [hi, hy]
  · simp only [h, if_false]
    rcases Nat.lt_or_ge j n with hj | hj
    · simp [hj, hg j (fun e => h e.symm)]
    · simp [hj]
theorem mid_set {d : Nat} (h : Dep d) (xs : List Int) (k : Nat) : (mid d xs k).set (k * d / 8) (bt d xs k (k * d / 8) + xs.getD k 0 * 2 ^ sh d k) = pkTo d xs (k + 1) := by
  unfold mid pkTo
  rw [sz_succ h]
  exact range_set _ _ _ _ _ (by omega) (by simp [bt]) (fun j hj => by simp only [bt]; rw [if_neg (fun e => hj e.symm)]; omega)
theorem spTo_set {d : Nat} (h : Dep d) (xs : List Int) (k : Nat) (hk : k < xs.length) : (spTo d xs k).set (k * d / 8) (bt d xs k (k * d / 8) + xs.getD k 0 * 2 ^ sh d k) = spTo d xs (k + 1) := by
  unfold spTo
  refine range_set _ _ _ _ _ ?_ (by simp [bt]) (fun j hj => by simp only [bt]; rw [if_neg (fun e => hj e.symm)]; omega)
  have := Nat.mul_le_mul_right d hk
  rw [Nat.succ_mul] at this
  have := dep_le h
  unfold sz
  omega
theorem spTo_zero (d : Nat) (xs : List Int) : spTo d xs 0 = List.replicate (sz d xs.length) 0 := by
  unfold spTo
  apply List.ext_getElem?
  intro j
  simp only [List.getElem?_map, List.getElem?_replicate]
  rcases Nat.lt_or_ge j (sz d xs.length) with hj | hj
  · simp [hj, bt]
  · simp [hj]
theorem spTo_end (d : Nat) (xs : List Int) : spTo d xs xs.length = pk d xs := rfl
theorem pkTo_zero (d : Nat) (xs : List Int) : pkTo d xs 0 = [] := by simp [pkTo, sz]
theorem mid_get (d : Nat) (xs : List Int) (k : Nat) : (mid d xs k).getD (k * d / 8) 0 = bt d xs k (k * d / 8) := by simp [mid]
theorem spTo_get (d : Nat) (xs : List Int) (k j : Nat) (hj : j < sz d xs.length) : (spTo d xs k).getD j 0 = bt d xs k j := by simp [spTo, hj]

/-- All numbers have the depth. -/
def Fits (d : Nat) (xs : List Int) : Prop := ∀ x ∈ xs, 0 ≤ x ∧ x < 2 ^ d
theorem Fits.get {d : Nat} {xs : List Int} (h : Fits d xs) (k : Nat) : 0 ≤ xs.getD k 0 ∧ xs.getD k 0 < 2 ^ d := by
  rcases Nat.lt_or_ge k xs.length with hk | hk
  · simp [hk]; exact h _ (List.getElem_mem hk)
  · simp [hk]; exact Int.pow_pos (by decide)
/-- The byte that is being filled is a multiple of what is left of it. -/
theorem bt_last {d : Nat} (h : Dep d) {xs : List Int} (hx : Fits d xs) (k : Nat) : ∃ q : Int, bt d xs k (k * d / 8) = q * 2 ^ (8 - k * d % 8) ∧ 0 ≤ q ∧ q * 2 ^ (8 - k * d % 8) + 2 ^ (8 - k * d % 8) ≤ 256 := by
  induction k with
  | zero => exact ⟨0, by simp [bt], by omega, by simp⟩
  | succ k ih =>
    obtain ⟨q, h1, h2, h3⟩ := ih
    have hx' := hx.get k
    have hr := dep_room h k
    have e := succ_mul' k d
    by_cases hnew : (k * d % 8 + d = 8)
    · refine ⟨0, ?_, by omega, ?_⟩
      · have hdd := dep_le h
        rw [bt_beyond h xs (k + 1) _ (by rw [sz_succ h, e]; omega)]
        simp
      · rw [e, show (k * d + d) % 8 = 0 by omega]; decide
    · have hdd := dep_le h
      refine ⟨q * 2 ^ d + xs.getD k 0, ?_, ?_, ?_⟩
      · rw [e, show (k * d + d) / 8 = k * d / 8 by omega, show (k * d + d) % 8 = k * d % 8 + d by omega]
        simp only [bt]
        rw [h1, if_pos trivial, show 8 - k * d % 8 = d + (8 - (k * d % 8 + d)) by omega, Int.pow_add, Int.add_mul, Int.mul_assoc]
        congr 2
        unfold sh
        congr 1
        omega
      · have : (0 : Int) ≤ 2 ^ d := Int.le_of_lt (Int.pow_pos (by decide))
        have := Int.mul_nonneg h2 this
        omega
      · rw [e, show (k * d + d) % 8 = k * d % 8 + d by omega]
        rw [show 8 - k * d % 8 = d + (8 - (k * d % 8 + d)) by omega, Int.pow_add] at h3
        generalize hM : (2 : Int) ^ (8 - (k * d % 8 + d)) = M at *
        generalize hD : (2 : Int) ^ d = D at *
        have hM0 : 0 ≤ M := by rw [← hM]; exact Int.le_of_lt (Int.pow_pos (by decide))
        have h4 : (xs.getD k 0 + 1) * M ≤ D * M := Int.mul_le_mul_of_nonneg_right (by omega) hM0
        rw [Int.add_mul, Int.one_mul] at h4
        rw [Int.add_mul, Int.mul_assoc]
        omega
theorem sh_small {d : Nat} (h : Dep d) {xs : List Int} (hx : Fits d xs) (k : Nat) : 0 ≤ xs.getD k 0 * 2 ^ sh d k ∧ xs.getD k 0 * 2 ^ sh d k < 2 ^ (8 - k * d % 8) := by
  have hx' := hx.get k
  have hr := dep_room h k
  have hs : (0 : Int) < 2 ^ sh d k := Int.pow_pos (by decide)
  refine ⟨Int.mul_nonneg hx'.1 (by omega), ?_⟩
  rw [show 8 - k * d % 8 = d + sh d k by unfold sh; omega, Int.pow_add]
  exact Int.mul_lt_mul_of_pos_right hx'.2 hs
theorem bt_range {d : Nat} (h : Dep d) {xs : List Int} (hx : Fits d xs) (k : Nat) : 0 ≤ bt d xs k (k * d / 8) ∧ bt d xs k (k * d / 8) + xs.getD k 0 * 2 ^ sh d k ≤ 255 := by
  obtain ⟨q, h1, h2, h3⟩ := bt_last h hx k
  have h4 := sh_small h hx k
  have hM : (0 : Int) < 2 ^ (8 - k * d % 8) := Int.pow_pos (by decide)
  rw [h1]
  exact ⟨Int.mul_nonneg h2 (by omega), by omega⟩
end Go.Proofs.Ytaieialjpiojeaa
