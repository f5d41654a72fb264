/- Sums of squares of differences: of lists, of colors, of images. -/
import Derived.Test.YtjcohmljpokgcaaGridB
namespace Go.Proofs.Ytjcohmljpokgcaa
set_option linter.unusedSimpArgs false
set_option linter.unusedVariables false

def sq (a b : Int) : Int := (a - b) * (a - b)
theorem sq_nonneg (a b : Int) : 0 ≤ sq a b := by
  unfold sq
  rcases Int.le_total 0 (a - b) with h | h
  · exact Int.mul_nonneg h h
  · have := Int.mul_nonneg (show 0 ≤ -(a - b) by omega) (show 0 ≤ -(a - b) by omega)
    rwa [Int.neg_mul_neg] at this
theorem sq_le {a b : Int} (ha : 0 ≤ a ∧ a ≤ 255) (hb : 0 ≤ b ∧ b ≤ 255) : sq a b ≤ 65025 := by
  unfold sq
  obtain ⟨d, hd, hd2⟩ : ∃ d : Nat, d ≤ 255 ∧ (a - b = d ∨ a - b = -(d : Int)) := ⟨(a - b).natAbs, by omega, by omega⟩
  have h := Nat.mul_le_mul hd hd
  rcases hd2 with e | e
  · rw [e, ← Int.natCast_mul]; omega
  · rw [e, Int.neg_mul_neg, ← Int.natCast_mul]; omega
theorem sq_bd {a b : Int} (ha : 0 ≤ a ∧ a ≤ 255) (hb : 0 ≤ b ∧ b ≤ 255) : 0 ≤ sq a b ∧ sq a b ≤ 65025 := ⟨sq_nonneg a b, sq_le ha hb⟩
theorem sq_self (a : Int) : sq a a = 0 := by unfold sq; rw [Int.sub_self]; rfl
theorem sq_comm (a b : Int) : sq a b = sq b a := by
  unfold sq
  rw [show a - b = -(b - a) by omega, Int.neg_mul_neg]
theorem sq_zero {a b : Int} (h : sq a b = 0) : a = b := by
  unfold sq at h
  have := Int.mul_eq_zero.1 h
  omega
def gapN (xs ys : List Int) : Nat → Int
  | 0 => 0
  | k + 1 => gapN xs ys k + sq (xs.getD k 0) (ys.getD k 0)
theorem gapN_bd {xs ys : List Int} {n : Nat} (hx : ∀ j, j < n → 0 ≤ xs.getD j 0 ∧ xs.getD j 0 ≤ 255) (hy : ∀ j, j < n → 0 ≤ ys.getD j 0 ∧ ys.getD j 0 ≤ 255) : ∀ k, k ≤ n → 0 ≤ gapN xs ys k ∧ gapN xs ys k ≤ 65025 * k
  | 0, _ => by simp [gapN]
  | k + 1, hk => by
    have ih := gapN_bd hx hy k (by omega)
    have := sq_bd (hx k (by omega)) (hy k (by omega))
    unfold gapN
    omega
def cgN (c d : Nat → Int) : Nat → Int
  | 0 => 0
  | j + 1 => cgN c d j + sq (c j) (d j)
theorem cgN_bd {c d : Nat → Int} {n : Nat} (hx : ∀ j, j < n → 0 ≤ c j ∧ c j ≤ 255) (hy : ∀ j, j < n → 0 ≤ d j ∧ d j ≤ 255) : ∀ k, k ≤ n → 0 ≤ cgN c d k ∧ cgN c d k ≤ 65025 * k
  | 0, _ => by simp [cgN]
  | k + 1, hk => by
    have ih := cgN_bd hx hy k (by omega)
    have := sq_bd (hx k (by omega)) (hy k (by omega))
    unfold cgN
    omega
def gapC (W : Nat) (F G : Nat → Nat → Nat → Int) : Nat → Int
  | 0 => 0
  | k + 1 => gapC W F G k + cgN (F (k % W) (k / W)) (G (k % W) (k / W)) 4
theorem cgN_cut {c d : Nat → Int} {P : Nat} (hP : P ≤ 4) (h : ∀ j, P ≤ j → c j = d j) : cgN c d 4 = cgN c d P := by
  have hk : ∀ k, P ≤ k → cgN c d k = cgN c d P := by
    intro k hk
    induction k with
    | zero => rw [show P = 0 by omega]
    | succ k ih =>
      by_cases e : P = k + 1
      · rw [e]
      · show cgN c d k + sq (c k) (d k) = _
        rw [h k (by omega), sq_self, ih (by omega)]; omega
  exact hk 4 hP
theorem pxc_out {W P : Nat} {xs : List Int} {x y p : Nat} (h : P ≤ p) : pxc W P xs x y p = 0 := by
  unfold pxc
  rw [List.getD_eq_getElem?_getD, List.getElem?_eq_none (by rw [pxl_len]; exact h)]
  rfl
theorem pxc_at {W P : Nat} {xs : List Int} {k p : Nat} (hp : p < P) : pxc W P xs (k % W) (k / W) p = xs.getD (k * P + p) 0 := by
  rw [img_pxc (H := 0) hp]
  unfold px pix
  rw [Nat.div_add_mod']
theorem gap_rows {W P : Nat} {xs ys : List Int} (hP : P ≤ 4) : ∀ k, gapN xs ys (k * P) = gapC W (pxc W P xs) (pxc W P ys) k
  | 0 => by simp [gapN, gapC]
  | k + 1 => by
    have ih := gap_rows (W := W) (xs := xs) (ys := ys) hP k
    have h : ∀ j, j ≤ P → gapN xs ys (k * P + j) = gapC W (pxc W P xs) (pxc W P ys) k + cgN (pxc W P xs (k % W) (k / W)) (pxc W P ys (k % W) (k / W)) j := by
      intro j
      induction j with
      | zero => intro _; simp [cgN, ih]
      | succ j ihj =>
        intro hj
        show gapN xs ys (k * P + j) + sq (xs.getD (k * P + j) 0) (ys.getD (k * P + j) 0) = _ + (cgN _ _ j + sq (pxc W P xs (k % W) (k / W) j) (pxc W P ys (k % W) (k / W) j))
        rw [ihj (by omega), pxc_at (by omega), pxc_at (by omega)]; omega
    rw [Nat.succ_mul, h P (Nat.le_refl _)]
    show _ = gapC W (pxc W P xs) (pxc W P ys) k + cgN _ _ 4
    rw [cgN_cut hP (fun j hj => by rw [pxc_out hj, pxc_out hj])]
theorem gap_img {W H P : Nat} {xs ys : List Int} (hP : P ≤ 4) : gapC W (pxc W P xs) (pxc W P ys) (W * H) = gapN xs ys (W * H * P) := (gap_rows hP _).symm
theorem gapN_comm (xs ys : List Int) : ∀ k, gapN xs ys k = gapN ys xs k
  | 0 => rfl
  | k + 1 => by
    show gapN xs ys k + sq _ _ = gapN ys xs k + sq _ _
    rw [gapN_comm xs ys k, sq_comm]
theorem gapN_self (xs : List Int) : ∀ k, gapN xs xs k = 0
  | 0 => rfl
  | k + 1 => by
    show gapN xs xs k + sq _ _ = 0
    rw [gapN_self xs k, sq_self]; rfl
theorem gapN_mono (xs ys : List Int) : ∀ k, 0 ≤ gapN xs ys k
  | 0 => Int.le_refl _
  | k + 1 => by
    show 0 ≤ gapN xs ys k + sq _ _
    have := gapN_mono xs ys k
    have := sq_nonneg (xs.getD k 0) (ys.getD k 0)
    omega
theorem gapN_zero {xs ys : List Int} : ∀ {k : Nat}, gapN xs ys k = 0 → ∀ j, j < k → xs.getD j 0 = ys.getD j 0
  | 0, _ => fun j hj => by omega
  | k + 1, h => fun j hj => by
    have h' : gapN xs ys k + sq (xs.getD k 0) (ys.getD k 0) = 0 := h
    have h1 := gapN_mono xs ys k
    have h2 := sq_nonneg (xs.getD k 0) (ys.getD k 0)
    by_cases e : j = k
    · subst e; exact sq_zero (by omega)
    · exact gapN_zero (k := k) (by omega) j (by omega)
theorem gapN_congr {xs ys xs' ys' : List Int} : ∀ (k : Nat), (∀ j, j < k → sq (xs.getD j 0) (ys.getD j 0) = sq (xs'.getD j 0) (ys'.getD j 0)) → gapN xs ys k = gapN xs' ys' k
  | 0, _ => rfl
  | k + 1, h => by
    show gapN xs ys k + sq _ _ = gapN xs' ys' k + sq _ _
    rw [gapN_congr k (fun j hj => h j (by omega)), h k (by omega)]
end Go.Proofs.Ytjcohmljpokgcaa
