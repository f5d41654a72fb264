/- Plain mathematics of the runs of a grid. -/
import Derived.Test.YtbjgjjhfnaiocaaDoorHas
namespace Go.Proofs.YtbjgjjhfnaiocaaDoor
set_option linter.unusedSimpArgs false
set_option linter.unusedVariables false
set_option maxRecDepth 20000

/-- A row of a grid up to column k: the runs that have ended, and where an open one begins (-1: none is open). -/
def rowS (G : Nat → Bool) (y : Int) : Nat → List Int × Int
  | 0 => ([], -1)
  | k + 1 => if G k = true then ((rowS G y k).1, if (rowS G y k).2 < 0 then (k : Int) else (rowS G y k).2)
      else if (rowS G y k).2 < 0 then ((rowS G y k).1, -1) else ((rowS G y k).1 ++ [y, (rowS G y k).2, (k : Int)], -1)
/-- .. and with the open one. -/
def rowF (G : Nat → Bool) (y : Int) (k : Nat) : List Int := if (rowS G y k).2 < 0 then (rowS G y k).1 else (rowS G y k).1 ++ [y, (rowS G y k).2, (k : Int)]
def rowG (G : Nat → Nat → Bool) (y : Nat) : Nat → Bool := fun x => decide (x < 16) && G x y
/-- The runs of the first k rows. -/
def rnk (G : Nat → Nat → Bool) : Nat → List Int
  | 0 => []
  | y + 1 => rnk G y ++ (rowS (rowG G y) y 17).1
def rnL (G : Nat → Nat → Bool) : List Int := rnk G 16
theorem rowS_on {G : Nat → Bool} {y : Int} {k : Nat} (h : G k = true) : rowS G y (k + 1) = ((rowS G y k).1, if (rowS G y k).2 < 0 then (k : Int) else (rowS G y k).2) := by
  show (if G k = true then _ else _) = _
  rw [if_pos h]
theorem rowS_off {G : Nat → Bool} {y : Int} {k : Nat} (h : G k = false) : rowS G y (k + 1) = (rowF G y k, -1) := by
  show (if G k = true then _ else _) = _
  rw [if_neg (by simp [h])]
  unfold rowF
  split <;> rfl
theorem rowF_off {G : Nat → Bool} {y : Int} {k : Nat} (h : G k = false) : rowF G y (k + 1) = rowF G y k := by
  conv => lhs; unfold rowF
  rw [rowS_off h]; rfl
theorem rowF_on_new {G : Nat → Bool} {y : Int} {k : Nat} (h : G k = true) (h0 : (rowS G y k).2 < 0) : rowF G y (k + 1) = rowF G y k ++ [y, (k : Int), ((k + 1 : Nat) : Int)] := by
  unfold rowF
  rw [rowS_on h]
  simp only [if_pos h0]
  rw [if_neg (by omega)]
theorem rowF_on_old {G : Nat → Bool} {y : Int} {k : Nat} (h : G k = true) (h0 : ¬ (rowS G y k).2 < 0) :
    rowF G y k = (rowS G y k).1 ++ [y, (rowS G y k).2, (k : Int)] ∧ rowF G y (k + 1) = (rowS G y k).1 ++ [y, (rowS G y k).2, ((k + 1 : Nat) : Int)] := by
  refine ⟨by unfold rowF; rw [if_neg h0], ?_⟩
  unfold rowF
  rw [rowS_on h]
  simp only [if_neg h0]
theorem rowF_zero (G : Nat → Bool) (y : Int) : rowF G y 0 = [] := rfl
/-- Behind the last pixel of a row nothing changes. -/
theorem rowF_stay {G : Nat → Bool} {y : Int} {W : Nat} (h : ∀ x, W ≤ x → G x = false) : ∀ j, rowF G y (W + j) = rowF G y W
  | 0 => rfl
  | j + 1 => by rw [← Nat.add_assoc, rowF_off (h _ (by omega)), rowF_stay h j]
theorem rowS_end {G : Nat → Bool} {y : Int} {W k : Nat} (h : ∀ x, W ≤ x → G x = false) (hk : W < k) : (rowS G y k).1 = rowF G y W := by
  obtain ⟨j, rfl⟩ : ∃ j, k = W + j + 1 := ⟨k - W - 1, by omega⟩
  rw [rowS_off (h _ (by omega))]
  exact rowF_stay h j
theorem rowS_from {G : Nat → Bool} {y : Int} : ∀ k, (rowS G y k).2 < 0 ∨ (rowS G y k).2 < k
  | 0 => .inl (by show (-1 : Int) < 0; omega)
  | k + 1 => by
    cases h : G k
    · rw [rowS_off h]; left; show (-1 : Int) < 0; omega
    · rw [rowS_on h]
      simp only
      rcases rowS_from (G := G) (y := y) k with h2 | h2
      · rw [if_pos h2]; right; omega
      · split
        · right; omega
        · right; omega
theorem rowS_neg {G : Nat → Bool} {y : Int} : ∀ k, (rowS G y k).2 < 0 → (rowS G y k).2 = -1
  | 0, _ => rfl
  | k + 1, h => by
    cases hg : G k
    · rw [rowS_off hg]
    · rw [rowS_on hg] at h
      simp only at h
      split at h <;> omega
/-- The last run of a list ends before column k of row y. -/
def LastB (l : List Int) (y k : Int) : Prop := l = [] ∨ ∃ l' a b c, l = l' ++ [a, b, c] ∧ (a < y ∨ (a = y ∧ c < k))
theorem LastB.more {l : List Int} {y k k' : Int} (h : LastB l y k) (hk : k ≤ k') : LastB l y k' := by
  rcases h with rfl | ⟨l', a, b, c, rfl, h⟩
  · exact .inl rfl
  · exact .inr ⟨l', a, b, c, rfl, by omega⟩
theorem LastB.row {l : List Int} {y k k' : Int} (h : LastB l y k) : LastB l (y + 1) k' := by
  rcases h with rfl | ⟨l', a, b, c, rfl, h⟩
  · exact .inl rfl
  · exact .inr ⟨l', a, b, c, rfl, by omega⟩
theorem rowS_last {G : Nat → Bool} {y : Int} {L : List Int} (h : LastB L y 0) : ∀ k, LastB (L ++ (rowS G y k).1) y k
  | 0 => by simpa [rowS] using h
  | k + 1 => by
    have ih := rowS_last (G := G) h k
    cases hg : G k
    · rw [rowS_off hg]
      show LastB (L ++ rowF G y k) y _
      unfold rowF
      split
      · exact ih.more (by omega)
      · exact .inr ⟨L ++ (rowS G y k).1, y, (rowS G y k).2, k, by rw [List.append_assoc], .inr ⟨rfl, by omega⟩⟩
    · rw [rowS_on hg]
      exact ih.more (by omega)
theorem rnk_last (G : Nat → Nat → Bool) : ∀ y : Nat, LastB (rnk G y) y 0
  | 0 => .inl rfl
  | y + 1 => by
    have := rowS_last (G := rowG G y) (rnk_last G y) 17
    have := this.row (k' := 0)
    show LastB (rnk G y ++ _) _ _
    rw [show ((y + 1 : Nat) : Int) = (y : Int) + 1 by omega]
    exact this
/-- When no run is open, the last one does not touch column k of row y. -/
theorem open_no {G : Nat → Nat → Bool} {y k : Nat} (h0 : (rowS (rowG G y) y k).2 < 0) : LastB (rnk G y ++ rowF (rowG G y) y k) y k := by
  unfold rowF
  rw [if_pos h0]
  exact rowS_last (rnk_last G y) k
theorem rnk_row {G : Nat → Nat → Bool} {y W : Nat} (hW : W ≤ 16) (h : ∀ x, W ≤ x → G x y = false) : rnk G (y + 1) = rnk G y ++ rowF (rowG G y) y W := by
  show rnk G y ++ _ = _
  rw [rowS_end (W := W) (fun x hx => by unfold rowG; rw [h x hx, Bool.and_false]) (by omega)]
theorem rnk_rest {G : Nat → Nat → Bool} {H : Nat} (h : ∀ x y, H ≤ y → G x y = false) : ∀ j, rnk G (H + j) = rnk G H
  | 0 => rfl
  | j + 1 => by
    rw [← Nat.add_assoc, rnk_row (W := 0) (by omega) (fun x _ => h x _ (by omega)), rowF_zero, List.append_nil, rnk_rest h j]
theorem rnL_of {G : Nat → Nat → Bool} {H : Nat} (hH : H ≤ 16) (h : ∀ x y, H ≤ y → G x y = false) : rnL G = rnk G H := by
  unfold rnL
  have := rnk_rest h (16 - H)
  rwa [show H + (16 - H) = 16 by omega] at this
theorem rowS_len {G : Nat → Bool} {y : Int} : ∀ k, ∃ n, (rowS G y k).1.length = 3 * n ∧ n ≤ k ∧ (0 ≤ (rowS G y k).2 → n + 1 ≤ k)
  | 0 => ⟨0, rfl, Nat.le_refl _, fun h => by simp [rowS] at h⟩
  | k + 1 => by
    obtain ⟨n, h1, h2, h3⟩ := rowS_len (G := G) (y := y) k
    cases hg : G k
    · rw [rowS_off hg]
      unfold rowF
      by_cases h0 : (rowS G y k).2 < 0
      · exact ⟨n, by simp only [if_pos h0]; exact h1, by omega, fun h => by simp at h⟩
      · have := h3 (by omega)
        exact ⟨n + 1, by simp only [if_neg h0, List.length_append, h1]; simp; omega, by omega, fun h => by simp at h⟩
    · rw [rowS_on hg]
      exact ⟨n, h1, by omega, fun _ => by omega⟩
theorem rowF_len {G : Nat → Bool} {y : Int} (k : Nat) : ∃ n, (rowF G y k).length = 3 * n ∧ n ≤ k := by
  obtain ⟨n, h1, h2, h3⟩ := rowS_len (G := G) (y := y) k
  unfold rowF
  by_cases h0 : (rowS G y k).2 < 0
  · exact ⟨n, by rw [if_pos h0]; exact h1, h2⟩
  · have := h3 (by omega)
    exact ⟨n + 1, by rw [if_neg h0, List.length_append, h1]; simp; omega, by omega⟩
theorem rnk_len (G : Nat → Nat → Bool) : ∀ y, ∃ n, (rnk G y).length = 3 * n ∧ n ≤ y * 17
  | 0 => ⟨0, rfl, Nat.le_refl _⟩
  | y + 1 => by
    obtain ⟨n, h1, h2⟩ := rnk_len G y
    obtain ⟨m, h3, h4, _⟩ := rowS_len (G := rowG G y) (y := y) 17
    exact ⟨n + m, by show (rnk G y ++ _).length = _; rw [List.length_append, h1, h3]; omega, by omega⟩
/-- How many runs a grid has. -/
def rnN (G : Nat → Nat → Bool) : Nat := (rnL G).length / 3
theorem rnL_len (G : Nat → Nat → Bool) : (rnL G).length = 3 * rnN G ∧ rnN G ≤ 272 := by
  obtain ⟨n, h1, h2⟩ := rnk_len G 16
  have : rnN G = n := by unfold rnN rnL; rw [h1]; omega
  exact ⟨by rw [this]; exact h1, by omega⟩
theorem rowS_congr {G G' : Nat → Bool} {y : Int} : ∀ k, (∀ x, x < k → G x = G' x) → rowS G y k = rowS G' y k
  | 0, _ => rfl
  | k + 1, h => by
    have ih := rowS_congr (y := y) k (fun x hx => h x (by omega))
    cases hg : G k
    · rw [rowS_off hg, rowS_off (by rw [← h k (by omega)]; exact hg)]; unfold rowF; rw [ih]
    · rw [rowS_on hg, rowS_on (by rw [← h k (by omega)]; exact hg), ih]
theorem rnk_congr {G G' : Nat → Nat → Bool} : ∀ k, k ≤ 16 → (∀ x y, x < 16 → y < 16 → G x y = G' x y) → rnk G k = rnk G' k
  | 0, _, _ => rfl
  | k + 1, hk, h => by
    show rnk G k ++ _ = rnk G' k ++ _
    rw [rnk_congr k (by omega) h, rowS_congr 17 (fun x hx => ?_)]
    unfold rowG
    by_cases h16 : x < 16
    · rw [h x k h16 (by omega)]
    · rw [decide_eq_false h16]; rfl
theorem rnL_congr {G G' : Nat → Nat → Bool} (h : ∀ x y, x < 16 → y < 16 → G x y = G' x y) : rnL G = rnL G' := rnk_congr 16 (Nat.le_refl _) h
theorem gY_app {L M : List Int} {j : Nat} (h : j * 3 + 2 < L.length) : gY (L ++ M) j = gY L j ∧ gF (L ++ M) j = gF L j ∧ gT (L ++ M) j = gT L j := by
  unfold gY gF gT
  simp only [List.getD_eq_getElem?_getD]
  rw [List.getElem?_append_left (by omega), List.getElem?_append_left (by omega), List.getElem?_append_left (by omega)]
  exact ⟨rfl, rfl, rfl⟩
theorem gY_new {L : List Int} {n : Nat} (hl : L.length = 3 * n) (a b c : Int) : gY (L ++ [a, b, c]) n = a ∧ gF (L ++ [a, b, c]) n = b ∧ gT (L ++ [a, b, c]) n = c := by
  unfold gY gF gT
  simp only [List.getD_eq_getElem?_getD]
  rw [List.getElem?_append_right (by omega), List.getElem?_append_right (by omega), List.getElem?_append_right (by omega)]
  rw [show n * 3 - L.length = 0 by omega, show n * 3 + 1 - L.length = 1 by omega, show n * 3 + 2 - L.length = 2 by omega]
  exact ⟨rfl, rfl, rfl⟩
theorem regA_app {L M : List Int} {n j : Nat} (hl : L.length = 3 * n) (hj : j < n) : regA (L ++ M) j = regA L j := by
  obtain ⟨h1, h2, h3⟩ := gY_app (L := L) (M := M) (j := j) (by omega)
  unfold regA
  rw [h1, h2, h3]
  by_cases h0 : j = 0
  · subst h0; simp
  · obtain ⟨g1, g2, g3⟩ := gY_app (L := L) (M := M) (j := j - 1) (by omega)
    rw [g1, g3]
theorem reg_app {L M : List Int} {n : Nat} (hl : L.length = 3 * n) : reg (L ++ M) n ↔ reg L n := by
  constructor
  · intro h j hj; rw [← regA_app (M := M) hl hj]; exact h j hj
  · intro h j hj; rw [regA_app hl hj]; exact h j hj
theorem rh_app {L M : List Int} {n : Nat} (hl : L.length = 3 * n) (x y : Int) : ∀ k, k ≤ n → rh (L ++ M) x y k = rh L x y k
  | 0, _ => rfl
  | k + 1, hk => by
    obtain ⟨h1, h2, h3⟩ := gY_app (L := L) (M := M) (j := k) (by omega)
    unfold rh
    rw [rh_app hl x y k (by omega), h1, h2, h3]
theorem rh_snoc {L : List Int} {n : Nat} (hl : L.length = 3 * n) (a b c x y : Int) : rh (L ++ [a, b, c]) x y (n + 1) = (rh L x y n || runB a b c x y) := by
  obtain ⟨h1, h2, h3⟩ := gY_new hl a b c
  show (rh (L ++ [a, b, c]) x y n || _) = _
  rw [rh_app hl x y n (Nat.le_refl _), h1, h2, h3]
/-- The last run of a list, by its numbers. -/
theorem LastB.get {L : List Int} {n : Nat} (hl : L.length = 3 * n) {y k : Int} (h : LastB L y k) (hn : 0 < n) : gY L (n - 1) < y ∨ (gY L (n - 1) = y ∧ gT L (n - 1) < k) := by
  rcases h with rfl | ⟨l', a, b, c, rfl, h⟩
  · simp at hl; omega
  · obtain ⟨m, rfl⟩ : ∃ m, n = m + 1 := ⟨n - 1, by omega⟩
    have hl' : l'.length = 3 * m := by simp at hl; omega
    obtain ⟨h1, h2, h3⟩ := gY_new hl' a b c
    rw [Nat.add_sub_cancel, h1, h3]; exact h
theorem reg_snocL {L : List Int} {n : Nat} (hl : L.length = 3 * n) (h : reg L n) {y f t : Int} (hb : LastB L y f) (hv : vrunB y f t = true) : reg (L ++ [y, f, t]) (n + 1) := by
  refine reg_snoc ((reg_app hl).2 h) (regA_yes ?_ (fun h0 => ?_))
  · obtain ⟨h1, h2, h3⟩ := gY_new hl y f t
    rw [h1, h2, h3]; exact hv
  · obtain ⟨h1, h2, h3⟩ := gY_new hl y f t
    obtain ⟨g1, g2, g3⟩ := gY_app (L := L) (M := [y, f, t]) (j := n - 1) (by omega)
    rw [h1, h2, g1, g3]
    exact decide_eq_true (hb.get hl h0)
theorem vrunB_yes {y f t : Int} (h : 0 ≤ y ∧ y ≤ 15) (h2 : 0 ≤ f ∧ f ≤ 15) (h3 : f + 1 ≤ t ∧ t ≤ 16) : vrunB y f t = true := by
  simp only [vrunB, Bool.and_eq_true, decide_eq_true_eq]; exact ⟨h, h2, h3⟩
/-- What a row's scan keeps: the closed runs are a region, and what they have. -/
theorem rowS_inv {G : Nat → Bool} {Y : Nat} (hY : Y ≤ 15) (hG : ∀ x, 16 ≤ x → G x = false) {L : List Int} {n : Nat} (hl : L.length = 3 * n) (h : reg L n) (hb : LastB L (Y : Int) 0) :
    ∀ k, ∃ m, (L ++ (rowS G Y k).1).length = 3 * m ∧ reg (L ++ (rowS G Y k).1) m ∧
      ((rowS G Y k).2 < 0 ∨ ((rowS G Y k).2 ≤ 15 ∧ (rowS G Y k).2 < k ∧ k ≤ 16 ∧ LastB (L ++ (rowS G Y k).1) Y (rowS G Y k).2 ∧ ∀ z : Nat, (rowS G Y k).2 ≤ z → z < k → G z = true)) ∧
      ∀ x y : Nat, rh (L ++ (rowS G Y k).1) x y m = (rh L x y n || (decide (y = Y) && (decide ((x : Int) < (if (rowS G Y k).2 < 0 then (k : Int) else (rowS G Y k).2)) && G x)))
  | 0 => ⟨n, by simpa [rowS] using hl, by simpa [rowS] using h, .inl (by show (-1 : Int) < 0; omega), fun x y => by
      simp [rowS]; intro _ h; omega⟩
  | k + 1 => by
    obtain ⟨m, h1, h2, h3, h4⟩ := rowS_inv hY hG hl h hb k
    have hlast := rowS_last (G := G) hb k
    cases hg : G k
    · rw [rowS_off hg]
      unfold rowF
      by_cases h0 : (rowS G Y k).2 < 0
      · refine ⟨m, by simp only [if_pos h0]; exact h1, by simp only [if_pos h0]; exact h2, .inl (by show (-1 : Int) < 0; omega), fun x y => ?_⟩
        simp only [if_pos h0]
        rw [h4 x y, if_pos h0]
        simp only [show ((-1 : Int) < 0) = True from by simp, if_true]
        congr 2
        by_cases hx : x = k
        · subst hx; simp [hg]
        · congr 1
          exact decide_eq_decide.2 (by omega)
      · rcases h3 with h3 | ⟨h3, h3b, h3c, h3d, h3e⟩
        · exact absurd h3 h0
        refine ⟨m + 1, by simp only [if_neg h0]; rw [← List.append_assoc, List.length_append, h1]; simp; omega, ?_, .inl (by show (-1 : Int) < 0; omega), fun x y => ?_⟩
        · simp only [if_neg h0]
          rw [← List.append_assoc]
          exact reg_snocL h1 h2 h3d (vrunB_yes (by omega) (by omega) (by omega))
        · simp only [if_neg h0]
          rw [← List.append_assoc, rh_snoc h1, h4 x y, if_neg h0]
          simp only [show ((-1 : Int) < 0) = True from by simp, if_true]
          rw [Bool.or_assoc]
          congr 1
          unfold runB
          by_cases hy : y = Y
          · subst hy
            rw [show decide (y = y) = true from decide_eq_true rfl, show decide ((y : Int) = (y : Int)) = true from decide_eq_true rfl]
            by_cases hx : (x : Int) < (rowS G y k).2
            · rw [decide_eq_true hx, decide_eq_true (show (x : Int) < ((k + 1 : Nat) : Int) by omega), decide_eq_false (show ¬ ((rowS G y k).2 ≤ (x : Int) ∧ (x : Int) ≤ (k : Int) - 1) by omega)]
              simp
            · by_cases hx2 : (x : Int) < k
              · rw [h3e x (by omega) (by omega), decide_eq_false hx, decide_eq_true (show (x : Int) < ((k + 1 : Nat) : Int) by omega), decide_eq_true (show ((rowS G y k).2 ≤ (x : Int) ∧ (x : Int) ≤ (k : Int) - 1) by omega)]
                simp
              · rw [decide_eq_false hx, decide_eq_false (show ¬ ((rowS G y k).2 ≤ (x : Int) ∧ (x : Int) ≤ (k : Int) - 1) by omega)]
                by_cases hx3 : x = k
                · rw [hx3, hg]; simp
                · rw [decide_eq_false (show ¬ (x : Int) < ((k + 1 : Nat) : Int) by omega)]; simp
          · simp [hy, show ¬ (y : Int) = (Y : Int) by omega]
    · rw [rowS_on hg]
      simp only
      have hk16 : k < 16 := by
        rcases Nat.lt_or_ge k 16 with h | h
        · exact h
        · rw [hG k h] at hg; cases hg
      refine ⟨m, h1, h2, ?_, fun x y => ?_⟩
      · by_cases h0 : (rowS G Y k).2 < 0
        · simp only [if_pos h0]
          exact .inr ⟨by omega, by omega, by omega, hlast, fun z hz hz2 => by rw [show z = k by omega]; exact hg⟩
        · simp only [if_neg h0]
          rcases h3 with h3 | ⟨h3, h3b, h3c, h3d, h3e⟩
          · exact absurd h3 h0
          exact .inr ⟨h3, by omega, by omega, h3d, fun z hz hz2 => by
            by_cases e : z = k
            · rw [e]; exact hg
            · exact h3e z hz (by omega)⟩
      · rw [h4 x y]
        congr 2
        by_cases h0 : (rowS G Y k).2 < 0
        · simp only [if_pos h0]
          rw [if_neg (show ¬ (k : Int) < 0 by omega)]
        · simp only [if_neg h0]
theorem rnk_reg {G : Nat → Nat → Bool} : ∀ k, k ≤ 16 → ∃ m, (rnk G k).length = 3 * m ∧ reg (rnk G k) m ∧ ∀ x y : Nat, rh (rnk G k) x y m = (decide (y < k) && (decide (x < 16) && G x y))
  | 0, _ => ⟨0, rfl, fun j hj => by omega, fun x y => by simp [rh]⟩
  | k + 1, hk => by
    obtain ⟨n, h1, h2, h3⟩ := rnk_reg (G := G) k (by omega)
    obtain ⟨m, g1, g2, g3, g4⟩ := rowS_inv (G := rowG G k) (Y := k) (by omega) (fun x hx => by unfold rowG; rw [decide_eq_false (by omega)]; rfl) h1 h2 (rnk_last G k) 17
    refine ⟨m, g1, g2, fun x y => ?_⟩
    show rh (rnk G k ++ (rowS (rowG G k) k 17).1) x y m = _
    rw [g4 x y, h3 x y]
    have e : (rowS (rowG G k) (k : Int) 17).2 < 0 := by
      rcases g3 with h | h
      · exact h
      · omega
    rw [if_pos e]
    unfold rowG
    by_cases hy : y = k
    · subst hy
      by_cases hx : x < 16
      · simp [hx, show (x : Int) < (17 : Nat) by omega, show (x : Int) < 17 by omega]
      · simp [hx]
    · by_cases hy2 : y < k
      · simp [hy, hy2, show y < k + 1 by omega]
      · simp [hy, hy2, show ¬ y < k + 1 by omega]
theorem rnL_reg (G : Nat → Nat → Bool) : reg (rnL G) (rnN G) := by
  obtain ⟨m, h1, h2, h3⟩ := rnk_reg (G := G) 16 (Nat.le_refl _)
  have := (rnL_len G).1
  have e : m = rnN G := by unfold rnL at this; omega
  rw [← e]; exact h2
theorem rnL_has (G : Nat → Nat → Bool) {x y : Nat} (hx : x < 16) (hy : y < 16) : rh (rnL G) x y (rnN G) = G x y := by
  obtain ⟨m, h1, h2, h3⟩ := rnk_reg (G := G) 16 (Nat.le_refl _)
  have := (rnL_len G).1
  have e : m = rnN G := by unfold rnL at this; omega
  rw [← e]
  have := h3 x y
  rw [decide_eq_true hy, decide_eq_true hx] at this
  exact this.trans (by simp)

/-- Pixels of the first k runs lie before the end of the last of them. -/
theorem bef {xs : List Int} {n : Nat} (h : reg xs n) {x y : Int} : ∀ k, k + 1 ≤ n → rh xs x y (k + 1) = true → y < gY xs k ∨ (y = gY xs k ∧ x < gT xs k)
  | 0, hk, hr => by
    unfold rh rh at hr
    simp only [Bool.false_or, runB, Bool.and_eq_true, decide_eq_true_eq] at hr
    omega
  | k + 1, hk, hr => by
    unfold rh at hr
    rw [Bool.or_eq_true] at hr
    rcases hr with hr | hr
    · have ih := bef h k (by omega) hr
      have hf := (regAt_parts (h (k + 1) (by omega))).2 (by omega)
      have hv := bnds h (show k + 1 < n by omega)
      have := of_decide_eq_true hf
      rw [Nat.add_sub_cancel] at this
      omega
    · simp only [runB, Bool.and_eq_true, decide_eq_true_eq] at hr
      omega
/-- .. and so before the next run, with a pixel between. -/
theorem bef2 {xs : List Int} {n : Nat} (h : reg xs n) {x y : Int} : ∀ k, k < n → rh xs x y k = true → y < gY xs k ∨ (y = gY xs k ∧ x + 1 < gF xs k)
  | 0, _, hr => by cases hr
  | k + 1, hk, hr => by
    have := bef h k (by omega) hr
    have hf := of_decide_eq_true ((regAt_parts (h (k + 1) hk)).2 (by omega))
    rw [Nat.add_sub_cancel] at hf
    omega
theorem rh_new {xs : List Int} {k : Nat} {x y : Int} (hy : y = gY xs k) (hx : gF xs k ≤ x ∧ x < gT xs k) : rh xs x y (k + 1) = true := by
  unfold rh runB
  rw [decide_eq_true hy, decide_eq_true (show gF xs k ≤ x ∧ x ≤ gT xs k - 1 by omega)]; simp
theorem rh_old {xs : List Int} {k : Nat} {x y : Int} (h : rh xs x y (k + 1) = true) (hn : ¬ (y = gY xs k ∧ gF xs k ≤ x ∧ x < gT xs k)) : rh xs x y k = true := by
  unfold rh at h
  rw [Bool.or_eq_true] at h
  rcases h with h | h
  · exact h
  · simp only [runB, Bool.and_eq_true, decide_eq_true_eq] at h
    exact absurd (by omega) hn
theorem rh_up {xs : List Int} {k : Nat} {x y : Int} (h : rh xs x y k = true) : rh xs x y (k + 1) = true := by unfold rh; rw [h, Bool.true_or]
theorem canon_last {xs ys : List Int} {n m : Nat} (hx : reg xs (n + 1)) (hy : reg ys (m + 1)) (h : ∀ x y : Int, 0 ≤ x → x < 16 → 0 ≤ y → y < 16 → rh xs x y (n + 1) = true → rh ys x y (m + 1) = true) :
    gY xs n < gY ys m ∨ (gY xs n = gY ys m ∧ gT xs n ≤ gT ys m) := by
  obtain ⟨⟨a0, a1⟩, ⟨b0, b1⟩, c0, c1⟩ := bnds hx (show n < n + 1 by omega)
  have := bef hy m (Nat.le_refl _) (h (gT xs n - 1) (gY xs n) (by omega) (by omega) (by omega) (by omega) (rh_new rfl (by omega)))
  omega
theorem canon_from {xs ys : List Int} {n m : Nat} (hx : reg xs (n + 1)) (hy : reg ys (m + 1)) (h : ∀ x y : Int, 0 ≤ x → x < 16 → 0 ≤ y → y < 16 → rh ys x y (m + 1) = true → rh xs x y (n + 1) = true)
    (e1 : gY xs n = gY ys m) (e2 : gT xs n = gT ys m) : gF xs n ≤ gF ys m := by
  obtain ⟨⟨a0, a1⟩, ⟨b0, b1⟩, c0, c1⟩ := bnds hx (show n < n + 1 by omega)
  obtain ⟨⟨a0', a1'⟩, ⟨b0', b1'⟩, c0', c1'⟩ := bnds hy (show m < m + 1 by omega)
  rcases Int.lt_or_le (gF ys m) (gF xs n) with hlt | hge
  · have h1 := h (gF xs n - 1) (gY ys m) (by omega) (by omega) (by omega) (by omega) (rh_new rfl (by omega))
    have h2 := rh_old h1 (by omega)
    have := bef2 hx n (by omega) h2
    omega
  · exact hge
theorem canon {xs ys : List Int} : ∀ (n m : Nat), reg xs n → reg ys m → (∀ x y : Int, 0 ≤ x → x < 16 → 0 ≤ y → y < 16 → rh xs x y n = rh ys x y m) → n = m ∧ ∀ j, j < n → gY xs j = gY ys j ∧ gF xs j = gF ys j ∧ gT xs j = gT ys j
  | 0, 0, _, _, _ => ⟨rfl, fun j hj => by omega⟩
  | 0, m + 1, _, hy, h => by
    obtain ⟨⟨a0, a1⟩, ⟨b0, b1⟩, c0, c1⟩ := bnds hy (show m < m + 1 by omega)
    have h1 := h (gF ys m) (gY ys m) b0 (by omega) a0 (by omega)
    rw [rh_new rfl (by omega)] at h1
    cases h1
  | n + 1, 0, hx, _, h => by
    obtain ⟨⟨a0, a1⟩, ⟨b0, b1⟩, c0, c1⟩ := bnds hx (show n < n + 1 by omega)
    have h1 := h (gF xs n) (gY xs n) b0 (by omega) a0 (by omega)
    rw [rh_new rfl (by omega)] at h1
    cases h1
  | n + 1, m + 1, hx, hy, h => by
    have u1 := canon_last hx hy (fun x y p q r s t => by rw [← h x y p q r s]; exact t)
    have u2 := canon_last hy hx (fun x y p q r s t => by rw [h x y p q r s]; exact t)
    have e1 : gY xs n = gY ys m := by omega
    have e2 : gT xs n = gT ys m := by omega
    have v1 := canon_from hx hy (fun x y p q r s t => by rw [h x y p q r s]; exact t) e1 e2
    have v2 := canon_from hy hx (fun x y p q r s t => by rw [← h x y p q r s]; exact t) e1.symm e2.symm
    have e3 : gF xs n = gF ys m := by omega
    have ih := canon n m (fun j hj => hx j (by omega)) (fun j hj => hy j (by omega)) (fun x y p q r s => by
      have hh := h x y p q r s
      rcases Bool.eq_false_or_eq_true (rh xs x y n) with h1 | h1
      · have k1 := rh_up h1
        rw [hh] at k1
        have k2 := bef2 hx n (by omega) h1
        rw [h1, rh_old k1 (by omega)]
      · rcases Bool.eq_false_or_eq_true (rh ys x y m) with h2 | h2
        · have k1 := rh_up h2
          rw [← hh] at k1
          have k2 := bef2 hy m (by omega) h2
          rw [rh_old k1 (by omega)] at h1
          cases h1
        · rw [h1, h2])
    refine ⟨by omega, fun j hj => ?_⟩
    by_cases e : j = n
    · subst e
      obtain rfl : j = m := ih.1
      exact ⟨e1, e3, e2⟩
    · exact ih.2 j (by omega)
theorem canon_eq {xs ys : List Int} {n m : Nat} (hlx : xs.length = 3 * n) (hly : ys.length = 3 * m) (hx : reg xs n) (hy : reg ys m) (h : ∀ x y : Int, 0 ≤ x → x < 16 → 0 ≤ y → y < 16 → rh xs x y n = rh ys x y m) : n = m ∧ xs = ys := by
  obtain ⟨rfl, h2⟩ := canon n m hx hy h
  refine ⟨rfl, List.ext_getElem (by omega) fun i h1 h1' => ?_⟩
  obtain ⟨e1, e2, e3⟩ := h2 (i / 3) (by omega)
  unfold gY at e1; unfold gF at e2; unfold gT at e3
  have hm : i % 3 < 3 := Nat.mod_lt _ (by decide)
  have key : xs.getD i 0 = ys.getD i 0 := by
    have d := Nat.div_add_mod i 3
    rcases (show i % 3 = 0 ∨ i % 3 = 1 ∨ i % 3 = 2 by omega) with e | e | e
    · rw [show i = i / 3 * 3 by omega]; exact e1
    · rw [show i = i / 3 * 3 + 1 by omega]; exact e2
    · rw [show i = i / 3 * 3 + 2 by omega]; exact e3
  simpa [List.getD_eq_getElem?_getD, h1, h1'] using key
/-- A region is the runs of the pixels that it has. -/
theorem rnL_rh {xs : List Int} {n : Nat} (hl : xs.length = 3 * n) (h : reg xs n) : rnL (fun x y => rh xs x y n) = xs ∧ rnN (fun x y => rh xs x y n) = n := by
  have := canon_eq (rnL_len (fun x y => rh xs x y n)).1 hl (rnL_reg _) h (fun x y p q r s => by
    obtain ⟨X, rfl⟩ := Int.eq_ofNat_of_zero_le p
    obtain ⟨Y, rfl⟩ := Int.eq_ofNat_of_zero_le r
    exact rnL_has _ (by omega) (by omega))
  exact ⟨this.2, this.1⟩
/-- A list of runs that is a region with the pixels of a grid. -/
theorem rnL_uniq {xs : List Int} {n : Nat} {G : Nat → Nat → Bool} (hl : xs.length = 3 * n) (h : reg xs n) (hG : ∀ x y : Nat, x < 16 → y < 16 → rh xs x y n = G x y) : xs = rnL G ∧ n = rnN G := by
  obtain ⟨h1, h2⟩ := rnL_rh hl h
  have e : rnL (fun x y => rh xs x y n) = rnL G := rnL_congr hG
  refine ⟨by rw [← h1, e], ?_⟩
  rw [← h2]; unfold rnN; rw [e]
/-- What holds before place q. -/
def prv (C : Nat → Bool) : Nat → Bool
  | 0 => false
  | q + 1 => C q
/-- The places before p at which C changes. -/
def chgs (C : Nat → Bool) : Nat → List Int
  | 0 => []
  | q + 1 => chgs C q ++ (if C q = prv C q then [] else [(q : Int)])
theorem chgs_same {C : Nat → Bool} {q : Nat} (h : C q = prv C q) : chgs C (q + 1) = chgs C q := by
  show chgs C q ++ _ = _
  rw [if_pos h, List.append_nil]
theorem chgs_new {C : Nat → Bool} {q : Nat} (h : ¬ C q = prv C q) : chgs C (q + 1) = chgs C q ++ [(q : Int)] := by
  show chgs C q ++ _ = _
  rw [if_neg h]
theorem chgs_odd (C : Nat → Bool) : ∀ q, decide ((chgs C q).length % 2 = 1) = prv C q
  | 0 => rfl
  | q + 1 => by
    have ih := chgs_odd C q
    by_cases h : C q = prv C q
    · rw [chgs_same h, ih]; exact h.symm
    · rw [chgs_new h, List.length_append]
      show decide (((chgs C q).length + 1) % 2 = 1) = C q
      cases hp : prv C q
      · rw [hp] at ih h
        have := of_decide_eq_false ih
        have hC : C q = true := by cases hc : C q <;> simp_all
        rw [hC]; exact decide_eq_true (by omega)
      · rw [hp] at ih h
        have := of_decide_eq_true ih
        have hC : C q = false := by cases hc : C q <;> simp_all
        rw [hC]; exact decide_eq_false (by omega)
theorem chgs_len (C : Nat → Bool) : ∀ q, (chgs C q).length ≤ q
  | 0 => Nat.le_refl _
  | q + 1 => by
    have := chgs_len C q
    by_cases h : C q = prv C q
    · rw [chgs_same h]; omega
    · rw [chgs_new h, List.length_append]; simp; omega
theorem chgs_bd (C : Nat → Bool) : ∀ q, ∀ z ∈ chgs C q, 0 ≤ z ∧ z < q
  | 0, z, hz => by cases hz
  | q + 1, z, hz => by
    by_cases h : C q = prv C q
    · rw [chgs_same h] at hz
      have := chgs_bd C q z hz
      omega
    · rw [chgs_new h] at hz
      rcases List.mem_append.1 hz with hz | hz
      · have := chgs_bd C q z hz
        omega
      · have := List.mem_singleton.1 hz
        omega
/-- The next change from place p on, or N. -/
def NextC (C : Nat → Bool) (N p : Nat) (m : Nat) : Prop := p ≤ m ∧ m ≤ N ∧ (∀ q, p ≤ q → q < m → C q = prv C q) ∧ (m < N → ¬ C m = prv C m)
theorem next_ex (C : Nat → Bool) (N : Nat) : ∀ d p, p + d = N → ∃ m, NextC C N p m
  | 0, p, h => ⟨N, by omega, Nat.le_refl _, fun q h1 h2 => by omega, fun h => by omega⟩
  | d + 1, p, h => by
    by_cases hc : C p = prv C p
    · obtain ⟨m, h1, h2, h3, h4⟩ := next_ex C N d (p + 1) (by omega)
      refine ⟨m, by omega, h2, fun q a b => ?_, h4⟩
      by_cases e : q = p
      · subst e; exact hc
      · exact h3 q (by omega) b
    · exact ⟨p, Nat.le_refl _, by omega, fun q a b => by omega, fun _ => hc⟩
theorem chgs_skip {C : Nat → Bool} {p : Nat} : ∀ d, (∀ q, p ≤ q → q < p + d → C q = prv C q) → chgs C (p + d) = chgs C p
  | 0, _ => rfl
  | d + 1, h => by
    rw [← Nat.add_assoc, chgs_same (h (p + d) (by omega) (by omega)), chgs_skip d (fun q a b => h q a (by omega))]
theorem chgs_to {C : Nat → Bool} {p m : Nat} (hpm : p ≤ m) (h : ∀ q, p ≤ q → q < m → C q = prv C q) : chgs C m = chgs C p := by
  obtain ⟨d, rfl⟩ : ∃ d, m = p + d := ⟨m - p, by omega⟩
  exact chgs_skip d h
theorem chgs_pre (C : Nat → Bool) (p : Nat) : ∀ d, ∃ L, chgs C (p + d) = chgs C p ++ L
  | 0 => ⟨[], by simp⟩
  | d + 1 => by
    obtain ⟨L, h⟩ := chgs_pre C p d
    exact ⟨L ++ (if C (p + d) = prv C (p + d) then [] else [((p + d : Nat) : Int)]), by rw [← List.append_assoc, ← h]; rfl⟩
/-- Behind the marks before p comes the next one. -/
theorem chgs_get {C : Nat → Bool} {N p m : Nat} (hp : p ≤ N) (h : NextC C N p m) :
    (m = N → (chgs C N).length = (chgs C p).length) ∧ (m < N → (chgs C p).length < (chgs C N).length ∧ (chgs C N).getD (chgs C p).length 0 = (m : Int)) := by
  obtain ⟨h1, h2, h3, h4⟩ := h
  have e := chgs_to h1 h3
  refine ⟨fun hm => by rw [← hm, e], fun hm => ?_⟩
  obtain ⟨L, hL⟩ := chgs_pre C (m + 1) (N - (m + 1))
  rw [show m + 1 + (N - (m + 1)) = N by omega, chgs_new (h4 hm), e] at hL
  rw [hL]
  refine ⟨by simp, ?_⟩
  rw [List.append_assoc, List.getD_eq_getElem?_getD, List.getElem?_append_right (Nat.le_refl _), Nat.sub_self]
  rfl
/-- One step of merging: the marks of two regions up to the next one of both. -/
theorem merge_step {A B C : Nat → Bool} {rule : Bool → Bool → Bool} (hC : ∀ q, C q = rule (A q) (B q)) (h0 : rule false false = false) {N p a b : Nat} (ha : NextC A N p a) (hb : NextC B N p b) (hlt : min a b < N) :
    chgs A (min a b + 1) = chgs A p ++ (if a ≤ b then [(a : Int)] else []) ∧ chgs B (min a b + 1) = chgs B p ++ (if b ≤ a then [(b : Int)] else []) ∧
      chgs C (min a b) = chgs C p ∧ prv C (min a b) = prv C p ∧ prv A (min a b + 1) = A (min a b) ∧ prv B (min a b + 1) = B (min a b) := by
  obtain ⟨a1, a2, a3, a4⟩ := ha
  obtain ⟨b1, b2, b3, b4⟩ := hb
  have hm : p ≤ min a b := by omega
  have cp : ∀ q, prv C q = rule (prv A q) (prv B q) := by
    intro q
    cases q with
    | zero => exact h0.symm
    | succ q => exact hC q
  have ch : ∀ q, p ≤ q → q < min a b → C q = prv C q := fun q h1 h2 => by rw [hC, cp, a3 q h1 (by omega), b3 q h1 (by omega)]
  have eA := chgs_to hm (fun q h1 h2 => a3 q h1 (by omega))
  have eB := chgs_to hm (fun q h1 h2 => b3 q h1 (by omega))
  refine ⟨?_, ?_, chgs_to hm ch, ?_, rfl, rfl⟩
  · by_cases h : a ≤ b
    · rw [if_pos h]
      have e : min a b = a := by omega
      rw [chgs_new (by rw [e]; exact a4 (by omega)), eA, e]
    · rw [if_neg h, List.append_nil]
      have e : min a b = b := by omega
      rw [chgs_same (by rw [e]; exact a3 b (by omega) (by omega)), eA]
  · by_cases h : b ≤ a
    · rw [if_pos h]
      have e : min a b = b := by omega
      rw [chgs_new (by rw [e]; exact b4 (by omega)), eB, e]
    · rw [if_neg h, List.append_nil]
      have e : min a b = a := by omega
      rw [chgs_same (by rw [e]; exact b3 a (by omega) (by omega)), eB]
  · rw [← chgs_odd, ← chgs_odd, chgs_to hm ch]
/-- .. and at the end nothing is left. -/
theorem merge_end {A B C : Nat → Bool} {rule : Bool → Bool → Bool} (hC : ∀ q, C q = rule (A q) (B q)) (h0 : rule false false = false) {N p : Nat} (hp : p ≤ N) (ha : NextC A N p N) (hb : NextC B N p N) : chgs C N = chgs C p := by
  have cp : ∀ q, prv C q = rule (prv A q) (prv B q) := by
    intro q
    cases q with
    | zero => exact h0.symm
    | succ q => exact hC q
  exact chgs_to hp (fun q h1 h2 => by rw [hC, cp, ha.2.2.1 q h1 h2, hb.2.2.1 q h1 h2])
/-- The grid as a line of places, one more than columns in each row. -/
def lin (G : Nat → Nat → Bool) (q : Nat) : Bool := decide (q % 17 < 16) && G (q % 17) (q / 17)
/-- The marks of the first n runs. -/
def mkL (xs : List Int) : Nat → List Int
  | 0 => []
  | k + 1 => mkL xs k ++ [gY xs k * 17 + gF xs k, gY xs k * 17 + gT xs k]
theorem mkL_len (xs : List Int) : ∀ k, (mkL xs k).length = 2 * k
  | 0 => rfl
  | k + 1 => by unfold mkL; rw [List.length_append, mkL_len xs k]; simp; omega
theorem mkL_app {L M : List Int} {n : Nat} (hl : L.length = 3 * n) : ∀ k, k ≤ n → mkL (L ++ M) k = mkL L k
  | 0, _ => rfl
  | k + 1, hk => by
    obtain ⟨h1, h2, h3⟩ := gY_app (L := L) (M := M) (j := k) (by omega)
    unfold mkL
    rw [mkL_app hl k (by omega), h1, h2, h3]
theorem mkL_snoc {L : List Int} {n : Nat} (hl : L.length = 3 * n) (a b c : Int) : mkL (L ++ [a, b, c]) (n + 1) = mkL L n ++ [a * 17 + b, a * 17 + c] := by
  obtain ⟨h1, h2, h3⟩ := gY_new hl a b c
  show mkL (L ++ [a, b, c]) n ++ _ = _
  rw [mkL_app hl n (Nat.le_refl _), h1, h2, h3]
theorem lin_at (G : Nat → Nat → Bool) {y k : Nat} (hk : k < 17) : lin G (y * 17 + k) = rowG G y k := by
  unfold lin rowG
  rw [show (y * 17 + k) % 17 = k by omega, show (y * 17 + k) / 17 = y by omega]
theorem mkL_row (G : Nat → Nat → Bool) (y : Nat) {L : List Int} {n : Nat} (hl : L.length = 3 * n) (hL : mkL L n = chgs (lin G) (y * 17)) (hp : prv (lin G) (y * 17) = false) :
    ∀ k, k ≤ 17 → ∃ m, (L ++ (rowS (rowG G y) y k).1).length = 3 * m ∧ prv (lin G) (y * 17 + k) = decide (0 ≤ (rowS (rowG G y) y k).2) ∧
      chgs (lin G) (y * 17 + k) = mkL (L ++ (rowS (rowG G y) y k).1) m ++ (if (rowS (rowG G y) y k).2 < 0 then [] else [(y : Int) * 17 + (rowS (rowG G y) y k).2])
  | 0, _ => ⟨n, by simpa [rowS] using hl, by rw [Nat.add_zero, hp]; rfl, by
      rw [Nat.add_zero, ← hL]; simp [rowS]⟩
  | k + 1, hk => by
    obtain ⟨m, h1, h2, h3⟩ := mkL_row G y hl hL hp k (by omega)
    have hlin := lin_at G (y := y) (k := k) (by omega)
    cases hg : rowG G y k
    · rw [rowS_off hg]
      rw [hg] at hlin
      have hp' : prv (lin G) (y * 17 + (k + 1)) = false := by rw [← Nat.add_assoc]; exact hlin
      unfold rowF
      by_cases h0 : (rowS (rowG G y) y k).2 < 0
      · refine ⟨m, by simp only [if_pos h0]; exact h1, by rw [hp']; rfl, ?_⟩
        simp only [if_pos h0]
        rw [if_pos (show (-1 : Int) < 0 by omega), ← Nat.add_assoc, chgs_same (by rw [hlin, h2, decide_eq_false (by omega)]), h3, if_pos h0]
      · refine ⟨m + 1, by simp only [if_neg h0]; rw [← List.append_assoc, List.length_append, h1]; simp; omega, by rw [hp']; rfl, ?_⟩
        simp only [if_neg h0]
        rw [if_pos (show (-1 : Int) < 0 by omega), ← Nat.add_assoc, chgs_new (by rw [hlin, h2, decide_eq_true (by omega)]; simp), h3, if_neg h0, List.append_nil, ← List.append_assoc, mkL_snoc h1, List.append_assoc]
        congr 1
        skip
    · rw [rowS_on hg]
      rw [hg] at hlin
      have hp' : prv (lin G) (y * 17 + (k + 1)) = true := by rw [← Nat.add_assoc]; exact hlin
      by_cases h0 : (rowS (rowG G y) y k).2 < 0
      · refine ⟨m, h1, by rw [hp']; simp only [if_pos h0]; exact (decide_eq_true (by omega)).symm, ?_⟩
        simp only [if_pos h0]
        rw [if_neg (show ¬ (k : Int) < 0 by omega), ← Nat.add_assoc, chgs_new (by rw [hlin, h2, decide_eq_false (by omega)]; simp), h3, if_pos h0, List.append_nil]
        rfl
      · refine ⟨m, h1, by rw [hp']; simp only [if_neg h0]; exact (decide_eq_true (by omega)).symm, ?_⟩
        simp only [if_neg h0]
        rw [← Nat.add_assoc, chgs_same (by rw [hlin, h2, decide_eq_true (by omega)]), h3, if_neg h0]
theorem mkL_rnk (G : Nat → Nat → Bool) : ∀ y, ∃ n, (rnk G y).length = 3 * n ∧ mkL (rnk G y) n = chgs (lin G) (y * 17) ∧ prv (lin G) (y * 17) = false
  | 0 => ⟨0, rfl, rfl, rfl⟩
  | y + 1 => by
    obtain ⟨n, h1, h2, h3⟩ := mkL_rnk G y
    obtain ⟨m, g1, g2, g3⟩ := mkL_row G y h1 h2 h3 17 (Nat.le_refl _)
    have hf : (rowS (rowG G y) (y : Int) 17).2 = -1 := by
      rw [rowS_off (by unfold rowG; rfl)]
    have e : (y + 1) * 17 = y * 17 + 17 := by omega
    rw [e]
    rw [hf] at g2 g3
    refine ⟨m, g1, ?_, g2⟩
    show mkL (rnk G y ++ _) m = _
    rw [g3]; simp
/-- The marks of a grid's runs are the places where it changes. -/
theorem mkL_rnL (G : Nat → Nat → Bool) : mkL (rnL G) (rnN G) = chgs (lin G) 272 := by
  obtain ⟨n, h1, h2, h3⟩ := mkL_rnk G 16
  have := (rnL_len G).1
  have e : n = rnN G := by unfold rnL at this; omega
  rw [← e]; exact h2
theorem mkL_get (xs : List Int) : ∀ n j, j < n → (mkL xs n).getD (2 * j) 0 = gY xs j * 17 + gF xs j ∧ (mkL xs n).getD (2 * j + 1) 0 = gY xs j * 17 + gT xs j
  | 0, j, h => by omega
  | n + 1, j, h => by
    have hl := mkL_len xs n
    unfold mkL
    simp only [List.getD_eq_getElem?_getD]
    by_cases e : j = n
    · subst e
      rw [List.getElem?_append_right (by omega), List.getElem?_append_right (by omega), hl, Nat.sub_self, show 2 * j + 1 - 2 * j = 1 by omega]
      exact ⟨rfl, rfl⟩
    · have ih := mkL_get xs n j (by omega)
      simp only [List.getD_eq_getElem?_getD] at ih
      rw [List.getElem?_append_left (by omega), List.getElem?_append_left (by omega)]
      exact ih
/-- Runs out of marks. -/
theorem runs_of {xs : List Int} {n j : Nat} (h : reg xs n) (hj : j < n) : (gY xs j * 17 + gF xs j) / 17 = gY xs j ∧ (gY xs j * 17 + gF xs j) % 17 = gF xs j ∧ (gY xs j * 17 + gT xs j) % 17 = gT xs j := by
  obtain ⟨⟨a0, a1⟩, ⟨b0, b1⟩, c0, c1⟩ := bnds h hj
  omega
theorem take_run {xs : List Int} {n j : Nat} (hl : xs.length = 3 * n) (hj : j < n) : xs.take (j * 3 + 3) = xs.take (j * 3) ++ [gY xs j, gF xs j, gT xs j] := by
  unfold gY gF gT
  simp only [List.getD_eq_getElem?_getD]
  rw [show j * 3 + 3 = j * 3 + 1 + 1 + 1 from rfl, List.take_add_one, List.take_add_one, List.take_add_one, List.getElem?_eq_getElem (show j * 3 < xs.length by omega), List.getElem?_eq_getElem (show j * 3 + 1 < xs.length by omega), List.getElem?_eq_getElem (show j * 3 + 1 + 1 < xs.length by omega)]
  simp only [Option.toList_some, List.append_assoc, List.cons_append, List.nil_append, Option.getD_some]
end Go.Proofs.YtbjgjjhfnaiocaaDoor
