/- The nearest color of a palette: numbers. -/
import Derived.Test.YtjcohmljpokgcaaLsl
import Derived.Test.YtjcohmljpokgcaaGapM
namespace Go.Proofs.Ytjcohmljpokgcaa
open Go.RowKit
set_option linter.unusedSimpArgs false
set_option linter.unusedVariables false

/-- Whether each of the first k lists is a color of P numbers. -/
def clN (xss : List (List Int)) (P : Int) (k : Nat) : Prop := ∀ i, i < k → ((xss.getD i []).length : Int) = P ∧ allB 0 255 (xss.getD i []) = true
/-- Whether a list is a palette for P numbers a color. -/
def palB (xss : List (List Int)) (P : Int) : Bool := xss.all (fun xs => decide ((xs.length : Int) = P) && allB 0 255 xs) && decide (xss.length ≤ 16)
theorem all_of {xss : List (List Int)} {P : Int} (h : clN xss P xss.length) : xss.all (fun xs => decide ((xs.length : Int) = P) && allB 0 255 xs) = true := by
  rw [List.all_eq_true]
  intro xs hx
  obtain ⟨i, hi, rfl⟩ := List.mem_iff_getElem.1 hx
  have := h i hi
  rw [List.getD_eq_getElem?_getD, List.getElem?_eq_getElem hi] at this
  simp only [Option.getD_some] at this
  rw [decide_eq_true this.1, this.2]; rfl
theorem all_not {xss : List (List Int)} {P : Int} {i : Nat} (hi : i < xss.length) (h : (decide (((xss.getD i []).length : Int) = P) && allB 0 255 (xss.getD i [])) = false) : xss.all (fun xs => decide ((xs.length : Int) = P) && allB 0 255 xs) = false := by
  rw [List.all_eq_false]
  refine ⟨xss[i], List.getElem_mem hi, ?_⟩
  rw [List.getD_eq_getElem?_getD, List.getElem?_eq_getElem hi] at h
  simp only [Option.getD_some] at h
  rw [h]; simp
theorem palB_of {xss : List (List Int)} {P : Int} (h : palB xss P = true) : xss.length ≤ 16 ∧ clN xss P xss.length := by
  unfold palB at h
  rw [Bool.and_eq_true] at h
  refine ⟨of_decide_eq_true h.2, fun i hi => ?_⟩
  have := List.all_eq_true.1 h.1 xss[i] (List.getElem_mem hi)
  rw [Bool.and_eq_true] at this
  rw [List.getD_eq_getElem?_getD, List.getElem?_eq_getElem hi]
  exact ⟨of_decide_eq_true this.1, this.2⟩
theorem palB_no {xss : List (List Int)} {P : Int} {i : Nat} (hi : i < xss.length) (h : (decide (((xss.getD i []).length : Int) = P) && allB 0 255 (xss.getD i [])) = false) : palB xss P = false := by
  unfold palB; rw [all_not hi h]; rfl
theorem palB_yes {xss : List (List Int)} {P : Int} (h : clN xss P xss.length) : palB xss P = decide (xss.length ≤ 16) := by
  unfold palB; rw [all_of h]; rfl
theorem allB_get {xs : List Int} (h : allB 0 255 xs = true) : ∀ j, j < xs.length → 0 ≤ xs.getD j 0 ∧ xs.getD j 0 ≤ 255 := by
  intro j hj
  unfold allB at h
  have := of_decide_eq_true h (xs.getD j 0) (by rw [List.getD_eq_getElem?_getD, List.getElem?_eq_getElem hj]; exact List.getElem_mem hj)
  exact this
/-- The gap of the list number i to a pixel. -/
def gpL (xss : List (List Int)) (ys : List Int) (i : Nat) : Int := gapN (xss.getD i []) ys (xss.getD i []).length
/-- The first nearest of the first k lists. -/
def ncN (xss : List (List Int)) (ys : List Int) : Nat → Nat
  | 0 => 0
  | k + 1 => if gpL xss ys k < gpL xss ys (ncN xss ys k) then k else ncN xss ys k
theorem ncN_one (xss : List (List Int)) (ys : List Int) : ncN xss ys 1 = 0 := by
  show (if gpL xss ys 0 < gpL xss ys 0 then 0 else 0) = 0
  simp
theorem ncN_lt (xss : List (List Int)) (ys : List Int) : ∀ k, 0 < k → ncN xss ys k < k
  | 0, h => by omega
  | k + 1, _ => by
    show (if gpL xss ys k < gpL xss ys (ncN xss ys k) then k else ncN xss ys k) < k + 1
    split
    · omega
    · rcases Nat.eq_zero_or_pos k with e | e
      · subst e; show 0 < 0 + 1; omega
      · have := ncN_lt xss ys k e; omega
theorem ncN_le (xss : List (List Int)) (ys : List Int) : ∀ k i, i < k → gpL xss ys (ncN xss ys k) ≤ gpL xss ys i
  | 0, i, h => by omega
  | k + 1, i, h => by
    show gpL xss ys (if gpL xss ys k < gpL xss ys (ncN xss ys k) then k else ncN xss ys k) ≤ _
    by_cases e : gpL xss ys k < gpL xss ys (ncN xss ys k)
    · rw [if_pos e]
      by_cases h1 : i = k
      · rw [h1]; exact Int.le_refl _
      · have := ncN_le xss ys k i (by omega); omega
    · rw [if_neg e]
      by_cases h1 : i = k
      · rw [h1]; omega
      · exact ncN_le xss ys k i (by omega)
theorem ncN_first (xss : List (List Int)) (ys : List Int) : ∀ k i, i < ncN xss ys k → gpL xss ys (ncN xss ys k) < gpL xss ys i
  | 0, i, h => by unfold ncN at h; omega
  | k + 1, i, h => by
    have h' : i < (if gpL xss ys k < gpL xss ys (ncN xss ys k) then k else ncN xss ys k) := h
    show gpL xss ys (if gpL xss ys k < gpL xss ys (ncN xss ys k) then k else ncN xss ys k) < _
    by_cases e : gpL xss ys k < gpL xss ys (ncN xss ys k)
    · rw [if_pos e] at h' ⊢
      have := ncN_le xss ys k i h'; omega
    · rw [if_neg e] at h' ⊢
      exact ncN_first xss ys k i h'
/-- The answer of NearestColor. -/
def ncOk (xss : List (List Int)) (ys : List Int) : Bool := decide (1 ≤ (ys.length : Int) ∧ (ys.length : Int) ≤ 4) && (allB 0 255 ys && (palB xss ys.length && !decide (xss.length = 0)))
def ncV (xss : List (List Int)) (ys : List Int) : Int := if ncOk xss ys = true then (ncN xss ys xss.length : Int) else -1
theorem gpL_bd {xss : List (List Int)} {ys : List Int} {P i : Nat} (hP : P ≤ 4) (h : ((xss.getD i []).length : Int) = P ∧ allB 0 255 (xss.getD i []) = true) (hl : ys.length = P) (hy : allB 0 255 ys = true) : 0 ≤ gpL xss ys i ∧ gpL xss ys i ≤ 260100 := by
  unfold gpL
  have hlen : (xss.getD i []).length = P := by omega
  have := gapN_bd (xs := xss.getD i []) (ys := ys) (n := P) (fun j hj => allB_get h.2 j (by omega)) (fun j hj => allB_get hy j (by omega)) P (Nat.le_refl _)
  rw [hlen]
  omega
/-- The best of the first k colors, -1 for none. -/
def nbI (xss : List (List Int)) (ys : List Int) (k : Nat) : Int := if k = 0 then -1 else (ncN xss ys k : Nat)
/-- The four numbers of a color. -/
def pad4 (q : List Int) : List Int := [q.getD 0 0, q.getD 1 0, q.getD 2 0, q.getD 3 0]
def clr (xss : List (List Int)) : Nat → List Int
  | 0 => []
  | k + 1 => clr xss k ++ pad4 (xss.getD k [])
theorem clr_len (xss : List (List Int)) : ∀ k, (clr xss k).length = k * 4
  | 0 => rfl
  | k + 1 => by show (clr xss k ++ _).length = _; rw [List.length_append, clr_len xss k]; simp [pad4]; omega
theorem clr_get (xss : List (List Int)) (i p : Nat) (hp : p < 4) : ∀ k, i < k → (clr xss k).getD (i * 4 + p) 0 = (xss.getD i []).getD p 0
  | 0, h => by omega
  | k + 1, h => by
    have hl := clr_len xss k
    show (clr xss k ++ pad4 (xss.getD k [])).getD (i * 4 + p) 0 = _
    by_cases e : i = k
    · subst e
      rw [List.getD_eq_getElem?_getD, List.getElem?_append_right (by omega), hl, show i * 4 + p - i * 4 = p by omega]
      match p, hp with
      | 0, _ => rfl
      | 1, _ => rfl
      | 2, _ => rfl
      | 3, _ => rfl
    · rw [List.getD_eq_getElem?_getD, List.getElem?_append_left (by omega), ← List.getD_eq_getElem?_getD]
      exact clr_get xss i p hp k (by omega)
theorem cgN_of {xs ys : List Int} : ∀ k, cgN (fun p => xs.getD p 0) (fun p => ys.getD p 0) k = gapN xs ys k
  | 0 => rfl
  | k + 1 => by
    show cgN _ _ k + sq _ _ = gapN xs ys k + sq _ _
    rw [cgN_of k]
theorem getD_ge {xs : List Int} {j : Nat} (h : xs.length ≤ j) : xs.getD j 0 = 0 := by
  rw [List.getD_eq_getElem?_getD, List.getElem?_eq_none h]; rfl
theorem cg_gap {xs ys : List Int} {P : Nat} (hP : P ≤ 4) (hx : xs.length = P) (hy : ys.length = P) : cgN (fun p => xs.getD p 0) (fun p => ys.getD p 0) 4 = gapN xs ys P := by
  rw [cgN_cut hP (fun j hj => by rw [getD_ge (xs := xs) (by omega), getD_ge (xs := ys) (by omega)]), cgN_of]
theorem byte_all {xs : List Int} (h : allB 0 255 xs = true) : ∀ j, 0 ≤ xs.getD j 0 ∧ xs.getD j 0 ≤ 255 := by
  intro j
  rcases Nat.lt_or_ge j xs.length with e | e
  · exact allB_get h j e
  · rw [getD_ge e]; omega
end Go.Proofs.Ytjcohmljpokgcaa
