/- What the law of thresholds needs. -/
import Derived.Test.YtaejhodikpjeoaaThrJ
namespace Go.Proofs.Ytaejhodikpjeoaa
open Go.RowKit Go.Shelf
set_option linter.unusedSimpArgs false
set_option linter.unusedVariables false

/-- How many of the first numbers are lower, and whether all are equal to the first. -/
def blw (xs : List Int) (t : Int) : Nat → Int
  | 0 => 0
  | k + 1 => if xs.getD k 0 < t then blw xs t k + 1 else blw xs t k
def smY (xs : List Int) : Nat → Bool
  | 0 => true
  | k + 1 => smY xs k && (xs.getD k 0 == xs.getD 0 0)
theorem blw_bd (xs : List Int) (t : Int) : ∀ k, 0 ≤ blw xs t k ∧ blw xs t k ≤ k
  | 0 => ⟨Int.le_refl _, Int.le_refl _⟩
  | k + 1 => by
    have := blw_bd xs t k
    unfold blw
    split <;> omega
theorem blw_cnt (xs : List Int) (t : Int) : ∀ k, k ≤ xs.length → blw xs t k = ((xs.take k).countP (fun x => decide (x < t)) : Nat)
  | 0, _ => rfl
  | k + 1, h => by
    have ih := blw_cnt xs t k (by omega)
    rw [take_snoc xs k (by omega), List.countP_append]
    unfold blw
    by_cases c : xs.getD k 0 < t
    · rw [if_pos c, ih]; simp [List.countP_cons, decide_eq_true c, -List.getD_eq_getElem?_getD]
    · rw [if_neg c, ih]; simp [List.countP_cons, decide_eq_false c, -List.getD_eq_getElem?_getD]
theorem smY_all {xs : List Int} : ∀ k, smY xs k = true → ∀ j, j < k → xs.getD j 0 = xs.getD 0 0
  | 0, _, j, hj => absurd hj (Nat.not_lt_zero j)
  | k + 1, h, j, hj => by
    have h' : (smY xs k && (xs.getD k 0 == xs.getD 0 0)) = true := h
    rw [Bool.and_eq_true] at h'
    by_cases e : j = k
    · subst e; exact eq_of_beq h'.2
    · exact smY_all k h'.1 j (by omega)
theorem smY_not {xs : List Int} : ∀ k, smY xs k = false → ∃ j, j < k ∧ ¬ xs.getD j 0 = xs.getD 0 0
  | 0, h => by simp [smY] at h
  | k + 1, h => by
    have h' : (smY xs k && (xs.getD k 0 == xs.getD 0 0)) = false := h
    cases e : smY xs k
    · obtain ⟨j, hj, hn⟩ := smY_not k e
      exact ⟨j, by omega, hn⟩
    · rw [e, Bool.true_and] at h'
      exact ⟨k, by omega, fun e => by rw [e, beq_self_eq_true] at h'; cases h'⟩
/-- Numbers below a place, by the histogram. -/
theorem blw_hist {xs : List Int} (hb : ∀ j, j < xs.length → 0 ≤ xs.getD j 0 ∧ xs.getD j 0 ≤ 255) (t : Nat) (ht : t ≤ 256) : blw xs (t : Int) xs.length = thA (hist xs) t ∧ (xs.length : Int) - blw xs (t : Int) xs.length = thB (hist xs) t := by
  have hm : ∀ x ∈ xs, 0 ≤ x ∧ x ≤ 255 := fun x hx => by obtain ⟨j, hj, rfl⟩ := mem_getD hx; exact hb j hj
  have e1 := sm_hist xs (fun x hx => (hm x hx).1) t ht
  have e2 := sm_all xs hm
  have e3 := blw_cnt xs (t : Int) xs.length (Nat.le_refl _)
  rw [List.take_length] at e3
  have e4 : thA (hist xs) t = sm (hist xs) t := rfl
  have e5 : thB (hist xs) t = sm (hist xs) 256 - sm (hist xs) t := rfl
  rw [e4, e5, e2, e1, e3]
  exact ⟨rfl, rfl⟩
/-- An element that is lower counts. -/
theorem blw_pos {xs : List Int} {t : Int} : ∀ k j, j < k → xs.getD j 0 < t → 0 < blw xs t k
  | 0, j, hj, _ => absurd hj (Nat.not_lt_zero j)
  | k + 1, j, hj, h => by
    have hb := blw_bd xs t k
    unfold blw
    by_cases e : j = k
    · subst e; rw [if_pos h]; omega
    · have := blw_pos k j (by omega) h
      split <;> omega
theorem blw_lt {xs : List Int} {t : Int} : ∀ k j, j < k → ¬ xs.getD j 0 < t → blw xs t k < k
  | 0, j, hj, _ => absurd hj (Nat.not_lt_zero j)
  | k + 1, j, hj, h => by
    have hb := blw_bd xs t k
    unfold blw
    by_cases e : j = k
    · subst e; rw [if_neg h]; omega
    · have := blw_lt k j (by omega) h
      split <;> omega
/-- A threshold's contract. -/
def ThrC (f : FuncId) (W H P : Int) (xs : List Int) (t : Int) : Prop :=
  ∀ (A : Option Addr) (c : Nat) (w : World), Rds .i64 w w.heap.size A xs → Calls Try.prog f #[.agg #[.int .i64 W, .int .i64 H, .int .i64 P, .slice A xs.length c]] w fun e w' => e = .returned (.int .i64 t) ∧ Below w.heap.size w w'
/-- The law: all equal and 0, or numbers on both sides. -/
theorem thr_law (W H P : Int) (xs : List Int) (hx : xs.length ≤ 256) : ∃ t : Int, Hid (ThrC 9 W H P xs t) ∧ Hid (ThrC 7 W H P xs t) ∧
    (t < 0 ∨ (¬ t < 0 ∧ 0 < xs.length ∧ Hid (smY xs xs.length = true → t = 0) ∧ Hid (smY xs xs.length = false → 0 < blw xs t xs.length ∧ blw xs t xs.length < xs.length))) := by
  refine ⟨thV W H P xs, Lib.hid (fun A c w hr => i_ThresholdOf W H P A c xs w hr (by omega)), Lib.hid (fun A c w hr => s_ThresholdOf W H P A c xs w hr (by omega)), ?_⟩
  unfold thV
  cases hv : vpl W H P xs
  · left; show (-1 : Int) < 0; omega
  · right
    have hvm := (vpl_len hv).2.1
    have hb := bytes_of hvm
    have hC := thC_hist hx hb
    have hpos : 0 < xs.length := by
      obtain ⟨W, H, P, F, rfl, rfl, rfl, rfl, ok⟩ := vim_okJ hvm
      rw [img_len]
      exact Nat.mul_pos (Nat.mul_pos ok.1.1 ok.2.1.1) ok.2.2.1.1
    show ¬ ((bst (hist xs) 255 : Nat) : Int) < 0 ∧ _
    have hle := bst_le (hist xs) 255
    have hpt := bst_parts (hist xs) 255
    refine ⟨by omega, hpos, Lib.hid (fun hs => ?_), Lib.hid (fun hs => ?_)⟩
    · have hall := smY_all xs.length hs
      rcases hpt with h | ⟨ha, hb2⟩
      · show ((bst (hist xs) 255 : Nat) : Int) = 0; rw [h]; rfl
      · exfalso
        obtain ⟨e1, e2⟩ := blw_hist hb (bst (hist xs) 255) (by omega)
        rw [← e1] at ha
        rw [← e2] at hb2
        by_cases c : xs.getD 0 0 < ((bst (hist xs) 255 : Nat) : Int)
        · have hz : ∀ k, k ≤ xs.length → blw xs ((bst (hist xs) 255 : Nat) : Int) k = k := fun k => by
            induction k with
            | zero => intro _; rfl
            | succ k ih =>
              intro hk
              have := ih (by omega)
              unfold blw
              rw [if_pos (by rw [hall k (by omega)]; exact c), this]; rfl
          exact hb2 (by rw [hz _ (Nat.le_refl _)]; exact Int.sub_self _)
        · have hz : ∀ k, k ≤ xs.length → blw xs ((bst (hist xs) 255 : Nat) : Int) k = 0 := fun k => by
            induction k with
            | zero => intro _; rfl
            | succ k ih =>
              intro hk
              have := ih (by omega)
              unfold blw
              rw [if_neg (by rw [hall k (by omega)]; exact c), this]
          exact ha (hz _ (Nat.le_refl _))
    · obtain ⟨j, hj, hne⟩ := smY_not xs.length hs
      have b0 := hb 0 hpos
      have bj := hb j hj
      have key : ∀ u v : Nat, u < xs.length → v < xs.length → xs.getD u 0 < xs.getD v 0 → ¬ bst (hist xs) 255 = 0 := fun u v hu hv h => by
        have bu := hb u hu
        have bv := hb v hv
        obtain ⟨n, hn⟩ : ∃ n : Nat, xs.getD v 0 = n := ⟨(xs.getD v 0).toNat, by omega⟩
        obtain ⟨e1, e2⟩ := blw_hist hb n (by omega)
        have p1 := blw_pos (xs := xs) (t := (n : Int)) xs.length u hu (by omega)
        have p2 := blw_lt (xs := xs) (t := (n : Int)) xs.length v hv (by omega)
        exact bst_some (hist xs) 255 n (by omega) (by omega) (by rw [← e1]; omega) (by rw [← e2]; omega)
      have hn0 : ¬ bst (hist xs) 255 = 0 := by
        rcases Int.lt_or_gt_of_ne hne with h | h
        · exact key j 0 hj hpos h
        · exact key 0 j hpos hj h
      rcases hpt with h | ⟨ha, hb2⟩
      · exact absurd h hn0
      · obtain ⟨e1, e2⟩ := blw_hist hb (bst (hist xs) 255) (by omega)
        rw [← e1] at ha
        rw [← e2] at hb2
        have := blw_bd xs ((bst (hist xs) 255 : Nat) : Int) xs.length
        show 0 < blw xs ((bst (hist xs) 255 : Nat) : Int) xs.length ∧ blw xs ((bst (hist xs) 255 : Nat) : Int) xs.length < xs.length
        omega
end Go.Proofs.Ytaejhodikpjeoaa
