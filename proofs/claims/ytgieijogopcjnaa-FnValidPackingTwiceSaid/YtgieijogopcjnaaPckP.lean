/- Packing: no two sprites overlap, all lie in the atlas, and the atlas is as high as it must be. -/
import Derived.Test.YtgieijogopcjnaaPckN
namespace Go.Proofs.Ytgieijogopcjnaa
open Go.RowKit
set_option linter.unusedSimpArgs false
set_option linter.unusedVariables false

theorem com_f {a0 a1 a2 a3 b0 b1 b2 b3 : Int} (h : a0 + a2 ≤ b0 ∨ b0 + b2 ≤ a0 ∨ a1 + a3 ≤ b1 ∨ b1 + b3 ≤ a1) : comB a0 a1 a2 a3 b0 b1 b2 b3 = false := by
  unfold comB
  simp only [Bool.and_eq_false_iff, decide_eq_false_iff_not]
  omega
def comQ (out : List Int) (p q : Nat) : Bool := comB (q0 out p) (q1 out p) (q2 out p) (q3 out p) (q0 out q) (q1 out q) (q2 out q) (q3 out q)
/-- What holds of the shelves when the first k sprites in order have been placed. -/
structure PkInv (W : Int) (xs : List Int) (n k : Nat) (s : Pk) (hs : Nat → Int) : Prop where
  hs0 : ∀ j, 0 ≤ hs j
  hh : s.h = sumK hs s.ends.length
  tp : ∀ j, j < s.ends.length → s.tops.getD j 0 = sumK hs j
  en : ∀ j, j < s.ends.length → 0 ≤ s.ends.getD j 0 ∧ s.ends.getD j 0 ≤ W
  hq : ∀ j, j < s.ends.length → ∃ i, i < k ∧ hs j = hgt xs (ordN xs n i)
  bx : ∀ i, i < k → ∃ j, j < s.ends.length ∧ q1 s.out (ordN xs n i) = sumK hs j ∧ 0 ≤ q0 s.out (ordN xs n i) ∧ q0 s.out (ordN xs n i) + wid xs (ordN xs n i) ≤ s.ends.getD j 0 ∧ q2 s.out (ordN xs n i) = wid xs (ordN xs n i) ∧ q3 s.out (ordN xs n i) = hgt xs (ordN xs n i) ∧ hgt xs (ordN xs n i) ≤ hs j
  ap : ∀ i i', i < k → i' < k → i ≠ i' → comQ s.out (ordN xs n i) (ordN xs n i') = false
  ar : sumK (fun i => wid xs (ordN xs n i) * hgt xs (ordN xs n i)) k ≤ sumK (fun j => s.ends.getD j 0 * hs j) s.ends.length
  sm : s.h ≤ sumK (fun i => hgt xs (ordN xs n i)) k
theorem okSs_wh {W : Int} {xs : List Int} {n q : Nat} (h : okSs W xs n = true) (hq : q < n) : (1 ≤ wid xs q ∧ wid xs q ≤ W) ∧ 1 ≤ hgt xs q ∧ hgt xs q ≤ 16 := okS_bd (okSs_get h q hq)
theorem getD_set (l : List Int) (j i : Nat) (v : Int) (hj : j < l.length) : (l.set j v).getD i 0 = if i = j then v else l.getD i 0 := by
  rw [List.getD_eq_getElem?_getD, List.getD_eq_getElem?_getD]
  split
  · rename_i h; subst h; rw [List.getElem?_set_self hj]; rfl
  · rename_i h; rw [List.getElem?_set_ne (fun e => h e.symm)]
theorem getD_app (l : List Int) (i : Nat) (v : Int) (hi : i ≤ l.length) : (l ++ [v]).getD i 0 = if i = l.length then v else l.getD i 0 := by
  rw [List.getD_eq_getElem?_getD, List.getD_eq_getElem?_getD]
  split
  · rename_i h; subst h; simp
  · rename_i h; rw [List.getElem?_append_left (by omega)]
theorem pk_step {W : Int} {xs : List Int} {n k : Nat} {s : Pk} {hs : Nat → Int} (hok : okSs W xs n = true) (hk : k < n) (hlo : s.out.length = n * 4) (hlt : s.tops.length = s.ends.length) (I : PkInv W xs n k s hs) : ∃ hs', PkInv W xs n (k + 1) (pkStep W xs s (ordN xs n k)) hs' := by
  obtain ⟨q, hq⟩ : ∃ q, q = ordN xs n k := ⟨_, rfl⟩
  have hqn : q < n := by rw [hq]; exact (ordN_lt xs hk).1
  have hwh := okSs_wh hok hqn
  have hne : ∀ i, i < k → ordN xs n i ≠ q := fun i hi => by rw [hq]; exact ord_ne xs hi hk
  have hds : ∀ i, i < k → hgt xs q ≤ hgt xs (ordN xs n i) := fun i hi => by rw [hq]; exact ord_desc xs hi hk
  rw [← hq]
  obtain ⟨a, ha⟩ : ∃ a, a = wid xs q := ⟨_, rfl⟩
  obtain ⟨b, hb⟩ : ∃ b, b = hgt xs q := ⟨_, rfl⟩
  obtain ⟨L, hL⟩ : ∃ L, L = s.ends.length := ⟨_, rfl⟩
  unfold pkStep
  by_cases hr : shF W (wid xs q) s.ends < s.ends.length
  · rw [if_pos hr]
    have hroom := shF_yes hr
    obtain ⟨j, hj⟩ : ∃ j, j = shF W (wid xs q) s.ends := ⟨_, rfl⟩
    rw [← hj, ← ha] at hroom
    rw [← hj] at hr
    rw [← hj, ← ha, ← hb]
    rw [← ha, ← hb] at hwh
    have hsame := box4_same hlo hqn (s.ends.getD j 0) (s.tops.getD j 0) a b
    have hoth := fun (p : Nat) (hp : p ≠ q) => box4_other (out := s.out) hp (s.ends.getD j 0) (s.tops.getD j 0) a b
    generalize box4 s.out q (s.ends.getD j 0) (s.tops.getD j 0) a b = out at *
    have hbj : b ≤ hs j := by obtain ⟨i, hi, e⟩ := I.hq j hr; rw [e, hb]; exact hds i hi
    have hej := I.en j hr
    have hget : ∀ i, (s.ends.set j (s.ends.getD j 0 + a)).getD i 0 = if i = j then s.ends.getD j 0 + a else s.ends.getD i 0 := fun i => getD_set _ _ _ _ hr
    have hlen : (s.ends.set j (s.ends.getD j 0 + a)).length = s.ends.length := by simp
    generalize s.ends.set j (s.ends.getD j 0 + a) = ends' at *
    have hcom : ∀ i, i < k → comQ out q (ordN xs n i) = false ∧ comQ out (ordN xs n i) q = false := by
      intro i hi
      obtain ⟨j', h1, h2, h3, h4, h5, h6, h7⟩ := I.bx i hi
      have ho := hoth _ (hne i hi)
      unfold comQ
      rw [ho.1, ho.2.1, ho.2.2.1, ho.2.2.2, hsame.1, hsame.2.1, hsame.2.2.1, hsame.2.2.2, h5, h6, h2, I.tp j hr]
      rcases Nat.lt_trichotomy j' j with h | h | h
      · have := sumK_step I.hs0 h
        exact ⟨com_f (by omega), com_f (by omega)⟩
      · subst h
        exact ⟨com_f (by omega), com_f (by omega)⟩
      · have := sumK_step I.hs0 h
        exact ⟨com_f (by omega), com_f (by omega)⟩
    refine ⟨hs, I.hs0, by rw [hlen]; exact I.hh, by rw [hlen]; exact I.tp, ?_, ?_, ?_, ?_, ?_, ?_⟩
    · rw [hlen]
      intro i hi
      rw [hget]
      have := I.en i hi
      split <;> omega
    · rw [hlen]
      intro i hi
      obtain ⟨p, hp, e⟩ := I.hq i hi
      exact ⟨p, by omega, e⟩
    · rw [hlen]
      intro i hi
      by_cases e : i = k
      · subst e
        rw [← hq, ← ha, ← hb, hsame.1, hsame.2.1, hsame.2.2.1, hsame.2.2.2]
        exact ⟨j, hr, I.tp j hr, hej.1, by rw [hget, if_pos rfl]; omega, rfl, rfl, hbj⟩
      · obtain ⟨j', h1, h2, h3, h4, h5, h6, h7⟩ := I.bx i (by omega)
        have ho := hoth _ (hne i (by omega))
        rw [ho.1, ho.2.1, ho.2.2.1, ho.2.2.2]
        refine ⟨j', h1, h2, h3, ?_, h5, h6, h7⟩
        rw [hget]
        split
        · rename_i e2; subst e2; omega
        · exact h4
    · intro i i' hi hi' hii
      by_cases e : i = k
      · subst e; rw [← hq]; exact (hcom i' (by omega)).1
      · by_cases e' : i' = k
        · subst e'; rw [← hq]; exact (hcom i (by omega)).2
        · have o1 := hoth _ (hne i (by omega))
          have o2 := hoth _ (hne i' (by omega))
          have := I.ap i i' (by omega) (by omega) hii
          unfold comQ at this ⊢
          rw [o1.1, o1.2.1, o1.2.2.1, o1.2.2.2, o2.1, o2.2.1, o2.2.2.1, o2.2.2.2]
          exact this
    · show sumK _ k + wid xs (ordN xs n k) * hgt xs (ordN xs n k) ≤ _
      rw [hlen, ← hq, ← ha, ← hb]
      have e := sumK_one (f := fun i => s.ends.getD i 0 * hs i) (g := fun i => ends'.getD i 0 * hs i) (j := j) (d := a * hs j) (by show ends'.getD j 0 * hs j = _; rw [hget, if_pos rfl, Int.add_mul]) (fun i hi => by show ends'.getD i 0 * hs i = _; rw [hget, if_neg hi]) s.ends.length hr
      rw [e]
      have := I.ar
      have := Int.mul_le_mul_of_nonneg_left hbj (show 0 ≤ a by omega)
      omega
    · show s.h ≤ sumK _ k + hgt xs (ordN xs n k)
      rw [← hq, ← hb]
      have := I.sm
      omega
  · rw [if_neg hr, ← ha, ← hb]
    rw [← ha, ← hb] at hwh
    have hsame := box4_same hlo hqn 0 s.h a b
    have hoth := fun (p : Nat) (hp : p ≠ q) => box4_other (out := s.out) hp 0 s.h a b
    generalize box4 s.out q 0 s.h a b = out at *
    obtain ⟨hs', hhs⟩ : ∃ f : Nat → Int, f = fun i => if i = s.ends.length then b else hs i := ⟨_, rfl⟩
    have hsL : hs' s.ends.length = b := by rw [hhs]; exact if_pos rfl
    have hso : ∀ i, i ≠ s.ends.length → hs' i = hs i := fun i hi => by rw [hhs]; exact if_neg hi
    have hsum : ∀ i, i ≤ s.ends.length → sumK hs' i = sumK hs i := fun i hi => sumK_congr i (fun t ht => hso t (by omega))
    have hge : ∀ i, i ≤ s.ends.length → (s.ends ++ [a]).getD i 0 = if i = s.ends.length then a else s.ends.getD i 0 := fun i hi => getD_app _ _ _ hi
    have hgt' : ∀ i, i ≤ s.ends.length → (s.tops ++ [s.h]).getD i 0 = if i = s.ends.length then s.h else s.tops.getD i 0 := fun i hi => by rw [getD_app _ _ _ (by omega), hlt]
    have hlen : (s.ends ++ [a]).length = s.ends.length + 1 := by simp
    generalize s.ends ++ [a] = ends' at *
    generalize s.tops ++ [s.h] = tops' at *
    have hcom : ∀ i, i < k → comQ out q (ordN xs n i) = false ∧ comQ out (ordN xs n i) q = false := by
      intro i hi
      obtain ⟨j', h1, h2, h3, h4, h5, h6, h7⟩ := I.bx i hi
      have ho := hoth _ (hne i hi)
      unfold comQ
      rw [ho.1, ho.2.1, ho.2.2.1, ho.2.2.2, hsame.1, hsame.2.1, hsame.2.2.1, hsame.2.2.2, h5, h6, h2, I.hh]
      have := sumK_step I.hs0 h1
      exact ⟨com_f (by omega), com_f (by omega)⟩
    refine ⟨hs', ?_, ?_, ?_, ?_, ?_, ?_, ?_, ?_, ?_⟩
    · intro i
      by_cases e : i = s.ends.length
      · subst e; rw [hsL]; omega
      · rw [hso i e]; exact I.hs0 i
    · show s.h + b = sumK hs' ends'.length
      rw [hlen]
      show _ = sumK hs' s.ends.length + hs' s.ends.length
      rw [hsum _ (Nat.le_refl _), hsL, I.hh]
    · show ∀ i, i < ends'.length → tops'.getD i 0 = sumK hs' i
      rw [hlen]
      intro i hi
      rw [hgt' i (by omega), hsum i (by omega)]
      split
      · rename_i e; subst e; exact I.hh
      · exact I.tp i (by omega)
    · show ∀ i, i < ends'.length → 0 ≤ ends'.getD i 0 ∧ ends'.getD i 0 ≤ W
      rw [hlen]
      intro i hi
      rw [hge i (by omega)]
      split
      · omega
      · exact I.en i (by omega)
    · show ∀ i, i < ends'.length → _
      rw [hlen]
      intro i hi
      by_cases e : i = s.ends.length
      · subst e; exact ⟨k, by omega, by rw [hsL, hb, hq]⟩
      · obtain ⟨p, hp, e2⟩ := I.hq i (by omega)
        exact ⟨p, by omega, by rw [hso i e]; exact e2⟩
    · show ∀ i, i < k + 1 → ∃ j, j < ends'.length ∧ _
      rw [hlen]
      intro i hi
      by_cases e : i = k
      · subst e
        rw [← hq, ← ha, ← hb, hsame.1, hsame.2.1, hsame.2.2.1, hsame.2.2.2]
        exact ⟨s.ends.length, by omega, by rw [hsum _ (Nat.le_refl _)]; exact I.hh, Int.le_refl _, by show 0 + a ≤ ends'.getD _ 0; rw [hge _ (Nat.le_refl _), if_pos rfl]; omega, rfl, rfl, by rw [hsL]; omega⟩
      · obtain ⟨j', h1, h2, h3, h4, h5, h6, h7⟩ := I.bx i (by omega)
        have ho := hoth _ (hne i (by omega))
        rw [ho.1, ho.2.1, ho.2.2.1, ho.2.2.2]
        refine ⟨j', by omega, by rw [hsum j' (by omega)]; exact h2, h3, ?_, h5, h6, by rw [hso j' (by omega)]; exact h7⟩
        show _ ≤ ends'.getD j' 0
        rw [hge j' (by omega), if_neg (by omega)]
        exact h4
    · intro i i' hi hi' hii
      by_cases e : i = k
      · subst e; rw [← hq]; exact (hcom i' (by omega)).1
      · by_cases e' : i' = k
        · subst e'; rw [← hq]; exact (hcom i (by omega)).2
        · have o1 := hoth _ (hne i (by omega))
          have o2 := hoth _ (hne i' (by omega))
          have := I.ap i i' (by omega) (by omega) hii
          unfold comQ at this ⊢
          rw [o1.1, o1.2.1, o1.2.2.1, o1.2.2.2, o2.1, o2.2.1, o2.2.2.1, o2.2.2.2]
          exact this
    · show sumK _ k + wid xs (ordN xs n k) * hgt xs (ordN xs n k) ≤ sumK (fun j => ends'.getD j 0 * hs' j) ends'.length
      rw [hlen, ← hq, ← ha, ← hb]
      show _ ≤ sumK (fun j => ends'.getD j 0 * hs' j) s.ends.length + ends'.getD s.ends.length 0 * hs' s.ends.length
      rw [hge _ (Nat.le_refl _), if_pos rfl, hsL, sumK_congr (f := fun j => ends'.getD j 0 * hs' j) (g := fun j => s.ends.getD j 0 * hs j) s.ends.length (fun i hi => by show ends'.getD i 0 * hs' i = _; rw [hge i (by omega), if_neg (by omega), hso i (by omega)])]
      have := I.ar
      omega
    · show s.h + b ≤ sumK _ k + hgt xs (ordN xs n k)
      rw [← hq, ← hb]
      have := I.sm
      omega
theorem pk_inv {W : Int} {xs : List Int} {n : Nat} (hok : okSs W xs n = true) : ∀ k, k ≤ n → ∃ hs, PkInv W xs n k (pkAt W xs n k) hs
  | 0, _ => ⟨fun _ => 0, fun _ => Int.le_refl _, rfl, fun j h => absurd h (Nat.not_lt_zero _), fun j h => absurd h (Nat.not_lt_zero _), fun j h => absurd h (Nat.not_lt_zero _), fun j h => absurd h (Nat.not_lt_zero _), fun i i' h => absurd h (Nat.not_lt_zero _), Int.le_refl _, Int.le_refl _⟩
  | k + 1, h => by
    obtain ⟨hs, I⟩ := pk_inv hok k (by omega)
    have hl := pkAt_len W xs n k
    exact pk_step hok (by omega) hl.1 hl.2.1 I
/-- What is asked of the packing of sprites that fit. -/
theorem pk_law {W : Int} {n : Nat} {xs : List Int} (h : spOk W n xs = true) :
    (∀ q, q < n → q2 (pkAt W xs n n).out q = wid xs q ∧ q3 (pkAt W xs n n).out q = hgt xs q) ∧ vpk W (pkAt W xs n n).h n (pkAt W xs n n).out = true ∧ 0 ≤ (pkAt W xs n n).h ∧ leastH W n xs ≤ (pkAt W xs n n).h ∧ (pkAt W xs n n).h ≤ sumK (hgt xs) n := by
  obtain ⟨hW, hn, hok⟩ := spOk_of h
  obtain ⟨hs, I⟩ := pk_inv hok n (Nat.le_refl _)
  generalize pkAt W xs n n = s at *
  have hbx : ∀ q, q < n → ∃ j, j < s.ends.length ∧ q1 s.out q = sumK hs j ∧ 0 ≤ q0 s.out q ∧ q0 s.out q + wid xs q ≤ s.ends.getD j 0 ∧ q2 s.out q = wid xs q ∧ q3 s.out q = hgt xs q ∧ hgt xs q ≤ hs j := fun q hq => by
    obtain ⟨k, hk, e⟩ := ord_onto xs hq
    have := I.bx k hk
    rw [e] at this
    exact this
  have hap : ∀ p q, p < n → q < n → p ≠ q → comQ s.out p q = false := fun p q hp hq hne => by
    obtain ⟨i, hi, e⟩ := ord_onto xs hp
    obtain ⟨i', hi', e'⟩ := ord_onto xs hq
    have := I.ap i i' hi hi' (fun e2 => hne (by rw [← e, ← e', e2]))
    rw [e, e'] at this
    exact this
  have hsm : s.h ≤ sumK (hgt xs) n := by rw [← ord_sum xs (hgt xs) n]; exact I.sm
  have h0 : ∀ k, 0 ≤ sumK hs k := fun k => by
    induction k with
    | zero => exact Int.le_refl _
    | succ k ih => have := I.hs0 k; show 0 ≤ sumK hs k + hs k; omega
  have hh0 : 0 ≤ s.h := by rw [I.hh]; exact h0 _
  have hs16 : ∀ k, k ≤ n → sumK (hgt xs) k ≤ 16 * k := fun k => by
    induction k with
    | zero => intro _; exact Int.le_refl _
    | succ k ih => intro hk; have := ih (by omega); have := (okSs_wh hok (q := k) (by omega)).2; show sumK (hgt xs) k + hgt xs k ≤ _; omega
  have h192 := hs16 n (Nat.le_refl _)
  have hfit : ∀ q, q < n → ftB (q0 s.out q) (q1 s.out q) (q2 s.out q) (q3 s.out q) W s.h = true ∧ hgt xs q ≤ s.h := fun q hq => by
    obtain ⟨j, h1, h2, h3, h4, h5, h6, h7⟩ := hbx q hq
    have hwh := okSs_wh hok hq
    have he := I.en j h1
    have hst := sumK_step I.hs0 h1
    have hj0 := h0 j
    rw [← I.hh] at hst
    refine ⟨?_, by omega⟩
    unfold ftB
    rw [h5, h6, h2, decide_eq_true (by omega), decide_eq_true (by omega), decide_eq_true (by omega), decide_eq_true (by omega)]
    rfl
  have hhit : ∀ q, q < n → ∀ j, j ≤ q → hitB s.out q j = false := fun q hq j => by
    induction j with
    | zero => intro _; rfl
    | succ j ih =>
      intro hj
      unfold hitB
      rw [ih (by omega), Bool.false_or]
      exact hap q j hq (by omega) (by omega)
  have hoks : ∀ k, k ≤ n → okKs W s.h s.out k = true := fun k => by
    induction k with
    | zero => intro _; rfl
    | succ k ih =>
      intro hk
      unfold okKs okK
      rw [ih (by omega), (hfit k (by omega)).1, hhit k (by omega) k (Nat.le_refl _)]
      rfl
  refine ⟨fun q hq => ?_, ?_, hh0, ?_, hsm⟩
  · obtain ⟨j, h1, h2, h3, h4, h5, h6, h7⟩ := hbx q hq
    exact ⟨h5, h6⟩
  · unfold vpk
    rw [decide_eq_true hW, decide_eq_true (show 0 ≤ s.h ∧ s.h ≤ 192 by omega), decide_eq_true (show (n : Int) ≤ 12 by omega), hoks n (Nat.le_refl _)]
    rfl
  · have hmost : ∀ k, k ≤ n → mostH xs k ≤ s.h := fun k => by
      induction k with
      | zero => intro _; exact hh0
      | succ k ih =>
        intro hk
        have := ih (by omega)
        have := (hfit k (by omega)).2
        unfold mostH
        unfold hgt at this
        split <;> omega
    have har : areaH xs n ≤ W * s.h := by
      have e1 : ∀ k, areaH xs k = sumK (fun q => wid xs q * hgt xs q) k := fun k => by
        induction k with
        | zero => rfl
        | succ k ih => show areaH xs k + _ = sumK _ k + _; rw [ih]; rfl
      have e2 : ∀ k, sumK (fun j => W * hs j) k = W * sumK hs k := fun k => by
        induction k with
        | zero => exact (Int.mul_zero _).symm
        | succ k ih => show sumK _ k + W * hs k = W * (sumK hs k + hs k); rw [ih, Int.mul_add]
      rw [e1, ← ord_sum xs (fun q => wid xs q * hgt xs q) n, I.hh, ← e2]
      exact Int.le_trans I.ar (sumK_mono _ (fun i hi => Int.mul_le_mul_of_nonneg_right (I.en i hi).2 (I.hs0 i)))
    have h1 := hmost n (Nat.le_refl _)
    have ha0 := (areaH_bd hW.2 hok n (Nat.le_refl _)).1
    unfold leastH topH
    rw [if_pos h]
    split
    · exact h1
    · rw [Int.tdiv_eq_ediv_of_nonneg (by omega)]
      have : (areaH xs n + W - 1) / W < s.h + 1 := by
        apply Int.ediv_lt_of_lt_mul (by omega)
        rw [Int.add_mul, Int.mul_comm s.h W]
        omega
      omega
/-- A single sprite lies in the corner. -/
theorem pk_one (W : Int) (xs : List Int) (h : wid xs 0 ≤ W) : (pkAt W xs 1 1).h = hgt xs 0 ∧ (pkAt W xs 1 1).out = [0, 0, wid xs 0, hgt xs 0] := by
  have e0 : ordN xs 1 0 = 0 := by have := (ordN_lt xs (n := 1) (k := 0) (by omega)).1; omega
  have e1 : pkAt W xs 1 1 = pkStep W xs ⟨[], [], 0, zeros 4⟩ 0 := by
    show pkStep W xs (pkAt W xs 1 0) (ordN xs 1 0) = _
    rw [e0]; rfl
  rw [e1]
  unfold pkStep
  rw [if_neg (by simp)]
  exact ⟨by show 0 + hgt xs 0 = _; omega, by simp [box4, zeros, List.replicate]⟩
end Go.Proofs.Ytgieijogopcjnaa
