/- Packing: the shelves, and what holds of them. -/
import Derived.Test.YtgieijogopcjnaaPckM
import Derived.Test.YtgieijogopcjnaaSpr
import Derived.Test.YtgieijogopcjnaaVpkM
namespace Go.Proofs.Ytgieijogopcjnaa
open Go.RowKit
set_option linter.unusedSimpArgs false
set_option linter.unusedVariables false

def wid (xs : List Int) (i : Nat) : Int := xs.getD (i * 2) 0
/-- The first shelf with room for a width; as many as there are if there is none. -/
def shF (W s : Int) : List Int → Nat
  | [] => 0
  | e :: es => if e + s ≤ W then 0 else shF W s es + 1
theorem shF_le (W s : Int) : ∀ es, shF W s es ≤ es.length
  | [] => Nat.le_refl _
  | e :: es => by
    unfold shF
    split
    · omega
    · have := shF_le W s es; simp; omega
theorem shF_no {W s : Int} : ∀ {es : List Int} {j : Nat}, j < shF W s es → ¬ es.getD j 0 + s ≤ W
  | [], j, h => by simp [shF] at h
  | e :: es, j, h => by
    unfold shF at h
    split at h
    · omega
    · rename_i hn
      rcases j with _ | j
      · simpa using hn
      · have := shF_no (W := W) (s := s) (es := es) (j := j) (by omega)
        simpa using this
theorem shF_yes {W s : Int} : ∀ {es : List Int}, shF W s es < es.length → es.getD (shF W s es) 0 + s ≤ W
  | [], h => by simp at h
  | e :: es, h => by
    unfold shF at h ⊢
    split
    · rename_i hy; simpa using hy
    · rename_i hn
      rw [if_neg hn] at h
      have := shF_yes (W := W) (s := s) (es := es) (by simp at h; omega)
      simpa using this
/-- It is found step by step. -/
theorem shF_at {W s : Int} {es : List Int} {j : Nat} (hj : j ≤ es.length) (h : ∀ i, i < j → ¬ es.getD i 0 + s ≤ W) (hy : j < es.length → es.getD j 0 + s ≤ W) : shF W s es = j := by
  rcases Nat.lt_trichotomy (shF W s es) j with h1 | h1 | h1
  · exact absurd (shF_yes (by omega)) (h _ h1)
  · exact h1
  · have := shF_le W s es
    exact absurd (hy (by omega)) (shF_no h1)
def box4 (out : List Int) (q : Nat) (a b c d : Int) : List Int := (((out.set (q * 4) a).set (q * 4 + 1) b).set (q * 4 + 2) c).set (q * 4 + 3) d
theorem box4_len (out : List Int) (q : Nat) (a b c d : Int) : (box4 out q a b c d).length = out.length := by simp [box4]
theorem box4_same {out : List Int} {n q : Nat} (hl : out.length = n * 4) (hq : q < n) (a b c d : Int) :
    q0 (box4 out q a b c d) q = a ∧ q1 (box4 out q a b c d) q = b ∧ q2 (box4 out q a b c d) q = c ∧ q3 (box4 out q a b c d) q = d := by
  have t : q * 4 + 3 < out.length := by omega
  refine ⟨?_, ?_, ?_, ?_⟩
  · unfold q0 box4
    rw [List.getD_eq_getElem?_getD, List.getElem?_set_ne (by omega), List.getElem?_set_ne (by omega), List.getElem?_set_ne (by omega), List.getElem?_set_self (by omega)]; rfl
  · unfold q1 box4
    rw [List.getD_eq_getElem?_getD, List.getElem?_set_ne (by omega), List.getElem?_set_ne (by omega), List.getElem?_set_self (by simp; omega)]; rfl
  · unfold q2 box4
    rw [List.getD_eq_getElem?_getD, List.getElem?_set_ne (by omega), List.getElem?_set_self (by simp; omega)]; rfl
  · unfold q3 box4
    rw [List.getD_eq_getElem?_getD, List.getElem?_set_self (by simp; omega)]; rfl
theorem box4_get {out : List Int} {q i : Nat} (a b c d : Int) (h : ∀ r, r < 4 → i ≠ q * 4 + r) : (box4 out q a b c d).getD i 0 = out.getD i 0 := by
  have h0 := h 0 (by omega); have h1 := h 1 (by omega); have h2 := h 2 (by omega); have h3 := h 3 (by omega)
  unfold box4
  rw [List.getD_eq_getElem?_getD, List.getElem?_set_ne (by omega), List.getElem?_set_ne (by omega), List.getElem?_set_ne (by omega), List.getElem?_set_ne (by omega), ← List.getD_eq_getElem?_getD]
theorem box4_other {out : List Int} {q p : Nat} (hne : p ≠ q) (a b c d : Int) :
    q0 (box4 out q a b c d) p = q0 out p ∧ q1 (box4 out q a b c d) p = q1 out p ∧ q2 (box4 out q a b c d) p = q2 out p ∧ q3 (box4 out q a b c d) p = q3 out p :=
  ⟨box4_get _ _ _ _ (fun r hr => by omega), box4_get _ _ _ _ (fun r hr => by omega), box4_get _ _ _ _ (fun r hr => by omega), box4_get _ _ _ _ (fun r hr => by omega)⟩

/-- The shelves, their tops and how far they are used; the height; the boxes. -/
structure Pk where
  tops : List Int
  ends : List Int
  h : Int
  out : List Int
/-- A sprite more. -/
def pkStep (W : Int) (xs : List Int) (s : Pk) (q : Nat) : Pk :=
  if shF W (wid xs q) s.ends < s.ends.length then
    ⟨s.tops, s.ends.set (shF W (wid xs q) s.ends) (s.ends.getD (shF W (wid xs q) s.ends) 0 + wid xs q), s.h, box4 s.out q (s.ends.getD (shF W (wid xs q) s.ends) 0) (s.tops.getD (shF W (wid xs q) s.ends) 0) (wid xs q) (hgt xs q)⟩
  else ⟨s.tops ++ [s.h], s.ends ++ [wid xs q], s.h + hgt xs q, box4 s.out q 0 s.h (wid xs q) (hgt xs q)⟩
def ordN (xs : List Int) (n k : Nat) : Nat := ((tfO xs n).getD k 0).toNat
def pkAt (W : Int) (xs : List Int) (n : Nat) : Nat → Pk
  | 0 => ⟨[], [], 0, zeros (n * 4)⟩
  | k + 1 => pkStep W xs (pkAt W xs n k) (ordN xs n k)
def pkN (W : Int) (n : Nat) (xs : List Int) : Nat := cond (spOk W n xs) n 0
def pkL (W : Int) (n : Nat) (xs : List Int) : List Int := cond (spOk W n xs) (pkAt W xs n n).out []
def pkH (W : Int) (n : Nat) (xs : List Int) : Int := cond (spOk W n xs) (pkAt W xs n n).h (-1)
theorem zeros_len (n : Nat) : (zeros n).length = n := by simp [zeros]
theorem pkAt_len (W : Int) (xs : List Int) (n : Nat) : ∀ k, (pkAt W xs n k).out.length = n * 4 ∧ (pkAt W xs n k).tops.length = (pkAt W xs n k).ends.length ∧ (pkAt W xs n k).ends.length ≤ k
  | 0 => ⟨zeros_len _, rfl, Nat.le_refl _⟩
  | k + 1 => by
    obtain ⟨h1, h2, h3⟩ := pkAt_len W xs n k
    show (pkStep W xs (pkAt W xs n k) (ordN xs n k)).out.length = n * 4 ∧ (pkStep W xs (pkAt W xs n k) (ordN xs n k)).tops.length = (pkStep W xs (pkAt W xs n k) (ordN xs n k)).ends.length ∧ (pkStep W xs (pkAt W xs n k) (ordN xs n k)).ends.length ≤ k + 1
    unfold pkStep
    split
    · exact ⟨by rw [box4_len]; exact h1, by simp; exact h2, by simp; omega⟩
    · exact ⟨by rw [box4_len]; exact h1, by simp; exact h2, by simp; omega⟩
theorem pk_len (W : Int) (n : Nat) (xs : List Int) : pkN W n xs ≤ 1000000 ∧ (pkL W n xs).length = 4 * pkN W n xs := by
  unfold pkN pkL
  cases hs : spOk W n xs
  · exact ⟨by show 0 ≤ _; omega, rfl⟩
  · have h := (spOk_of hs).2.1
    exact ⟨by show n ≤ _; omega, by show (pkAt W xs n n).out.length = 4 * n; rw [(pkAt_len W xs n n).1]; omega⟩
theorem ordN_lt (xs : List Int) {n k : Nat} (hk : k < n) : ordN xs n k < n ∧ (tfO xs n).getD k 0 = (ordN xs n k : Int) := by
  obtain ⟨q, hq, e⟩ := tfO_get xs hk
  unfold ordN
  rw [e]
  exact ⟨by simpa using hq, by simp⟩

/-! ### The order -/
theorem tfP_stop (xs : List Int) (x : Int) (out : List Int) : ∀ k j, tfP xs x out k ≤ j → j < k → hgt xs (out.getD j 0).toNat < x
  | 0, j, _, h => by omega
  | k + 1, j, h1, h2 => by
    unfold tfP at h1
    split at h1
    · by_cases e : j = k
      · subst e; assumption
      · exact tfP_stop xs x out k j h1 (by omega)
    · omega
theorem tfP_go (xs : List Int) (x : Int) (out : List Int) : ∀ k, 0 < tfP xs x out k → x ≤ hgt xs (out.getD (tfP xs x out k - 1) 0).toNat
  | 0, h => by simp [tfP] at h
  | k + 1, h => by
    unfold tfP at h ⊢
    split
    · rename_i hy; rw [if_pos hy] at h; exact tfP_go xs x out k h
    · rename_i hn; rw [Nat.add_sub_cancel]; omega
def Desc (xs : List Int) (l : List Int) : Prop := l.Pairwise (fun a b => hgt xs b.toNat ≤ hgt xs a.toNat)
theorem tfO_desc (xs : List Int) : ∀ i, Desc xs (tfO xs i)
  | 0 => List.Pairwise.nil
  | i + 1 => by
    have ih := tfO_desc xs i
    have hl := tfO_len xs i
    unfold tfO
    obtain ⟨l, hle⟩ : ∃ l, l = tfO xs i := ⟨_, rfl⟩
    rw [← hle] at ih hl ⊢
    obtain ⟨P, hP⟩ : ∃ P, P = tfP xs (hgt xs i) l l.length := ⟨_, rfl⟩
    have hPl : P ≤ l.length := by rw [hP]; exact tfP_le _ _ _ _
    have hst := tfP_stop xs (hgt xs i) l l.length
    have hgo := tfP_go xs (hgt xs i) l l.length
    rw [← hP] at hst hgo ⊢
    have htk : ∀ a ∈ l.take P, hgt xs i ≤ hgt xs a.toNat := by
      intro a ha
      obtain ⟨j, hj, e⟩ := List.mem_iff_getElem.1 ha
      have hjP : j < P := by simp at hj; omega
      have hjl : j < l.length := by omega
      have h1 := hgo (by omega)
      have e2 : a = l[j] := by rw [← e]; simp
      have e3 : l.getD (P - 1) 0 = l[P - 1] := by rw [List.getD_eq_getElem?_getD, List.getElem?_eq_getElem (by omega)]; rfl
      rw [e3] at h1
      by_cases ej : j = P - 1
      · subst ej; rw [e2]; exact h1
      · have := List.pairwise_iff_getElem.1 ih j (P - 1) hjl (by omega) (by omega)
        rw [e2]; omega
    have hdr : ∀ b ∈ l.drop P, hgt xs b.toNat ≤ hgt xs i := by
      intro b hb
      obtain ⟨j, hj, e⟩ := List.mem_iff_getElem.1 hb
      have hjl : P + j < l.length := by simp at hj; omega
      have h1 := hst (P + j) (by omega) hjl
      have e3 : l.getD (P + j) 0 = l[P + j] := by rw [List.getD_eq_getElem?_getD, List.getElem?_eq_getElem (by omega)]; rfl
      have e2 : b = l[P + j] := by rw [← e]; simp
      rw [e3] at h1
      rw [e2]; omega
    have hi : (i : Int).toNat = i := by simp
    have htd : ∀ a ∈ l.take P, ∀ b ∈ l.drop P, hgt xs b.toNat ≤ hgt xs a.toNat := fun a ha b hb => by
      have := htk a ha; have := hdr b hb; omega
    unfold Desc
    rw [List.append_assoc, List.pairwise_append]
    refine ⟨List.Pairwise.sublist (List.take_sublist _ _) ih, ?_, ?_⟩
    · rw [List.singleton_append, List.pairwise_cons]
      exact ⟨fun b hb => by rw [hi]; exact hdr b hb, List.Pairwise.sublist (List.drop_sublist _ _) ih⟩
    · intro a ha b hb
      rw [List.singleton_append, List.mem_cons] at hb
      rcases hb with rfl | hb
      · rw [hi]; exact htk a ha
      · exact htd a ha b hb
theorem tfO_perm (xs : List Int) : ∀ i, (tfO xs i).Perm ((List.range i).map Int.ofNat)
  | 0 => List.Perm.nil
  | i + 1 => by
    have ih := tfO_perm xs i
    unfold tfO
    obtain ⟨l, hle⟩ : ∃ l, l = tfO xs i := ⟨_, rfl⟩
    rw [← hle] at ih ⊢
    rw [List.range_succ, List.map_append]
    refine List.Perm.trans (l₂ := (i : Int) :: l) ?_ ?_
    · rw [List.append_assoc, List.singleton_append]
      refine List.perm_middle.trans ?_
      rw [List.take_append_drop]
    · exact (List.Perm.cons _ ih).trans (List.perm_append_comm (l₁ := [(i : Int)]) (l₂ := (List.range i).map Int.ofNat))
theorem ord_nodup (xs : List Int) (n : Nat) : (tfO xs n).Nodup := (tfO_perm xs n).nodup_iff.2 (by
  rw [List.nodup_iff_pairwise_ne, List.pairwise_map]
  exact (List.nodup_range (n := n)).imp (fun h e => h (by injection e)))
theorem ord_ne (xs : List Int) {n j k : Nat} (h : j < k) (hk : k < n) : ordN xs n j ≠ ordN xs n k := by
  have hl := tfO_len xs n
  have h1 := (ordN_lt xs (show j < n by omega)).2
  have h2 := (ordN_lt xs hk).2
  have h3 := List.pairwise_iff_getElem.1 (List.nodup_iff_pairwise_ne.1 (ord_nodup xs n)) j k (by omega) (by omega) h
  rw [List.getD_eq_getElem?_getD, List.getElem?_eq_getElem (by omega)] at h1 h2
  simp only [Option.getD_some] at h1 h2
  intro e
  rw [h1, h2, e] at h3
  exact h3 rfl
theorem ord_desc (xs : List Int) {n j k : Nat} (h : j < k) (hk : k < n) : hgt xs (ordN xs n k) ≤ hgt xs (ordN xs n j) := by
  have hl := tfO_len xs n
  have h3 := List.pairwise_iff_getElem.1 (tfO_desc xs n) j k (by omega) (by omega) h
  unfold ordN
  rw [List.getD_eq_getElem?_getD, List.getElem?_eq_getElem (by omega), List.getD_eq_getElem?_getD, List.getElem?_eq_getElem (by omega)]
  exact h3
theorem ord_onto (xs : List Int) {n q : Nat} (h : q < n) : ∃ k, k < n ∧ ordN xs n k = q := by
  have hm : (q : Int) ∈ tfO xs n := (tfO_perm xs n).mem_iff.2 (List.mem_map.2 ⟨q, List.mem_range.2 h, rfl⟩)
  obtain ⟨k, hk, e⟩ := List.mem_iff_getElem.1 hm
  rw [tfO_len] at hk
  refine ⟨k, hk, ?_⟩
  unfold ordN
  rw [List.getD_eq_getElem?_getD, List.getElem?_eq_getElem (by rw [tfO_len]; exact hk), e]
  simp
/-- Sums over the order are sums over the sprites. -/
def sumK (f : Nat → Int) : Nat → Int
  | 0 => 0
  | k + 1 => sumK f k + f k
theorem sumK_list (f : Nat → Int) : ∀ k, sumK f k = ((List.range k).map f).sum
  | 0 => rfl
  | k + 1 => by
    rw [List.range_succ, List.map_append, List.sum_append]
    show sumK f k + f k = _
    rw [sumK_list f k]; simp
theorem perm_sum {l l' : List Int} (h : l.Perm l') : l.sum = l'.sum := by
  induction h with
  | nil => rfl
  | cons x _ ih => simp [ih]
  | swap x y l => simp; omega
  | trans _ _ h1 h2 => exact h1.trans h2
theorem ord_sum (xs : List Int) (f : Nat → Int) (n : Nat) : sumK (fun k => f (ordN xs n k)) n = sumK f n := by
  rw [sumK_list, sumK_list]
  have e : (List.range n).map (fun k => f (ordN xs n k)) = (tfO xs n).map (fun y => f y.toNat) := by
    apply List.ext_getElem
    · simp [tfO_len]
    · intro i h1 h2
      have hi : i < n := by simpa using h1
      simp only [List.getElem_map, List.getElem_range]
      unfold ordN
      rw [List.getD_eq_getElem?_getD, List.getElem?_eq_getElem (by rw [tfO_len]; exact hi)]
      rfl
  rw [e]
  refine (perm_sum ((tfO_perm xs n).map (fun y => f y.toNat))).trans ?_
  rw [List.map_map]
  rfl
theorem sumK_mono {f g : Nat → Int} : ∀ k, (∀ i, i < k → f i ≤ g i) → sumK f k ≤ sumK g k
  | 0, _ => Int.le_refl _
  | k + 1, h => by
    have := sumK_mono k (fun i hi => h i (by omega))
    have := h k (by omega)
    show sumK f k + f k ≤ sumK g k + g k
    omega
theorem sumK_congr {f g : Nat → Int} : ∀ k, (∀ i, i < k → f i = g i) → sumK f k = sumK g k
  | 0, _ => rfl
  | k + 1, h => by
    show sumK f k + f k = sumK g k + g k
    rw [sumK_congr k (fun i hi => h i (by omega)), h k (by omega)]
theorem sumK_step {f : Nat → Int} (h : ∀ i, 0 ≤ f i) : ∀ {j k : Nat}, j < k → sumK f j + f j ≤ sumK f k
  | j, 0, hjk => by omega
  | j, k + 1, hjk => by
    show _ ≤ sumK f k + f k
    have := h k
    by_cases e : j = k
    · subst e; omega
    · have := sumK_step h (j := j) (k := k) (by omega); omega
theorem sumK_one {f g : Nat → Int} {j : Nat} {d : Int} (hj : g j = f j + d) (ho : ∀ i, i ≠ j → g i = f i) : ∀ k, j < k → sumK g k = sumK f k + d
  | 0, h => by omega
  | k + 1, h => by
    show sumK g k + g k = sumK f k + f k + d
    by_cases e : j = k
    · subst e
      rw [hj, sumK_congr j (fun i hi => ho i (by omega))]; omega
    · rw [sumK_one hj ho k (by omega), ho k (by omega)]; omega
end Go.Proofs.Ytgieijogopcjnaa
