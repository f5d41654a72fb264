/- The means and differences of pairs, as mathematics. -/
import Derived.Test.YtmkfgcmabmocfaaLists
namespace Go.Proofs.Ytmkfgcmabmocfaa
open Go.RowKit
set_option linter.unusedSimpArgs false
set_option linter.unusedVariables false

/-- A list by its places. -/
def fm (n : Nat) (f : Nat → Int) : List Int := (List.range n).map f
theorem fm_len (n : Nat) (f : Nat → Int) : (fm n f).length = n := by simp [fm]
theorem fm_get {n j : Nat} (f : Nat → Int) (h : j < n) : (fm n f).getD j 0 = f j := by simp [fm, h]
theorem fm_ext {n : Nat} {f g : Nat → Int} (h : ∀ i, i < n → f i = g i) : fm n f = fm n g := List.map_congr_left (fun i hi => h i (List.mem_range.1 hi))
theorem fm_eta (xs : List Int) : fm xs.length (fun i => xs.getD i 0) = xs := by
  apply List.ext_getElem
  · simp [fm]
  · intro i h1 h2; simp [fm, h2]
theorem fm_of {n : Nat} {f : Nat → Int} {xs : List Int} (hn : xs.length = n) (h : ∀ i, i < n → f i = xs.getD i 0) : fm n f = xs := by
  rw [fm_ext h, ← hn, fm_eta]
theorem fm_set {n j : Nat} (f : Nat → Int) (v : Int) : (fm n f).set j v = fm n (fun i => if i = j then v else f i) := by
  apply List.ext_getElem
  · simp [fm]
  · intro i h1 h2
    rw [List.getElem_set]
    by_cases h : j = i
    · simp [fm, h]
    · simp [fm, h, Ne.symm h]
theorem fm_app (a b : Nat) (f g : Nat → Int) : fm a f ++ fm b g = fm (a + b) (fun i => if i < a then f i else g (i - a)) := by
  apply List.ext_getElem
  · simp [fm]
  · intro i h1 h2
    simp only [fm, List.length_append, List.length_map, List.length_range] at h1 h2
    rw [List.getElem_append]
    by_cases h : i < a
    · simp [fm, h]
    · simp [fm, h]
theorem fm_next (n : Nat) (f : Nat → Int) : fm n f ++ [f n] = fm (n + 1) f := by simp [fm, List.range_succ]
theorem fm_next2 (n : Nat) (f : Nat → Int) (a b : Int) (h0 : a = f n) (h1 : b = f (n + 1)) : fm n f ++ [a, b] = fm (n + 2) f := by
  subst h0; subst h1
  rw [← fm_next (n + 1) f, ← fm_next n f]; simp
theorem fm_zero (f : Nat → Int) : fm 0 f = [] := rfl
theorem fm_mem {n : Nat} {f : Nat → Int} {x : Int} (h : x ∈ fm n f) : ∃ i, i < n ∧ x = f i := by
  obtain ⟨i, hi, e⟩ := List.mem_map.1 h
  exact ⟨i, List.mem_range.1 hi, e.symm⟩

/-- Pairs that are changed: of the numbers x i with i < n. -/
def chg (F G : Int → Int → Int) (n : Nat) (x : Nat → Int) (i : Nat) : Int := if i % 2 = 0 then (if i + 1 < n then F (x i) (x (i + 1)) else x i) else G (x (i - 1)) (x i)
/-- k pairs changed, the others not yet. -/
def chk (F G : Int → Int → Int) (n : Nat) (x : Nat → Int) (k : Nat) (i : Nat) : Int := if i < 2 * k then chg F G n x i else x i
theorem chk_step (F G : Int → Int → Int) (n : Nat) (x : Nat → Int) (k : Nat) (h : 2 * k + 1 < n) :
    ((fm n (chk F G n x k)).set (2 * k) (F (x (2 * k)) (x (2 * k + 1)))).set (2 * k + 1) (G (x (2 * k)) (x (2 * k + 1))) = fm n (chk F G n x (k + 1)) := by
  rw [fm_set, fm_set]
  apply fm_ext
  intro i hi
  show (if i = 2 * k + 1 then _ else if i = 2 * k then _ else _) = _
  unfold chk
  by_cases h1 : i = 2 * k + 1
  · subst h1
    rw [if_pos rfl, if_pos (by omega)]
    unfold chg
    rw [if_neg (by omega)]; rfl
  · rw [if_neg h1]
    by_cases h2 : i = 2 * k
    · subst h2
      rw [if_pos rfl, if_pos (by omega)]
      unfold chg
      rw [if_pos (by omega), if_pos h]
    · rw [if_neg h2]
      by_cases h3 : i < 2 * k
      · rw [if_pos h3, if_pos (by omega)]
      · rw [if_neg h3, if_neg (by omega)]
theorem chk_start (F G : Int → Int → Int) (n : Nat) (x : Nat → Int) : fm n (chk F G n x 0) = fm n x := fm_ext (fun i _ => by unfold chk; rw [if_neg (by omega)])
theorem chk_end (F G : Int → Int → Int) (n : Nat) (x : Nat → Int) (k : Nat) (h : ¬ 2 * k + 1 < n) : fm n (chk F G n x k) = fm n (chg F G n x) := fm_ext (fun i hi => by
  unfold chk
  by_cases h3 : i < 2 * k
  · rw [if_pos h3]
  · rw [if_neg h3]; unfold chg; rw [if_pos (by omega), if_neg (by omega)])
/-- The place of a value apart, and what stands at a place. -/
def plc (n i : Nat) : Nat := if i % 2 = 0 then i / 2 else (n + 1) / 2 + i / 2
def cpl (n p : Nat) : Nat := if p < (n + 1) / 2 then 2 * p else 2 * (p - (n + 1) / 2) + 1
theorem plc_cpl {n i : Nat} (h : i < n) : plc n i < n ∧ cpl n (plc n i) = i := by
  unfold plc cpl
  by_cases h1 : i % 2 = 0
  · rw [if_pos h1, if_pos (by omega)]; omega
  · rw [if_neg h1, if_neg (by omega)]; omega
theorem cpl_plc {n p : Nat} (h : p < n) : cpl n p < n ∧ plc n (cpl n p) = p := by
  unfold plc cpl
  by_cases h1 : p < (n + 1) / 2
  · rw [if_pos h1, if_pos (by omega)]; omega
  · rw [if_neg h1, if_neg (by omega)]; omega
/-- j values put apart. -/
def put (n : Nat) (c : Nat → Int) (j p : Nat) : Int := if cpl n p < j then c (cpl n p) else 0
theorem put_step (n : Nat) (c : Nat → Int) (j : Nat) (h : j < n) : (fm n (put n c j)).set (plc n j) (c j) = fm n (put n c (j + 1)) := by
  rw [fm_set]
  apply fm_ext
  intro i hi
  show (if i = plc n j then c j else put n c j i) = put n c (j + 1) i
  unfold put
  by_cases h1 : i = plc n j
  · subst h1
    have := (plc_cpl h).2
    rw [if_pos rfl, this, if_pos (by omega)]
  · rw [if_neg h1]
    have h2 : cpl n i ≠ j := fun e => h1 (by rw [← e]; exact (cpl_plc hi).2.symm)
    by_cases h3 : cpl n i < j
    · rw [if_pos h3, if_pos (by omega)]
    · rw [if_neg h3, if_neg (by omega)]
theorem put_start (n : Nat) (c : Nat → Int) : fm n (put n c 0) = zeros n := by
  unfold zeros
  apply List.ext_getElem
  · simp [fm]
  · intro i h1 h2; simp [fm, put]
theorem put_end (n : Nat) (c : Nat → Int) : fm n (put n c n) = fm n (fun p => c (cpl n p)) := fm_ext (fun i hi => by unfold put; rw [if_pos (cpl_plc hi).1])

def mnF (a b : Int) : Int := (a + b) / 2
def gpF (a b : Int) : Int := a - b
def pfF (m d : Int) : Int := m + (d + 1) / 2
def psF (m d : Int) : Int := m + (d + 1) / 2 - d
def getF (xs : List Int) (i : Nat) : Int := xs.getD i 0
def prOk (xs : List Int) : Bool := decide ((xs.length : Int) ≤ 64) && allB (-999) 999 xs
/-- The means and differences of a list, and the list of means and differences. -/
def fwL (xs : List Int) : List Int := fm xs.length (fun p => chg mnF gpF xs.length (getF xs) (cpl xs.length p))
def apF (xs : List Int) (i : Nat) : Int := getF xs (plc xs.length i)
def bkL (xs : List Int) : List Int := fm xs.length (chg pfF psF xs.length (apF xs))
theorem fwL_len (xs : List Int) : (fwL xs).length = xs.length := fm_len _ _
theorem bkL_len (xs : List Int) : (bkL xs).length = xs.length := fm_len _ _
theorem mn_pair (m d : Int) : mnF (pfF m d) (psF m d) = m ∧ gpF (pfF m d) (psF m d) = d := by unfold mnF gpF pfF psF; omega
theorem pair_mn (a b : Int) : pfF (mnF a b) (gpF a b) = a ∧ psF (mnF a b) (gpF a b) = b := by unfold mnF gpF pfF psF; omega
/-- What two changes undo. -/
theorem chg_chg (F G F' G' : Int → Int → Int) (h : ∀ a b, F' (F a b) (G a b) = a ∧ G' (F a b) (G a b) = b) (n : Nat) (x : Nat → Int) {i : Nat} (hi : i < n) : chg F' G' n (chg F G n x) i = x i := by
  unfold chg
  by_cases h0 : i % 2 = 0
  · rw [if_pos h0]
    by_cases h1 : i + 1 < n
    · rw [if_pos h1, if_pos h0, if_pos h1, if_neg (by omega : ¬ (i + 1) % 2 = 0)]
      exact (h _ _).1
    · rw [if_neg h1, if_pos h0, if_neg h1]
  · rw [if_neg h0]
    rw [if_pos (by omega : (i - 1) % 2 = 0), if_pos (by omega : i - 1 + 1 < n), if_neg h0, show i - 1 + 1 = i by omega]
    exact (h _ _).2
theorem chg_ext (F G : Int → Int → Int) (n : Nat) {x y : Nat → Int} (h : ∀ j, j < n → x j = y j) {i : Nat} (hi : i < n) : chg F G n x i = chg F G n y i := by
  unfold chg
  by_cases h0 : i % 2 = 0
  · rw [if_pos h0, if_pos h0, h i hi]
    by_cases h1 : i + 1 < n
    · rw [if_pos h1, if_pos h1, h _ h1]
    · rw [if_neg h1, if_neg h1]
  · rw [if_neg h0, if_neg h0, h i hi, h (i - 1) (by omega)]
theorem getF_fm {n j : Nat} (f : Nat → Int) (h : j < n) : getF (fm n f) j = f j := fm_get f h
theorem fw_bk (xs : List Int) : fwL (bkL xs) = xs := by
  unfold fwL
  rw [bkL_len]
  refine fm_of rfl (fun p hp => ?_)
  have hc := cpl_plc hp
  rw [chg_ext mnF gpF xs.length (y := chg pfF psF xs.length (apF xs)) (fun j hj => by unfold bkL; exact getF_fm _ hj) hc.1]
  rw [chg_chg pfF psF mnF gpF mn_pair xs.length (apF xs) hc.1]
  unfold apF
  rw [hc.2]; rfl
theorem bk_fw (xs : List Int) : bkL (fwL xs) = xs := by
  unfold bkL
  rw [fwL_len]
  refine fm_of rfl (fun i hi => ?_)
  rw [chg_ext pfF psF xs.length (y := chg mnF gpF xs.length (getF xs)) (fun j hj => by
    unfold apF
    rw [fwL_len]
    have := plc_cpl hj
    unfold fwL
    rw [getF_fm _ this.1, this.2]) hi]
  exact chg_chg mnF gpF pfF psF pair_mn xs.length (getF xs) hi
/-- The numbers of means and differences. -/
theorem allB_get {lo hi : Int} {xs : List Int} (h : allB lo hi xs = true) {j : Nat} (hj : j < xs.length) : lo ≤ getF xs j ∧ getF xs j ≤ hi := by
  have := of_decide_eq_true h (xs[j]) (List.getElem_mem hj)
  unfold getF
  simpa [hj] using this
theorem allB_fm {lo hi : Int} {n : Nat} {f : Nat → Int} (h : ∀ i, i < n → lo ≤ f i ∧ f i ≤ hi) : allB lo hi (fm n f) = true := by
  refine decide_eq_true (fun x hx => ?_)
  obtain ⟨i, hi, rfl⟩ := fm_mem hx
  exact h i hi
theorem prOk_parts {xs : List Int} (h : prOk xs = true) : xs.length ≤ 64 ∧ allB (-999) 999 xs = true := by
  unfold prOk at h
  rw [Bool.and_eq_true] at h
  exact ⟨by have := of_decide_eq_true h.1; omega, h.2⟩
theorem fw_bd {xs : List Int} (h : prOk xs = true) : allB (-1998) 1998 (fwL xs) = true := by
  refine allB_fm (fun p hp => ?_)
  have hb := fun j hj => allB_get (prOk_parts h).2 (j := j) hj
  have hc := (cpl_plc hp).1
  unfold chg
  have h0 := hb _ hc
  by_cases h1 : cpl xs.length p % 2 = 0
  · rw [if_pos h1]
    by_cases h2 : cpl xs.length p + 1 < xs.length
    · rw [if_pos h2]
      have := hb _ h2
      unfold mnF; omega
    · rw [if_neg h2]; omega
  · rw [if_neg h1]
    have := hb (cpl xs.length p - 1) (by omega)
    unfold gpF; omega
/-- Which lists are means and differences. -/
def bkOk (xs : List Int) : Bool := decide ((xs.length : Int) ≤ 64) && allB (-1998) 1998 xs && prOk (bkL xs)
/-- The same by going forward again: bw is the list made by additions that may overflow. -/
theorem bk_again {xs bw : List Int} (hl : bw.length = xs.length) (hin : allB (-1998) 1998 xs = true → bw = bkL xs) : (prOk bw && decide (fwL bw = xs)) = bkOk xs := by
  cases h : (prOk bw && decide (fwL bw = xs))
  · cases h2 : bkOk xs
    · rfl
    · exfalso
      unfold bkOk at h2
      simp only [Bool.and_eq_true] at h2
      rw [hin h2.1.2, h2.2, fw_bk, Bool.true_and, decide_eq_true rfl] at h
      cases h
  · simp only [Bool.and_eq_true] at h
    have hf := of_decide_eq_true h.2
    have hb := fw_bd h.1
    rw [hf] at hb
    have hw := hin hb
    have hp := prOk_parts h.1
    unfold bkOk
    rw [hb, ← hw, h.1, Bool.and_true, Bool.and_true]
    exact (decide_eq_true (by omega)).symm
theorem bk_list {xs bw : List Int} (hin : allB (-1998) 1998 xs = true → bw = bkL xs) (h : bkOk xs = true) : bw = bkL xs := by
  unfold bkOk at h
  simp only [Bool.and_eq_true] at h
  exact hin h.1.2
theorem bkOk_fw {xs : List Int} (h : prOk xs = true) : bkOk (fwL xs) = true := by
  unfold bkOk
  rw [fw_bd h, bk_fw, h, fwL_len, decide_eq_true (by have := (prOk_parts h).1; omega)]; rfl
theorem bkOk_pr {xs : List Int} (h : bkOk xs = true) : prOk (bkL xs) = true := by
  unfold bkOk at h
  simp only [Bool.and_eq_true] at h
  exact h.2
/-- The model's order: means, a last one, differences. -/
theorem fw_even (xs : List Int) (k : Nat) (h : xs.length = 2 * k) : fm k (fun j => chg mnF gpF xs.length (getF xs) (2 * j)) ++ fm k (fun j => chg mnF gpF xs.length (getF xs) (2 * j + 1)) = fwL xs := by
  rw [fm_app]
  unfold fwL
  rw [show k + k = xs.length by omega]
  apply fm_ext
  intro i hi
  unfold cpl
  rw [show (xs.length + 1) / 2 = k by omega]
  by_cases h1 : i < k
  · rw [if_pos h1, if_pos h1]
  · rw [if_neg h1, if_neg h1]
theorem fw_odd (xs : List Int) (k : Nat) (h : xs.length = 2 * k + 1) : (fm k (fun j => chg mnF gpF xs.length (getF xs) (2 * j)) ++ [getF xs (2 * k)]) ++ fm k (fun j => chg mnF gpF xs.length (getF xs) (2 * j + 1)) = fwL xs := by
  have e : getF xs (2 * k) = (fun j => chg mnF gpF xs.length (getF xs) (2 * j)) k := by
    show _ = chg mnF gpF xs.length (getF xs) (2 * k)
    unfold chg
    rw [if_pos (by omega), if_neg (by omega)]
  rw [e, fm_next, fm_app]
  unfold fwL
  rw [show k + 1 + k = xs.length by omega]
  apply fm_ext
  intro i hi
  unfold cpl
  rw [show (xs.length + 1) / 2 = k + 1 by omega]
  by_cases h1 : i < k + 1
  · rw [if_pos h1, if_pos h1]
  · rw [if_neg h1, if_neg h1]
theorem bk_even (xs : List Int) (k : Nat) (h : xs.length = 2 * k) : fm (2 * k) (chg pfF psF xs.length (apF xs)) = bkL xs := by unfold bkL; rw [h]
theorem bk_odd (xs : List Int) (k : Nat) (h : xs.length = 2 * k + 1) : fm (2 * k) (chg pfF psF xs.length (apF xs)) ++ [getF xs k] = bkL xs := by
  have e : getF xs k = chg pfF psF xs.length (apF xs) (2 * k) := by
    unfold chg
    rw [if_pos (by omega), if_neg (by omega)]
    unfold apF plc
    rw [if_pos (by omega), show 2 * k / 2 = k by omega]
  rw [e, fm_next]
  unfold bkL
  rw [h]
/-- Equal numbers. -/
theorem fw_flat (c : Int) (n : Nat) (p : Nat) (hp : p < n) : getF (fwL (List.replicate n c)) p = if p < (n + 1) / 2 then c else 0 := by
  have hl : (List.replicate n c).length = n := List.length_replicate
  unfold fwL
  rw [hl, getF_fm _ hp]
  have hc := (cpl_plc hp).1
  have hg : ∀ j, j < n → getF (List.replicate n c) j = c := fun j hj => by simp [getF, hj]
  unfold chg
  by_cases h1 : p < (n + 1) / 2
  · have h2 : cpl n p % 2 = 0 := by unfold cpl; rw [if_pos h1]; omega
    rw [if_pos h2, if_pos h1, hg _ hc]
    by_cases h3 : cpl n p + 1 < n
    · rw [if_pos h3, hg _ h3]; unfold mnF; omega
    · rw [if_neg h3]
  · have h2 : ¬ cpl n p % 2 = 0 := by unfold cpl; rw [if_neg h1]; omega
    rw [if_neg h2, if_neg h1, hg _ hc, hg _ (by omega)]
    unfold gpF; omega
end Go.Proofs.Ytmkfgcmabmocfaa
