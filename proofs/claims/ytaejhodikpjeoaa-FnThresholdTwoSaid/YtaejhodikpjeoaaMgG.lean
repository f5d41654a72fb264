/- GapM, NcM, NcL, PalS, Lsg, PalT, Mpc, Mpb, PalI: one text of several. -/
import Derived.Test.YtaejhodikpjeoaaGridB
import Derived.Test.YtaejhodikpjeoaaLsl
import Derived.Test.YtaejhodikpjeoaaLss
import Derived.Test.YtaejhodikpjeoaaImgA
import Derived.Test.YtaejhodikpjeoaaGridF
import Derived.Test.YtaejhodikpjeoaaGenP
import Derived.Deep.QuietTactic
import Derived.BigQuiet
import Derived.Test.YtaejhodikpjeoaaGridA
import Derived.Maps.Own
import Derived.Maps.OwnOps
import Derived.Maps.Views
import Derived.DeepKeys4
import Derived.WideKeyPair
import Derived.Test.YtaejhodikpjeoaaPixI
import Derived.Test.YtaejhodikpjeoaaInvI
import Derived.Deep.RegionHeld3
namespace Go.Proofs.Ytaejhodikpjeoaa
set_option linter.unusedSimpArgs false
set_option linter.unusedVariables false

def sq (a b : Int) : Int := (a - b) * (a - b)
theorem sq_nonneg (a b : Int) : 0 ≤ sq a b := by
  unfold sq
  rcases Int.le_total 0 (a - b) with h | h
  · exact Int.mul_nonneg h h
  · have := Int.mul_nonneg (show 0 ≤ -(a - b) by omega) (show 0 ≤ -(a - b) by omega)
    rwa [Int.neg_mul_neg] at this
theorem sq_le {a b : Int} (ha : 0 ≤ a ∧ a ≤ 255) (hb : 0 ≤ b ∧ b ≤ 255) : sq a b ≤ 65025 := by
  unfold sq
  obtain ⟨d, hd, hd2⟩ : ∃ d : Nat, d ≤ 255 ∧ (a - b = d ∨ a - b = -(d : Int)) := ⟨(a - b).natAbs, by omega, by omega⟩
  have h := Nat.mul_le_mul hd hd
  rcases hd2 with e | e
  · rw [e, ← Int.natCast_mul]; omega
  · rw [e, Int.neg_mul_neg, ← Int.natCast_mul]; omega
theorem sq_bd {a b : Int} (ha : 0 ≤ a ∧ a ≤ 255) (hb : 0 ≤ b ∧ b ≤ 255) : 0 ≤ sq a b ∧ sq a b ≤ 65025 := ⟨sq_nonneg a b, sq_le ha hb⟩
theorem sq_self (a : Int) : sq a a = 0 := by unfold sq; rw [Int.sub_self]; rfl
theorem sq_comm (a b : Int) : sq a b = sq b a := by
  unfold sq
  rw [show a - b = -(b - a) by omega, Int.neg_mul_neg]
theorem sq_zero {a b : Int} (h : sq a b = 0) : a = b := by
  unfold sq at h
  have := Int.mul_eq_zero.1 h
  omega
def gapN (xs ys : List Int) : Nat → Int
  | 0 => 0
  | k + 1 => gapN xs ys k + sq (xs.getD k 0) (ys.getD k 0)
theorem gapN_bd {xs ys : List Int} {n : Nat} (hx : ∀ j, j < n → 0 ≤ xs.getD j 0 ∧ xs.getD j 0 ≤ 255) (hy : ∀ j, j < n → 0 ≤ ys.getD j 0 ∧ ys.getD j 0 ≤ 255) : ∀ k, k ≤ n → 0 ≤ gapN xs ys k ∧ gapN xs ys k ≤ 65025 * k
  | 0, _ => by simp [gapN]
  | k + 1, hk => by
    have ih := gapN_bd hx hy k (by omega)
    have := sq_bd (hx k (by omega)) (hy k (by omega))
    unfold gapN
    omega
def cgN (c d : Nat → Int) : Nat → Int
  | 0 => 0
  | j + 1 => cgN c d j + sq (c j) (d j)
theorem cgN_bd {c d : Nat → Int} {n : Nat} (hx : ∀ j, j < n → 0 ≤ c j ∧ c j ≤ 255) (hy : ∀ j, j < n → 0 ≤ d j ∧ d j ≤ 255) : ∀ k, k ≤ n → 0 ≤ cgN c d k ∧ cgN c d k ≤ 65025 * k
  | 0, _ => by simp [cgN]
  | k + 1, hk => by
    have ih := cgN_bd hx hy k (by omega)
    have := sq_bd (hx k (by omega)) (hy k (by omega))
    unfold cgN
    omega
def gapC (W : Nat) (F G : Nat → Nat → Nat → Int) : Nat → Int
  | 0 => 0
  | k + 1 => gapC W F G k + cgN (F (k % W) (k / W)) (G (k % W) (k / W)) 4
theorem cgN_cut {c d : Nat → Int} {P : Nat} (hP : P ≤ 4) (h : ∀ j, P ≤ j → c j = d j) : cgN c d 4 = cgN c d P := by
  have hk : ∀ k, P ≤ k → cgN c d k = cgN c d P := by
    intro k hk
    induction k with
    | zero => rw [show P = 0 by omega]
    | succ k ih =>
      by_cases e : P = k + 1
      · rw [e]
      · show cgN c d k + sq (c k) (d k) = _
        rw [h k (by omega), sq_self, ih (by omega)]; omega
  exact hk 4 hP
theorem pxc_out {W P : Nat} {xs : List Int} {x y p : Nat} (h : P ≤ p) : pxc W P xs x y p = 0 := by
  unfold pxc
  rw [List.getD_eq_getElem?_getD, List.getElem?_eq_none (by rw [pxl_len]; exact h)]
  rfl
theorem pxc_at {W P : Nat} {xs : List Int} {k p : Nat} (hp : p < P) : pxc W P xs (k % W) (k / W) p = xs.getD (k * P + p) 0 := by
  rw [img_pxc (H := 0) hp]
  unfold px pix
  rw [Nat.div_add_mod']
theorem gap_rows {W P : Nat} {xs ys : List Int} (hP : P ≤ 4) : ∀ k, gapN xs ys (k * P) = gapC W (pxc W P xs) (pxc W P ys) k
  | 0 => by simp [gapN, gapC]
  | k + 1 => by
    have ih := gap_rows (W := W) (xs := xs) (ys := ys) hP k
    have h : ∀ j, j ≤ P → gapN xs ys (k * P + j) = gapC W (pxc W P xs) (pxc W P ys) k + cgN (pxc W P xs (k % W) (k / W)) (pxc W P ys (k % W) (k / W)) j := by
      intro j
      induction j with
      | zero => intro _; simp [cgN, ih]
      | succ j ihj =>
        intro hj
        show gapN xs ys (k * P + j) + sq (xs.getD (k * P + j) 0) (ys.getD (k * P + j) 0) = _ + (cgN _ _ j + sq (pxc W P xs (k % W) (k / W) j) (pxc W P ys (k % W) (k / W) j))
        rw [ihj (by omega), pxc_at (by omega), pxc_at (by omega)]; omega
    rw [Nat.succ_mul, h P (Nat.le_refl _)]
    show _ = gapC W (pxc W P xs) (pxc W P ys) k + cgN _ _ 4
    rw [cgN_cut hP (fun j hj => by rw [pxc_out hj, pxc_out hj])]
theorem gap_img {W H P : Nat} {xs ys : List Int} (hP : P ≤ 4) : gapC W (pxc W P xs) (pxc W P ys) (W * H) = gapN xs ys (W * H * P) := (gap_rows hP _).symm
theorem gapN_comm (xs ys : List Int) : ∀ k, gapN xs ys k = gapN ys xs k
  | 0 => rfl
  | k + 1 => by
    show gapN xs ys k + sq _ _ = gapN ys xs k + sq _ _
    rw [gapN_comm xs ys k, sq_comm]
theorem gapN_self (xs : List Int) : ∀ k, gapN xs xs k = 0
  | 0 => rfl
  | k + 1 => by
    show gapN xs xs k + sq _ _ = 0
    rw [gapN_self xs k, sq_self]; rfl
theorem gapN_mono (xs ys : List Int) : ∀ k, 0 ≤ gapN xs ys k
  | 0 => Int.le_refl _
  | k + 1 => by
    show 0 ≤ gapN xs ys k + sq _ _
    have := gapN_mono xs ys k
    have := sq_nonneg (xs.getD k 0) (ys.getD k 0)
    omega
theorem gapN_zero {xs ys : List Int} : ∀ {k : Nat}, gapN xs ys k = 0 → ∀ j, j < k → xs.getD j 0 = ys.getD j 0
  | 0, _ => fun j hj => by omega
  | k + 1, h => fun j hj => by
    have h' : gapN xs ys k + sq (xs.getD k 0) (ys.getD k 0) = 0 := h
    have h1 := gapN_mono xs ys k
    have h2 := sq_nonneg (xs.getD k 0) (ys.getD k 0)
    by_cases e : j = k
    · subst e; exact sq_zero (by omega)
    · exact gapN_zero (k := k) (by omega) j (by omega)
theorem gapN_congr {xs ys xs' ys' : List Int} : ∀ (k : Nat), (∀ j, j < k → sq (xs.getD j 0) (ys.getD j 0) = sq (xs'.getD j 0) (ys'.getD j 0)) → gapN xs ys k = gapN xs' ys' k
  | 0, _ => rfl
  | k + 1, h => by
    show gapN xs ys k + sq _ _ = gapN xs' ys' k + sq _ _
    rw [gapN_congr k (fun j hj => h j (by omega)), h k (by omega)]
end Go.Proofs.Ytaejhodikpjeoaa
namespace Go.Proofs.Ytaejhodikpjeoaa
open Go.RowKit
set_option linter.unusedSimpArgs false
set_option linter.unusedVariables false

def clN (xss : List (List Int)) (P : Int) (k : Nat) : Prop := ∀ i, i < k → ((xss.getD i []).length : Int) = P ∧ allB 0 255 (xss.getD i []) = true
def palB (xss : List (List Int)) (P : Int) : Bool := xss.all (fun xs => decide ((xs.length : Int) = P) && allB 0 255 xs) && decide (xss.length ≤ 16)
theorem all_of {xss : List (List Int)} {P : Int} (h : clN xss P xss.length) : xss.all (fun xs => decide ((xs.length : Int) = P) && allB 0 255 xs) = true := by
  rw [List.all_eq_true]
  intro xs hx
  obtain ⟨i, hi, rfl⟩ := List.mem_iff_getElem.1 hx
  have := h i hi
  rw [List.getD_eq_getElem?_getD, List.getElem?_eq_getElem hi] at this
  simp only [Option.getD_some] at this
  rw [decide_eq_true this.1, this.2]; rfl
theorem all_not {xss : List (List Int)} {P : Int} {i : Nat} (hi : i < xss.length) (h : (decide (((xss.getD i []).length : Int) = P) && allB 0 255 (xss.getD i [])) = false) : xss.all (fun xs => decide ((xs.length : Int) = P) && allB 0 255 xs) = false := by
  rw [List.all_eq_false]
  refine ⟨xss[i], List.getElem_mem hi, ?_⟩
  rw [List.getD_eq_getElem?_getD, List.getElem?_eq_getElem hi] at h
  simp only [Option.getD_some] at h
  rw [h]; simp
theorem palB_of {xss : List (List Int)} {P : Int} (h : palB xss P = true) : xss.length ≤ 16 ∧ clN xss P xss.length := by
  unfold palB at h
  rw [Bool.and_eq_true] at h
  refine ⟨of_decide_eq_true h.2, fun i hi => ?_⟩
  have := List.all_eq_true.1 h.1 xss[i] (List.getElem_mem hi)
  rw [Bool.and_eq_true] at this
  rw [List.getD_eq_getElem?_getD, List.getElem?_eq_getElem hi]
  exact ⟨of_decide_eq_true this.1, this.2⟩
theorem palB_no {xss : List (List Int)} {P : Int} {i : Nat} (hi : i < xss.length) (h : (decide (((xss.getD i []).length : Int) = P) && allB 0 255 (xss.getD i [])) = false) : palB xss P = false := by
  unfold palB; rw [all_not hi h]; rfl
theorem palB_yes {xss : List (List Int)} {P : Int} (h : clN xss P xss.length) : palB xss P = decide (xss.length ≤ 16) := by
  unfold palB; rw [all_of h]; rfl
theorem allB_get {xs : List Int} (h : allB 0 255 xs = true) : ∀ j, j < xs.length → 0 ≤ xs.getD j 0 ∧ xs.getD j 0 ≤ 255 := by
  intro j hj
  unfold allB at h
  have := of_decide_eq_true h (xs.getD j 0) (by rw [List.getD_eq_getElem?_getD, List.getElem?_eq_getElem hj]; exact List.getElem_mem hj)
  exact this
def gpL (xss : List (List Int)) (ys : List Int) (i : Nat) : Int := gapN (xss.getD i []) ys (xss.getD i []).length
def ncN (xss : List (List Int)) (ys : List Int) : Nat → Nat
  | 0 => 0
  | k + 1 => if gpL xss ys k < gpL xss ys (ncN xss ys k) then k else ncN xss ys k
theorem ncN_one (xss : List (List Int)) (ys : List Int) : ncN xss ys 1 = 0 := by
  show (if gpL xss ys 0 < gpL xss ys 0 then 0 else 0) = 0
  simp
theorem ncN_lt (xss : List (List Int)) (ys : List Int) : ∀ k, 0 < k → ncN xss ys k < k
  | 0, h => by omega
  | k + 1, _ => by
    show (if gpL xss ys k < gpL xss ys (ncN xss ys k) then k else ncN xss ys k) < k + 1
    split
    · omega
    · rcases Nat.eq_zero_or_pos k with e | e
      · subst e; show 0 < 0 + 1; omega
      · have := ncN_lt xss ys k e; omega
theorem ncN_le (xss : List (List Int)) (ys : List Int) : ∀ k i, i < k → gpL xss ys (ncN xss ys k) ≤ gpL xss ys i
  | 0, i, h => by omega
  | k + 1, i, h => by
    show gpL xss ys (if gpL xss ys k < gpL xss ys (ncN xss ys k) then k else ncN xss ys k) ≤ _
    by_cases e : gpL xss ys k < gpL xss ys (ncN xss ys k)
    · rw [if_pos e]
      by_cases h1 : i = k
      · rw [h1]; exact Int.le_refl _
      · have := ncN_le xss ys k i (by omega); omega
    · rw [if_neg e]
      by_cases h1 : i = k
      · rw [h1]; omega
      · exact ncN_le xss ys k i (by omega)
theorem ncN_first (xss : List (List Int)) (ys : List Int) : ∀ k i, i < ncN xss ys k → gpL xss ys (ncN xss ys k) < gpL xss ys i
  | 0, i, h => by unfold ncN at h; omega
  | k + 1, i, h => by
    have h' : i < (if gpL xss ys k < gpL xss ys (ncN xss ys k) then k else ncN xss ys k) := h
    show gpL xss ys (if gpL xss ys k < gpL xss ys (ncN xss ys k) then k else ncN xss ys k) < _
    by_cases e : gpL xss ys k < gpL xss ys (ncN xss ys k)
    · rw [if_pos e] at h' ⊢
      have := ncN_le xss ys k i h'; omega
    · rw [if_neg e] at h' ⊢
      exact ncN_first xss ys k i h'
def ncOk (xss : List (List Int)) (ys : List Int) : Bool := decide (1 ≤ (ys.length : Int) ∧ (ys.length : Int) ≤ 4) && (allB 0 255 ys && (palB xss ys.length && !decide (xss.length = 0)))
def ncV (xss : List (List Int)) (ys : List Int) : Int := if ncOk xss ys = true then (ncN xss ys xss.length : Int) else -1
theorem gpL_bd {xss : List (List Int)} {ys : List Int} {P i : Nat} (hP : P ≤ 4) (h : ((xss.getD i []).length : Int) = P ∧ allB 0 255 (xss.getD i []) = true) (hl : ys.length = P) (hy : allB 0 255 ys = true) : 0 ≤ gpL xss ys i ∧ gpL xss ys i ≤ 260100 := by
  unfold gpL
  have hlen : (xss.getD i []).length = P := by omega
  have := gapN_bd (xs := xss.getD i []) (ys := ys) (n := P) (fun j hj => allB_get h.2 j (by omega)) (fun j hj => allB_get hy j (by omega)) P (Nat.le_refl _)
  rw [hlen]
  omega
def nbI (xss : List (List Int)) (ys : List Int) (k : Nat) : Int := if k = 0 then -1 else (ncN xss ys k : Nat)
def pad4 (q : List Int) : List Int := [q.getD 0 0, q.getD 1 0, q.getD 2 0, q.getD 3 0]
def clr (xss : List (List Int)) : Nat → List Int
  | 0 => []
  | k + 1 => clr xss k ++ pad4 (xss.getD k [])
theorem clr_len (xss : List (List Int)) : ∀ k, (clr xss k).length = k * 4
  | 0 => rfl
  | k + 1 => by show (clr xss k ++ _).length = _; rw [List.length_append, clr_len xss k]; simp [pad4]; omega
theorem clr_get (xss : List (List Int)) (i p : Nat) (hp : p < 4) : ∀ k, i < k → (clr xss k).getD (i * 4 + p) 0 = (xss.getD i []).getD p 0
  | 0, h => by omega
  | k + 1, h => by
    have hl := clr_len xss k
    show (clr xss k ++ pad4 (xss.getD k [])).getD (i * 4 + p) 0 = _
    by_cases e : i = k
    · subst e
      rw [List.getD_eq_getElem?_getD, List.getElem?_append_right (by omega), hl, show i * 4 + p - i * 4 = p by omega]
      match p, hp with
      | 0, _ => rfl
      | 1, _ => rfl
      | 2, _ => rfl
      | 3, _ => rfl
    · rw [List.getD_eq_getElem?_getD, List.getElem?_append_left (by omega), ← List.getD_eq_getElem?_getD]
      exact clr_get xss i p hp k (by omega)
theorem cgN_of {xs ys : List Int} : ∀ k, cgN (fun p => xs.getD p 0) (fun p => ys.getD p 0) k = gapN xs ys k
  | 0 => rfl
  | k + 1 => by
    show cgN _ _ k + sq _ _ = gapN xs ys k + sq _ _
    rw [cgN_of k]
theorem getD_ge {xs : List Int} {j : Nat} (h : xs.length ≤ j) : xs.getD j 0 = 0 := by
  rw [List.getD_eq_getElem?_getD, List.getElem?_eq_none h]; rfl
theorem cg_gap {xs ys : List Int} {P : Nat} (hP : P ≤ 4) (hx : xs.length = P) (hy : ys.length = P) : cgN (fun p => xs.getD p 0) (fun p => ys.getD p 0) 4 = gapN xs ys P := by
  rw [cgN_cut hP (fun j hj => by rw [getD_ge (xs := xs) (by omega), getD_ge (xs := ys) (by omega)]), cgN_of]
theorem byte_all {xs : List Int} (h : allB 0 255 xs = true) : ∀ j, 0 ≤ xs.getD j 0 ∧ xs.getD j 0 ≤ 255 := by
  intro j
  rcases Nat.lt_or_ge j xs.length with e | e
  · exact allB_get h j e
  · rw [getD_ge e]; omega
end Go.Proofs.Ytaejhodikpjeoaa
namespace Go.Proofs.Ytaejhodikpjeoaa
open Go.RowKit
set_option linter.unusedSimpArgs false
set_option linter.unusedVariables false

theorem tl_le {xss : List (List Int)} {b : Nat} (h : ∀ i, i < xss.length → (xss.getD i []).length ≤ b) : ∀ k, k ≤ xss.length → tl xss k ≤ b * k
  | 0, _ => by rw [tl_zero]; omega
  | k + 1, hk => by
    have ih := tl_le h k (by omega)
    have := h k (by omega)
    rw [tl_succ (by omega), Nat.mul_add]
    omega
theorem tot_le {xss : List (List Int)} {b : Nat} (h : ∀ i, i < xss.length → (xss.getD i []).length ≤ b) : tot xss ≤ xss.length + b * xss.length := by
  have := tl_le h xss.length (Nat.le_refl _)
  unfold tot; omega
def gls (xss : List (List Int)) (ys : List Int) (k : Nat) : List Int := (List.range k).map (gpL xss ys)
theorem gls_len (xss : List (List Int)) (ys : List Int) (k : Nat) : (gls xss ys k).length = k := by simp [gls]
theorem gls_get (xss : List (List Int)) (ys : List Int) {k i : Nat} (h : i < k) : (gls xss ys k).getD i 0 = gpL xss ys i := by simp [gls, h]
theorem gls_succ (xss : List (List Int)) (ys : List Int) (k : Nat) : gls xss ys (k + 1) = gls xss ys k ++ [gpL xss ys k] := by simp [gls, List.range_succ]
theorem ncOk_of {xss : List (List Int)} {ys : List Int} (h : ncOk xss ys = true) : (1 ≤ ys.length ∧ ys.length ≤ 4) ∧ allB 0 255 ys = true ∧ palB xss ys.length = true ∧ 0 < xss.length ∧ xss.length ≤ 16 ∧ clN xss ys.length xss.length := by
  unfold ncOk at h
  rw [Bool.and_eq_true, Bool.and_eq_true, Bool.and_eq_true] at h
  obtain ⟨h1, h2, h3, h4⟩ := h
  have h1' := of_decide_eq_true h1
  have hp := palB_of h3
  refine ⟨by omega, h2, h3, ?_, hp.1, hp.2⟩
  rcases Nat.eq_zero_or_pos xss.length with e | e
  · rw [decide_eq_true e] at h4; simp at h4
  · exact e
theorem list_eq {xs ys : List Int} (hl : xs.length = ys.length) (h : ∀ j, j < xs.length → xs.getD j 0 = ys.getD j 0) : xs = ys := by
  apply List.ext_getElem hl
  intro j h1 h2
  have := h j h1
  simpa [List.getD_eq_getElem?_getD, h1, h2] using this
theorem nc_self {xss : List (List Int)} {P z : Nat} (hP : 1 ≤ P ∧ P ≤ 4) (h16 : xss.length ≤ 16) (hc : clN xss P xss.length) (hz : z < xss.length) :
    ncV xss (xss.getD z []) = (ncN xss (xss.getD z []) xss.length : Nat) ∧ ncN xss (xss.getD z []) xss.length < xss.length ∧ xss.getD (ncN xss (xss.getD z []) xss.length) [] = xss.getD z [] := by
  have hlz := (hc z hz).1
  have hok : ncOk xss (xss.getD z []) = true := by
    unfold ncOk
    have hp : palB xss ((xss.getD z []).length : Int) = true := by rw [hlz, palB_yes hc]; exact decide_eq_true h16
    rw [hp, (hc z hz).2, decide_eq_true (show 1 ≤ ((xss.getD z []).length : Int) ∧ ((xss.getD z []).length : Int) ≤ 4 by omega), decide_eq_false (show ¬ xss.length = 0 by omega)]
    rfl
  refine ⟨by unfold ncV; rw [if_pos hok], ncN_lt _ _ _ (by omega), ?_⟩
  have hlt := ncN_lt xss (xss.getD z []) xss.length (by omega)
  have hle := ncN_le xss (xss.getD z []) xss.length z hz
  have h0 : gpL xss (xss.getD z []) z = 0 := gapN_self _ _
  generalize ncN xss (xss.getD z []) xss.length = j at *
  have hlj := (hc j hlt).1
  have hge : 0 ≤ gpL xss (xss.getD z []) j := gapN_mono _ _ _
  have hz0 : gapN (xss.getD j []) (xss.getD z []) (xss.getD j []).length = 0 := by
    have : gpL xss (xss.getD z []) j = gapN (xss.getD j []) (xss.getD z []) (xss.getD j []).length := rfl
    omega
  exact list_eq (by omega) (gapN_zero hz0)
end Go.Proofs.Ytaejhodikpjeoaa
namespace Go.Proofs.Ytaejhodikpjeoaa
open Go.RowKit
set_option linter.unusedSimpArgs false
set_option linter.unusedVariables false
set_option maxRecDepth 20000

def pxk (P : Nat) (xs : List Int) (k : Nat) : List Int := (xs.drop (k * P)).take P
theorem pxk_len {P : Nat} {xs : List Int} {k : Nat} (h : k * P + P ≤ xs.length) : (pxk P xs k).length = P := by simp [pxk]; omega
theorem pxk_get {P : Nat} {xs : List Int} {k j : Nat} (h : j < P) : (pxk P xs k).getD j 0 = xs.getD (k * P + j) 0 := by
  unfold pxk
  simp [List.getD_eq_getElem?_getD, List.getElem?_take, List.getElem?_drop, h]
def acL (P : Nat) (xs : List Int) : Nat → List (List Int)
  | 0 => []
  | k + 1 => if pxk P xs k ∈ acL P xs k then acL P xs k else acL P xs k ++ [pxk P xs k]
theorem acL_len (P : Nat) (xs : List Int) : ∀ k, (acL P xs k).length ≤ k
  | 0 => Nat.le_refl _
  | k + 1 => by
    have ih := acL_len P xs k
    unfold acL
    split
    · omega
    · simp; omega
theorem acL_row {P : Nat} {xs : List Int} : ∀ {k : Nat}, k * P ≤ xs.length → ∀ ys ∈ acL P xs k, ∃ i, i < k ∧ ys = pxk P xs i
  | 0, _, ys, h => by simp [acL] at h
  | k + 1, hk, ys, h => by
    have hk' : k * P ≤ xs.length := by rw [Nat.add_mul] at hk; omega
    unfold acL at h
    split at h
    · obtain ⟨i, hi, e⟩ := acL_row hk' ys h
      exact ⟨i, by omega, e⟩
    · rcases List.mem_append.1 h with h | h
      · obtain ⟨i, hi, e⟩ := acL_row hk' ys h
        exact ⟨i, by omega, e⟩
      · simp at h
        exact ⟨k, by omega, h⟩
theorem acL_nodup (P : Nat) (xs : List Int) : ∀ k, (acL P xs k).Nodup
  | 0 => List.nodup_nil
  | k + 1 => by
    have ih := acL_nodup P xs k
    unfold acL
    split
    · exact ih
    · rename_i h
      refine List.nodup_append.2 ⟨ih, by simp, fun a ha b hb => ?_⟩
      simp at hb
      subst hb
      exact fun e => h (e ▸ ha)
theorem acL_mem {P : Nat} {xs : List Int} : ∀ {k j : Nat}, j < k → pxk P xs j ∈ acL P xs k
  | 0, j, h => by omega
  | k + 1, j, h => by
    unfold acL
    by_cases e : j = k
    · subst e
      split
      · assumption
      · simp
    · have ih := acL_mem (P := P) (xs := xs) (show j < k by omega)
      split
      · exact ih
      · exact List.mem_append.2 (.inl ih)
theorem acL_head {P : Nat} {xs : List Int} : ∀ {k : Nat}, 1 ≤ k → 1 ≤ (acL P xs k).length ∧ (acL P xs k).getD 0 [] = pxk P xs 0
  | 0, h => by omega
  | k + 1, h => by
    by_cases e : k = 0
    · subst e
      simp [acL]
    · obtain ⟨h1, h2⟩ := acL_head (P := P) (xs := xs) (show 1 ≤ k by omega)
      unfold acL
      split
      · exact ⟨h1, h2⟩
      · refine ⟨by simp, ?_⟩
        rw [← h2, List.getD_eq_getElem?_getD, List.getD_eq_getElem?_getD, List.getElem?_append_left (by omega)]
theorem Lss.base_le {w : World} {base base' : Nat} {v : Value} {xss : List (List Int)} (h : Lss w base v xss) (hb : base' ≤ base) : Lss w base' v xss := by
  obtain ⟨h1, cs, hO, hR⟩ := h
  refine ⟨Nat.le_trans hb h1, cs, ?_, fun i hi => ?_⟩
  · refine ⟨hO.1, ?_⟩
    rcases hO.2 with h2 | ⟨g, cap, cur, hv, hbg, r⟩
    · exact .inl h2
    · exact .inr ⟨g, cap, cur, hv, by omega, r⟩
  · obtain ⟨Ai, ci, k1, k2, k3, k4⟩ := hR i hi
    exact ⟨Ai, ci, k1, k2, k3, fun h0 a ha => ⟨Nat.le_trans hb (k4 h0 a ha).1, (k4 h0 a ha).2⟩⟩
end Go.Proofs.Ytaejhodikpjeoaa
namespace Go.Proofs.Ytaejhodikpjeoaa
open Go.RowKit Go.Shelf
set_option linter.unusedSimpArgs false
set_option linter.unusedVariables false

theorem GS.swapR {W0 w w' : World} {t : Rg} {L : List Rg} {Bs : List Bxg} (h : GS W0 w (t :: L) Bs) {E : TypeId} {C n lo hi : Nat} {v : Value} {cs : List Value} (hO : w'.ownsRow lo E C v n cs) (hv : ∀ g, v.ownBlock = some g → g < hi) (hb : (lo = t.lo ∧ hi = t.hi) ∨ (lo = w.heap.size ∧ hi = w'.heap.size)) (hg : w.grownBy w' t.v.ownBlock) :
    GS W0 w' (⟨lo, hi, E, C, v, n, cs⟩ :: L) Bs := by
  have hs := hg.size
  have ht := h.2.1 t (by simp)
  have hp := List.pairwise_cons.1 h.2.2.1
  have hlt := World.ownsRow.lt ht.1.1
  refine ⟨h.1.grown hg h.1.size (fun k hk => by have := (hlt k hk).1; have := ht.2.1; omega), ?_, ?_, ?_, h.2.2.2.2⟩
  · intro s hs'
    rcases List.mem_cons.1 hs' with rfl | hm
    · refine ⟨⟨hO, hv⟩, ?_, ?_⟩
      · have := ht.2.1; have := h.1.size; show W0.heap.size ≤ lo; omega
      · have := ht.2.2; show hi ≤ w'.heap.size; omega
    · have hs2 := h.2.1 s (by simp [hm])
      have hd := hp.1 s hm
      refine ⟨hs2.1.keep fun g h1 h2 => hg.block g (by omega) (fun e => ?_), hs2.2.1, by omega⟩
      have h3 := (hlt g e.symm).1
      have h4 := ht.1.2 g e.symm
      unfold Rg.apart at hd
      omega
  · refine List.pairwise_cons.2 ⟨fun a ha => ?_, hp.2⟩
    have h1 := hp.1 a ha
    have h2 := (h.2.1 a (by simp [ha])).2.2
    unfold Rg.apart at h1 ⊢
    show a.hi ≤ lo ∨ hi ≤ a.lo
    omega
  · intro b hm
    have hb2 := h.2.2.2.1 b hm
    have hbl := hb2.1.lt
    refine ⟨(hg.block b.g hb2.1.lt (fun e => ?_)).trans hb2.1, hb2.2.1, fun s hs' => ?_⟩
    · have h1 := hb2.2.2 t (by simp)
      have h3 := (hlt b.g e.symm).1
      have h4 := ht.1.2 b.g e.symm
      omega
    · rcases List.mem_cons.1 hs' with rfl | hm
      · have h1 := hb2.2.2 t (by simp)
        show hi ≤ b.g ∨ b.g < lo
        omega
      · exact hb2.2.2 s (by simp [hm])
theorem ownsRow_base {w : World} {base base' : Nat} {E : TypeId} {C n : Nat} {v : Value} {cs : List Value} (h : w.ownsRow base E C v n cs) (hb : base' ≤ base) : w.ownsRow base' E C v n cs := by
  refine ⟨h.1, ?_⟩
  rcases h.2 with h2 | ⟨g, cap, cur, hv, hbg, r⟩
  · exact .inl h2
  · exact .inr ⟨g, cap, cur, hv, by omega, r⟩
theorem ownsRow_up {w : World} {base base' : Nat} {E : TypeId} {C n : Nat} {v : Value} {cs : List Value} (h : w.ownsRow base E C v n cs) (hb : ∀ g, v.ownBlock = some g → base' ≤ g) : w.ownsRow base' E C v n cs := by
  refine ⟨h.1, ?_⟩
  rcases h.2 with h2 | ⟨g, cap, cur, hv, hbg, r⟩
  · exact .inl h2
  · exact .inr ⟨g, cap, cur, hv, hb g (by rw [hv]; rfl), r⟩
def LsG (W0 w : World) (v : Value) (xss : List (List Int)) (Bs : List Bxg) (d : Nat) : Prop :=
  ∃ M A c, v = .slice A xss.length c ∧ xss.length ≤ c ∧ LsM M A c xss ∧ GS W0 w M Bs ∧ ∀ t ∈ M, d ≤ t.lo
theorem LsG.nil {W0 w : World} {Bs : List Bxg} {d : Nat} (h : GS W0 w [] Bs) (hd : d ≤ w.heap.size) : LsG W0 w (.slice .none 0 0) [] Bs d := by
  refine ⟨[hdr w.heap.size w.heap.size .none 0 0 []], .none, 0, rfl, Nat.le_refl _, ⟨w.heap.size, w.heap.size, [], [], rfl, rfl, fun i hi => by simp at hi⟩, ⟨h.1, ?_, List.pairwise_singleton _ _, ?_, h.2.2.2.2⟩, fun t ht => by obtain rfl : t = _ := List.mem_singleton.1 ht; exact hd⟩
  · intro t ht
    obtain rfl : t = _ := List.mem_singleton.1 ht
    exact ⟨⟨World.ownsRow_nil _ _ _ _, fun g hg => by simp [hdr, Value.ownBlock] at hg⟩, h.1.size, Nat.le_refl _⟩
  · intro b hm
    refine ⟨(h.2.2.2.1 b hm).1, (h.2.2.2.1 b hm).2.1, fun t ht => ?_⟩
    obtain rfl : t = _ := List.mem_singleton.1 ht
    exact .inr (h.2.2.2.1 b hm).1.lt
theorem LsG.none {W0 w : World} {Bs : List Bxg} {d : Nat} (h : GS W0 w [] Bs) (hd : d ≤ w.heap.size) : LsG W0 (w.alloc (.cells #[] 22)) (.slice (some ⟨w.heap.size, 0, .none⟩) 0 0) [] Bs d :=
  ⟨[hdr w.heap.size (w.alloc (.cells #[] 22)).heap.size (some ⟨w.heap.size, 0, .none⟩) 0 0 []], _, 0, rfl, Nat.le_refl _, ⟨_, _, [], [], rfl, rfl, fun i hi => by simp at hi⟩,
    h.addR (World.ownsRow_made w #[] 0 (Nat.le_refl _) (Nat.zero_le _) (by simp)) ((Below.refl _ _).alloc (Nat.le_refl _) _), fun t ht => by obtain rfl : t = _ := List.mem_singleton.1 ht; exact hd⟩
section
variable {W0 w w' : World} {v : Value} {xss : List (List Int)} {Bs : List Bxg} {d : Nat}
theorem LsG.slice (h : LsG W0 w v xss Bs d) : ∃ A c, v = .slice A xss.length c ∧ xss.length ≤ c := by
  obtain ⟨M, A, c, h1, h2, _⟩ := h
  exact ⟨A, c, h1, h2⟩
theorem LsG.rdss {A : Option Addr} {n c : Nat} (h : LsG W0 w (.slice A n c) xss Bs d) : Rdss w w.heap.size A xss := by
  obtain ⟨M, A', c', h1, h2, h3, h4, h5⟩ := h
  simp only [Value.slice.injEq] at h1
  obtain ⟨rfl, _, _⟩ := h1
  exact LsM.rds h4 h3 (fun t ht => ht)
theorem LsG.call (h : LsG W0 w v xss Bs d) (hB : Below w.heap.size w w') : LsG W0 w' v xss Bs d := by
  obtain ⟨M, A, c, h1, h2, h3, h4, h5⟩ := h
  exact ⟨M, A, c, h1, h2, h3, h4.call hB, h5⟩
theorem LsG.box (h : LsG W0 w v xss Bs d) (T : TypeId) (cs : Array Value) (g : Nat) (hg : g = w.heap.size) : LsG W0 (w.alloc (.cells cs T)) v xss (⟨g, T, cs⟩ :: Bs) d := by
  obtain ⟨M, A, c, h1, h2, h3, h4, h5⟩ := h
  exact ⟨M, A, c, h1, h2, h3, h4.box' T cs g hg, h5⟩
theorem LsG.below (h : LsG W0 w v xss Bs d) : Below W0.heap.size W0 w := by
  obtain ⟨M, A, c, h1, h2, h3, h4, h5⟩ := h
  exact h4.below
theorem LsG.bx (h : LsG W0 w v xss Bs d) {g : Nat} {T : TypeId} {cs : Array Value} (hm : ⟨g, T, cs⟩ ∈ Bs) : Bx w g T cs := by
  obtain ⟨M, A, c, h1, h2, h3, h4, h5⟩ := h
  exact h4.bx hm
theorem LsG.drop (h : LsG W0 w v xss Bs d) : LsG W0 w v xss [] d := by
  obtain ⟨M, A, c, h1, h2, h3, h4, h5⟩ := h
  exact ⟨M, A, c, h1, h2, h3, ⟨h4.1, h4.2.1, h4.2.2.1, by simp, .nil⟩, h5⟩
theorem LsG.other {b : Bxg} (h : LsG W0 w v xss (b :: Bs) d) : LsG W0 w v xss Bs d := by
  obtain ⟨M, A, c, h1, h2, h3, h4, h5⟩ := h
  exact ⟨M, A, c, h1, h2, h3, ⟨h4.1, h4.2.1, h4.2.2.1, fun b hm => h4.2.2.2.1 b (by simp [hm]), (List.pairwise_cons.1 h4.2.2.2.2).2⟩, h5⟩
theorem LsG.own (h : LsG W0 w v xss Bs d) : ∀ g, v.ownBlock = some g → d ≤ g ∧ W0.heap.size ≤ g ∧ g < w.heap.size := by
  obtain ⟨M, A, c, rfl, h2, ⟨lo, hi, cs, R, rfl, _⟩, h4, hd⟩ := h
  intro g hg
  have ht := h4.2.1 _ (List.mem_cons_self ..)
  have h5 := World.ownsRow.lt ht.1.1 g hg
  have := ht.2.1
  have := hd _ (List.mem_cons_self ..)
  simp only [hdr] at *
  omega
theorem GS.off {L : List Rg} (h : GS W0 w L Bs) {mb : Nat} (hG : w.grownBy w' (some mb)) (h0 : W0.heap.size ≤ mb) (hL : ∀ t ∈ L, mb < t.lo) (hB : ∀ b ∈ Bs, b.g ≠ mb) : GS W0 w' L Bs :=
  ⟨h.1.grown hG h.1.size (fun k hk => by injection hk with hk; omega), fun t ht => ⟨(h.2.1 t ht).1.keep fun g h1 h2 => hG.block g (by have := (h.2.1 t ht).2.2; omega) (fun e => by injection e with e; have := hL t ht; omega), (h.2.1 t ht).2.1, Nat.le_trans (h.2.1 t ht).2.2 hG.size⟩, h.2.2.1,
    fun b hm => ⟨(hG.block b.g (h.2.2.2.1 b hm).1.lt (fun e => by injection e with e; exact hB b hm e)).trans (h.2.2.2.1 b hm).1, (h.2.2.2.1 b hm).2⟩, h.2.2.2.2⟩
theorem LsG.off (h : LsG W0 w v xss Bs d) {mb : Nat} (hG : w.grownBy w' (some mb)) (h0 : W0.heap.size ≤ mb) (hd : mb < d) (hB : ∀ b ∈ Bs, b.g ≠ mb) : LsG W0 w' v xss Bs d := by
  obtain ⟨M, A, c, h1, h2, h3, h4, h5⟩ := h
  exact ⟨M, A, c, h1, h2, h3, h4.off hG h0 (fun t ht => Nat.lt_of_lt_of_le hd (h5 t ht)) hB, h5⟩
theorem wp_appG {o : Oper} {a : Act} {K : Act → World → Prop} {Q : Exit → Act → World → Prop} (s x : Operand)
    (ho : o.op = .call { callee := .builtin .append, args := #[s, x], argTypes := #[34, 34] })
    (W0 : World) (M : List Rg) (Bs : List Bxg) (A : Option Addr) (c0 : Nat) (xss : List (List Int)) (hs : a.eval s = .slice A xss.length c0) (hM : LsM M A c0 xss)
    (p c lo hh : Nat) (E : TypeId) (A3 : Option Addr) (ys : List Int) (n3 c3 c3' : Nat) (hG : GS W0 w (rt E 1 lo hh (.slice A3 n3 c3') n3 ys :: M) Bs) (hx : a.eval x = .slice (some ⟨p, 0, .none⟩) 1 c) (hn3 : n3 = ys.length) (hcell : w.cell? ⟨p, 0, .none⟩ = some (.slice A3 n3 c3)) (hys : ys.length ≤ c3) (hn : xss.length ≤ 1000) (hd : ∀ t ∈ M, d ≤ t.lo) (hdl : d ≤ lo) (hlo : lo ≤ w.heap.size)
    (h : ∀ v' w', LsG W0 w' v' (xss ++ [ys]) Bs d → w.grownBy w' (Value.slice A xss.length c0).ownBlock → K (a.put o.dst v') w') : o.wp Try.prog a w K Q := by
  subst hn3
  obtain ⟨lo1, hi1, cs, R, rfl, hRl, hR⟩ := hM
  have hG2 : GS W0 w (hdr lo1 hi1 A xss.length c0 cs :: rt E 1 lo hh (.slice A3 ys.length c3') ys.length ys :: R) Bs := hG.perm (List.Perm.swap _ _ _)
  have ht := hG2.2.1 _ (List.mem_cons_self ..)
  have hown0 : w.ownsRow lo1 22 1 (.slice A xss.length c0) xss.length cs := ht.1.1
  have hown : w.ownsRow W0.heap.size 22 1 (.slice A xss.length c0) xss.length cs := ownsRow_base hown0 ht.2.1
  have hbase : W0.heap.size ≤ w.heap.size := hG2.1.size
  obtain ⟨i, hi, hz, hsz, hb⟩ := info_parts info_list
  have hnews : ∀ j u, [Value.slice A3 ys.length c3][j]? = some u → w.cell? ((⟨p, 0, .none⟩ : Addr).add j) = some u := by
    intro j u hu
    match j with
    | 0 => simp at hu; subst hu; simpa [Addr.add] using hcell
    | j + 1 => simp at hu
  have h1 : ∀ u ∈ [Value.slice A3 ys.length c3], u.oneCell' = true := by intro u hu; simp at hu; subst hu; rfl
  obtain ⟨v', w', hrun, h2, h3, h4⟩ := run_append_own (P := Try.prog) w W0.heap.size 34 o.type 22 i _ 1 24 Try.underlying34 hi hz hsz hb rfl (by omega) (.slice A xss.length c0) xss.length cs hown ⟨p, 0, .none⟩ 1 c [.slice A3 ys.length c3] (by simp) hnews h1 (by unfold maxLen; omega) (by omega) hbase
  have hwh : (∀ g, v'.ownBlock = some g → (Value.slice A xss.length c0).ownBlock = some g) ∨ (∀ g, v'.ownBlock = some g → w.heap.size ≤ g) := by
    rcases hown.2 with ⟨hv, h0⟩ | ⟨g0, cap, cur, hv, hbg, hg, hnc, hcm, hcs, htake⟩
    · simp only [Value.slice.injEq] at hv
      obtain ⟨rfl, _, rfl⟩ := hv
      have hx0 : cs = [] := List.eq_nil_of_length_eq_zero (by have := hown.1; omega)
      subst hx0
      obtain ⟨v2, w2, hr2, h22, _⟩ := run_append_own (P := Try.prog) w w.heap.size 34 o.type 22 i _ 1 24 Try.underlying34 hi hz hsz hb rfl (by omega) (.slice .none 0 0) 0 [] (World.ownsRow_nil _ _ _ _) ⟨p, 0, .none⟩ 1 c [.slice A3 ys.length c3] (by simp) hnews h1 (by unfold maxLen; omega) (by omega) (Nat.le_refl _)
      rw [h0] at hrun
      rw [hrun] at hr2
      injection hr2 with e1 e2
      subst e1
      right
      intro g hg
      exact (World.ownsRow.lt h22 g hg).1
    · simp only [Value.slice.injEq] at hv
      obtain ⟨rfl, _, rfl⟩ := hv
      by_cases hroom : xss.length + 1 ≤ c0
      · have hr2 := run_append_room (P := Try.prog) w 34 o.type 22 i Try.underlying34 hi g0 xss.length c0 cur hg ⟨p, 0, .none⟩ 1 c [.slice A3 ys.length c3] (by simp [hsz]) hnews h1 hroom (by rw [hsz, hcs]; simp; omega)
        rw [hrun] at hr2
        injection hr2 with e1 e2
        subst e1
        exact .inl fun g hg => hg
      · have hr2 := run_append_grow (P := Try.prog) w 34 o.type 22 i _ Try.underlying34 hi hz ⟨g0, 0, .none⟩ xss.length c0 cs (by rw [hsz]; exact hown.1) (World.ownsRow.cells hown (g := g0) rfl) ⟨p, 0, .none⟩ 1 c [.slice A3 ys.length c3] (by simp [hsz]) hnews (by omega) (by omega) (growslice_fits (by omega) (by rw [hb]; omega))
        rw [hrun] at hr2
        injection hr2 with e1 e2
        subst e1
        right
        intro g hg'
        simp [Value.ownBlock] at hg'
        omega
  have hlen : cs.length = xss.length := by have := hown.1; omega
  have hLn : LsG W0 w' v' (xss ++ [ys]) Bs d := by
    have hd1 : d ≤ lo1 := hd _ (List.mem_cons_self ..)
    have hsl : ∃ A' c', v' = .slice A' (xss.length + 1) c' ∧ xss.length + 1 ≤ c' := by
      rcases h2.2 with ⟨_, h0⟩ | ⟨g, cap, cur, hv, _, _, hnc, _⟩
      · simp at h0
      · exact ⟨_, cap, by simpa using hv, by simpa using hnc⟩
    obtain ⟨A', c', rfl, hc'⟩ := hsl
    have hst : ∃ lo2 hi2, w'.ownsRow lo2 22 1 (.slice A' (xss.length + 1) c') (xss.length + 1) (cs ++ [.slice A3 ys.length c3]) ∧ (∀ g, (Value.slice A' (xss.length + 1) c').ownBlock = some g → g < hi2) ∧ ((lo2 = lo1 ∧ hi2 = hi1) ∨ (lo2 = w.heap.size ∧ hi2 = w'.heap.size)) := by
      rcases hwh with hw | hw
      · exact ⟨lo1, hi1, ownsRow_up (by simpa using h2) (fun g hg => (World.ownsRow.lt hown0 g (hw g hg)).1), fun g hg => ht.1.2 g (hw g hg), .inl ⟨rfl, rfl⟩⟩
      · exact ⟨w.heap.size, w'.heap.size, ownsRow_up (by simpa using h2) hw, fun g hg => (World.ownsRow.lt h2 g hg).2, .inr ⟨rfl, rfl⟩⟩
    obtain ⟨lo2, hi2, hO2, hh2, hor⟩ := hst
    have hS := GS.swapR hG2 hO2 hh2 hor h3
    have e0 : (xss ++ [ys]).length = xss.length + 1 := by simp
    refine ⟨hdr lo2 hi2 A' (xss.length + 1) c' (cs ++ [.slice A3 ys.length c3]) :: (R ++ [rt E 1 lo hh (.slice A3 ys.length c3') ys.length ys]), A', c', by rw [e0], by rw [e0]; exact hc', ⟨lo2, hi2, _, _, by rw [e0], by simp [hRl], fun j hj => ?_⟩, ?_, fun t ht => ?_⟩
    · by_cases e : j = xss.length
      · subst e
        have e1 : (xss ++ [ys]).getD xss.length [] = ys := by simp [List.getD_eq_getElem?_getD]
        rw [e1]
        exact ⟨E, lo, hh, A3, c3, c3', hys, by rw [← hlen, List.getElem?_append_right (Nat.le_refl _), Nat.sub_self]; rfl, by rw [← hRl, List.getElem?_append_right (Nat.le_refl _), Nat.sub_self]; rfl⟩
      · have hj2 : j < xss.length := by simp at hj; omega
        have e1 : (xss ++ [ys]).getD j [] = xss.getD j [] := by simp [List.getD_eq_getElem?_getD, List.getElem?_append_left hj2]
        rw [e1]
        obtain ⟨Ej, lj, hj', Aj, cj, cj', k1, k2, k3⟩ := hR j hj2
        exact ⟨Ej, lj, hj', Aj, cj, cj', k1, by rw [List.getElem?_append_left (by omega)]; exact k2, by rw [List.getElem?_append_left (by omega)]; exact k3⟩
    · exact hS.perm (List.Perm.cons _ (List.perm_append_singleton _ _).symm)
    · rcases List.mem_cons.1 ht with rfl | ht
      · show d ≤ lo2
        omega
      · rcases List.mem_append.1 ht with ht | ht
        · exact hd _ (List.mem_cons_of_mem _ ht)
        · obtain rfl : t = _ := List.mem_singleton.1 ht
          exact hdl
  unfold Oper.wp execOp
  simp only [ho, resolve, invoke, builtin, Sem.run_bind, Sem.run_pure, Result.andThen_ok, List.map_toArray, List.map_cons, List.map_nil, hs, hx, hrun]
  exact h v' w' hLn h3
theorem wpList_appG {ops : Array Oper} {rest : List Oper} {o : Oper} {a : Act} {Q : Exit → Act → World → Prop} (hgd : o.guard = .none) (s x : Operand)
    (ho : o.op = .call { callee := .builtin .append, args := #[s, x], argTypes := #[34, 34] })
    (W0 : World) (M : List Rg) (Bs : List Bxg) (A : Option Addr) (c0 : Nat) (xss : List (List Int)) (hs : a.eval s = .slice A xss.length c0) (hM : LsM M A c0 xss)
    (p c lo hh : Nat) (E : TypeId) (A3 : Option Addr) (ys : List Int) (n3 c3 c3' : Nat) (hG : GS W0 w (rt E 1 lo hh (.slice A3 n3 c3') n3 ys :: M) Bs) (hx : a.eval x = .slice (some ⟨p, 0, .none⟩) 1 c) (hn3 : n3 = ys.length) (hcell : w.cell? ⟨p, 0, .none⟩ = some (.slice A3 n3 c3)) (hys : ys.length ≤ c3) (hn : xss.length ≤ 1000) (hd : ∀ t ∈ M, d ≤ t.lo) (hdl : d ≤ lo) (hlo : lo ≤ w.heap.size)
    (h : ∀ v' w', LsG W0 w' v' (xss ++ [ys]) Bs d → w.grownBy w' (Value.slice A xss.length c0).ownBlock → wpList Try.prog ops Q rest (a.put o.dst v') w') : wpList Try.prog ops Q (o :: rest) a w :=
  wpList_plain hgd fun _ hK => wp_appG s x ho W0 M Bs A c0 xss hs hM p c lo hh E A3 ys n3 c3 c3' hG hx hn3 hcell hys hn hd hdl hlo fun v' w' h1 h2 => hK _ _ (h v' w' h1 h2)
end
end Go.Proofs.Ytaejhodikpjeoaa
namespace Go.Proofs.Ytaejhodikpjeoaa
open Go.RowKit
set_option linter.unusedSimpArgs false
set_option linter.unusedVariables false
set_option maxRecDepth 20000

theorem GS.tailR {W0 w : World} {t : Rg} {L : List Rg} {Bs : List Bxg} (h : GS W0 w (t :: L) Bs) : GS W0 w L Bs :=
  ⟨h.1, fun s hs => h.2.1 s (by simp [hs]), (List.pairwise_cons.1 h.2.2.1).2, fun b hm => ⟨(h.2.2.2.1 b hm).1, (h.2.2.2.1 b hm).2.1, fun s hs => (h.2.2.2.1 b hm).2.2 s (by simp [hs])⟩, h.2.2.2.2⟩
def palOk (W H P : Int) (xs : List Int) : Bool := vim W H P xs && decide ((acL P.toNat xs (W.toNat * H.toNat)).length ≤ 16)
def palL (W H P : Int) (xs : List Int) : List (List Int) := cond (palOk W H P xs) (acL P.toNat xs (W.toNat * H.toNat)) []
def PalM (W H P : Int) (xs : List Int) (w : World) (e : Ending) (w' : World) : Prop :=
  ∃ M A c, e = .returned (.tuple #[.slice A (palL W H P xs).length c, .bool (palOk W H P xs)]) ∧ (palL W H P xs).length ≤ c ∧ LsM M A c (palL W H P xs) ∧ GS w w' M []
theorem PalM.mk {W H P : Int} {xs : List Int} {w w' : World} {v : Value} {yss : List (List Int)} {ok : Bool} (h : LsG w w' v yss [] 0) (h1 : palL W H P xs = yss) (h2 : palOk W H P xs = ok) : PalM W H P xs w (.returned (.tuple #[v, .bool ok])) w' := by
  obtain ⟨M, A, c, rfl, hc, hM, hG, _⟩ := h
  unfold PalM
  rw [h1, h2]
  exact ⟨M, A, c, rfl, hc, hM, hG⟩
theorem LsG.below' {W0 w : World} {Bs : List Bxg} (hB : Below W0.heap.size W0 w) : LsG W0 w (.slice .none 0 0) [] [] 0 := LsG.nil ⟨hB, by simp, .nil, by simp, .nil⟩ (Nat.zero_le _)
theorem LsG.from {W0 w w' : World} {v : Value} {xss : List (List Int)} (hB : Below W0.heap.size W0 w) (h : LsG w w' v xss [] 0) : LsG W0 w' v xss [] 0 := by
  obtain ⟨M, A, c, h1, h2, h3, h4, h5⟩ := h
  have hs := hB.size
  exact ⟨M, A, c, h1, h2, h3, ⟨hB.trans (h4.1.mono hs), fun t ht => ⟨(h4.2.1 t ht).1, by have := (h4.2.1 t ht).2.1; omega, (h4.2.1 t ht).2.2⟩, h4.2.2.1, by simp, .nil⟩, h5⟩
end Go.Proofs.Ytaejhodikpjeoaa
namespace Go.Proofs.Ytaejhodikpjeoaa
open Go.RowKit Go.WideMaps Go.WideElems Go.Maps
set_option linter.unusedSimpArgs false
set_option linter.unusedVariables false

theorem colLaid : laidOutB Try.prog = true := by kernel_rfl
theorem colRow : (62 : TypeId) < Try.prog.types.size := of_decide_eq_true (by kernel_rfl)
theorem colCells : Try.prog.cellsOf 62 = 4 := by kernel_rfl
theorem colArr : ArrKey Try.prog 62 3 4 := ⟨Try.underlying62, by kernel_rfl, by kernel_rfl, colCells⟩
theorem colWide : (match Try.prog.underlying 62 with | some (.array _ _) | some (.struct _) => true | _ => false) = true := by rw [Try.underlying62]
set_option maxRecDepth 100000 in
theorem colKeyed : Keyed Try.prog 62 := Keyed.of_law (deep_law_laid colLaid (m := 2) (by omega) colRow (by kernel_rfl) colWide)
theorem colSize : ∃ m, Try.prog.types.size = m + 1 := ⟨_, (Nat.succ_pred_eq_of_pos (Nat.lt_of_le_of_lt (Nat.zero_le _) colRow)).symm⟩
theorem keyOf_four {P : Program} {k e : TypeId} {q : IntKind} (A : ArrKey P k e 4) (he : P.underlying e = some (.int q)) (hsz : ∃ m, P.types.size = m + 1) {a b c d : Int} (wa : (Lit.int q a).wf = true) (wb : (Lit.int q b).wf = true) (wc : (Lit.int q c).wf = true) (wd : (Lit.int q d).wf = true) :
    keyOf P k (.agg #[.int q a, .int q b, .int q c, .int q d]) = some (.string (keyBytes [.int q a, .int q b, .int q c, .int q d])) := by
  have hkt := A.keyType hsz
  obtain ⟨m, hm⟩ := hsz
  unfold keyOf
  simp only [A.hu]
  rw [if_pos (by simp [hkt, Value.formed, A.hu, A.size]), hm]
  unfold Program.keyLits
  simp only [A.hu, Value.cells]
  rw [if_pos (by rw [A.size]; rfl), show List.range 4 = [0, 1, 2, 3] from rfl, List.mapM_cons, List.mapM_cons, List.mapM_cons, List.mapM_cons, List.mapM_nil]
  simp [A.one, Program.keyLits, he, wa, wb, wc, wd]
def ckl (ys : List Int) : Lit := .string (keyBytes [.int .i64 (ys.getD 0 0), .int .i64 (ys.getD 1 0), .int .i64 (ys.getD 2 0), .int .i64 (ys.getD 3 0)])
theorem wf_byte {n : Int} (h : 0 ≤ n ∧ n ≤ 255) : (Lit.int .i64 n).wf = true := by
  have h : -1000 ≤ n ∧ n ≤ 1000 := by omega
  simp only [Lit.wf, Bool.and_eq_true, decide_eq_true_eq]
  exact ⟨by show -9223372036854775808 ≤ n; omega, by show n ≤ 9223372036854775807; omega⟩
theorem keyOf_col {ys : List Int} (h : allB 0 255 ys = true) : keyOf Try.prog 62 (colV (fun p => ys.getD p 0)) = some (ckl ys) :=
  keyOf_four colArr Try.underlying3 colSize (wf_byte (byte_all h 0)) (wf_byte (byte_all h 1)) (wf_byte (byte_all h 2)) (wf_byte (byte_all h 3))
theorem ckl_inj {P : Nat} {xs ys : List Int} (hP : P ≤ 4) (hx : xs.length = P) (hy : ys.length = P) (bx : allB 0 255 xs = true) (by' : allB 0 255 ys = true) (h : ckl xs = ckl ys) : xs = ys := by
  have e := colKeyed.inj (keyOf_col bx) (h ▸ keyOf_col by')
  unfold colV at e
  simp only [Value.agg.injEq] at e
  have e0 := congrArg (fun a : Array Value => a.toList) e
  simp at e0
  obtain ⟨e0, e1, e2, e3⟩ := e0
  refine List.ext_getElem (by omega) fun j h1 h2 => ?_
  have g : ∀ j, j < 4 → xs.getD j 0 = ys.getD j 0 := by
    intro j hj
    match j, hj with
    | 0, _ => simpa [List.getD_eq_getElem?_getD] using e0
    | 1, _ => simpa [List.getD_eq_getElem?_getD] using e1
    | 2, _ => simpa [List.getD_eq_getElem?_getD] using e2
    | 3, _ => simpa [List.getD_eq_getElem?_getD] using e3
  have := g j (by omega)
  simpa [List.getD_eq_getElem?_getD, h1, h2] using this
end Go.Proofs.Ytaejhodikpjeoaa
namespace Go.Proofs.Ytaejhodikpjeoaa
open Go.RowKit Go.WideMaps Go.WideElems Go.Maps
set_option linter.unusedSimpArgs false
set_option linter.unusedVariables false

theorem plainElem_bool_inv {H : Type} {P : Program} {e : TypeId} (he : P.underlying e = some .bool) {v : Value} {z : DataW H × List MemPlace} (h : plainElem P e v = some z) : ∃ a, v = .bool a ∧ z = (.lit (.bool a), []) := by
  unfold plainElem at h
  rw [he] at h
  cases v <;> simp at h
  subst h
  exact ⟨_, rfl, rfl⟩
def MpB (w : World) (b n P : Nat) (L : List (List Int)) : Prop :=
  ∃ D : DataW Unit, IsMap D ∧ w.ownsMap Try.prog 62 (plainElem Try.prog 4) b n D ∧ ∀ ys : List Int, ys.length = P → allB 0 255 ys = true → (ys ∉ L → ∀ z, D.atKey (ckl ys) z = z) ∧ (ys ∈ L → ∀ z, D.atKey (ckl ys) z = .lit (.bool true))
theorem MpB.made (w : World) (P : Nat) : MpB (w.alloc (.map #[] 0)) w.heap.size 0 P [] :=
  ⟨.map [], isMap_empty, World.ownsMap_made w Try.prog 62 _, fun ys _ _ => ⟨fun _ z => atKey_of_not_has (by simp [has_eq]) z, fun h => by simp at h⟩⟩
theorem MpB.kept {w w' : World} {b n P : Nat} {L : List (List Int)} (h : MpB w b n P L) (hk : w'.heap[b]? = w.heap[b]?) : MpB w' b n P L := by
  obtain ⟨D, h1, ⟨es, clock, hb, r⟩, h3⟩ := h
  exact ⟨D, h1, ⟨es, clock, hk.trans hb, r⟩, h3⟩
theorem MpB.mono {w : World} {b n P : Nat} {L : List (List Int)} (h : MpB w b n P L) {m : Nat} (hm : n ≤ m) : MpB w b m P L := by
  obtain ⟨D, h1, h2, h3⟩ := h
  exact ⟨D, h1, h2.mono hm, h3⟩
theorem MpB.lt {w : World} {b n P : Nat} {L : List (List Int)} (h : MpB w b n P L) : b < w.heap.size := by
  obtain ⟨D, h1, h2, h3⟩ := h
  exact h2.lt
theorem MpB.below {w w' : World} {b n P : Nat} {L : List (List Int)} (h : MpB w b n P L) (hB : Below w.heap.size w w') : MpB w' b n P L := h.kept (hB.block b h.lt)
theorem mpb_zero (w : World) : (zeroValue 4).run Try.prog w = .ok (.bool false) w := by kernel_rfl
theorem MpB.get {w : World} {b n P : Nat} {L : List (List Int)} (h : MpB w b n P L) {ys : List Int} (hl : ys.length = P) (hy : allB 0 255 ys = true) :
    (Instr.lookup 56 (.map (some b)) (colV (fun p => ys.getD p 0)) false).run Try.prog w = .ok (.bool (decide (ys ∈ L))) w := by
  obtain ⟨D, h1, ⟨es, clock, hb, F, hs, rfl⟩, h3⟩ := h
  have h4 := h3 ys hl hy
  rcases fit_look false colKeyed Try.underlying56 (mpb_zero w) hb F (keyOf_col hy) with ⟨hrun, _, hat⟩ | ⟨e0, y, _, _, hrun, hR, hat, _⟩
  · by_cases hm : ys ∈ L
    · have a1 := (hat .nil).symm.trans (h4.2 hm .nil)
      simp at a1
    · rw [hrun, decide_eq_false hm]; rfl
  · obtain ⟨c, hv, hz⟩ := plainElem_bool_inv Try.underlying4 hR
    by_cases hm : ys ∈ L
    · have a1 := (hat .nil).symm.trans (h4.2 hm .nil)
      rw [hz] at a1
      simp at a1
      rw [hrun, hv, a1, decide_eq_true hm]
      rfl
    · have a1 := (hat (.lit (.int .i64 0))).symm.trans (h4.1 hm _)
      rw [hz] at a1
      simp at a1
theorem MpB.store {w : World} {b n P : Nat} {L : List (List Int)} (hP : P ≤ 4) (h : MpB w b n P L) {ys : List Int} (hl : ys.length = P) (hy : allB 0 255 ys = true) (hn : n < maxLen) :
    ∃ w', (Instr.mapUpdate 56 (.map (some b)) (colV (fun p => ys.getD p 0)) (.bool true)).run Try.prog w = .ok () w' ∧ MpB w' b (n + 1) P (L ++ [ys]) ∧ w.grownBy w' (some b) := by
  obtain ⟨D, h1, h2, h3⟩ := h
  obtain ⟨w', hrun, ho, hg⟩ := h2.update colKeyed Try.underlying56 hn (keyOf_col hy) (plainElem_bool Try.underlying4 true)
  refine ⟨w', hrun, ⟨D.put (ckl ys) (.lit (.bool true)), h1.put _ _, ho, fun zs hz hzb => ?_⟩, hg⟩
  by_cases e : ckl zs = ckl ys
  · have := ckl_inj hP hz hl hzb hy e
    subst this
    exact ⟨fun hn => absurd (by simp) hn, fun _ z => atKey_put_same h1 (colKeyed.key (keyOf_col hy)) _ z⟩
  · have hne : zs ≠ ys := fun h => e (by rw [h])
    have h4 := h3 zs hz hzb
    refine ⟨fun hn z => (atKey_put_other e _ z).trans (h4.1 (fun h => hn (by simp [h])) z), fun hm z => (atKey_put_other e _ z).trans (h4.2 ?_ z)⟩
    rcases List.mem_append.1 hm with h | h
    · exact h
    · simp at h; exact absurd h hne
end Go.Proofs.Ytaejhodikpjeoaa
namespace Go.Proofs.Ytaejhodikpjeoaa
open Go.RowKit Go.Shelf
set_option linter.unusedSimpArgs false
set_option linter.unusedVariables false
set_option maxRecDepth 20000

theorem pxk_pxl {W P k : Nat} {xs : List Int} (h : k * P + P ≤ xs.length) : pxl W P xs (k % W) (k / W) = pxk P xs k := by
  have e : k / W * W + k % W = k := Nat.div_add_mod' k W
  refine List.ext_getElem (by rw [pxl_len, pxk_len h]) fun j h1 h2 => ?_
  rw [pxl_len] at h1
  have h3 := pxl_get W P xs (k % W) (k / W) j h1
  have h4 := pxk_get (xs := xs) (k := k) h1
  unfold px pix at h3
  rw [e] at h3
  have h5 := h3.trans h4.symm
  simpa [List.getD_eq_getElem?_getD, h1, h2, pxl_len] using h5
theorem acL_mono {P : Nat} {xs : List Int} {k n : Nat} (h : k ≤ n) : (acL P xs k).length ≤ (acL P xs n).length := by
  induction n with
  | zero => rw [show k = 0 by omega]; exact Nat.le_refl _
  | succ n ih =>
    rcases Nat.lt_or_ge k (n + 1) with h1 | h1
    · refine Nat.le_trans (ih (by omega)) ?_
      show _ ≤ (if pxk P xs n ∈ acL P xs n then acL P xs n else acL P xs n ++ [pxk P xs n]).length
      split
      · exact Nat.le_refl _
      · simp
    · rw [show k = n + 1 by omega]; exact Nat.le_refl _
theorem pal_cells {w : World} {b W H P : Nat} {xs : List Int} (hc : ∀ j, j < (img W H 4 (pxc W P xs)).length → w.cell? ⟨b, 0 + j, none⟩ = some (.int .i64 ((img W H 4 (pxc W P xs)).getD j 0))) {k : Nat} (hk : k < W * H) (hl : xs.length = W * H * P) :
    w.cell? ⟨b, k * 4, none⟩ = some (.int .i64 ((pxk P xs k).getD 0 0)) ∧ w.cell? ⟨b, k * 4 + 1, none⟩ = some (.int .i64 ((pxk P xs k).getD 1 0)) ∧ w.cell? ⟨b, k * 4 + 2, none⟩ = some (.int .i64 ((pxk P xs k).getD 2 0)) ∧ w.cell? ⟨b, k * 4 + 3, none⟩ = some (.int .i64 ((pxk P xs k).getD 3 0)) := by
  have h1 : k * P + P ≤ xs.length := by
    rw [hl]
    have := Nat.mul_le_mul_right P hk
    rw [Nat.succ_mul] at this
    exact this
  have e : ∀ p, p < 4 → w.cell? ⟨b, k * 4 + p, none⟩ = some (.int .i64 ((pxk P xs k).getD p 0)) := fun p hp => by
    rw [← Nat.zero_add (k * 4 + p), hc (k * 4 + p) (by rw [img_len]; omega), img_at _ hk hp]
    unfold pxc
    rw [pxk_pxl h1]
  exact ⟨by simpa using e 0 (by omega), e 1 (by omega), e 2 (by omega), e 3 (by omega)⟩
theorem bx_own4 {w : World} {g base P : Nat} {ys : List Int} (hP : P ≤ 4) (hl : ys.length = P) (hX : Bx w g 62 #[.int .i64 (ys.getD 0 0), .int .i64 (ys.getD 1 0), .int .i64 (ys.getD 2 0), .int .i64 (ys.getD 3 0)]) (hb : base ≤ g) : w.ownsRow base 62 1 (.slice (some ⟨g, 0, none⟩) P 4) P (ys.map (.int .i64)) := by
  refine ⟨by simp [hl], .inr ⟨g, 4, _, rfl, hb, hX, hP, by unfold maxLen; omega, rfl, ?_⟩⟩
  subst hl
  match ys, hP with
  | [], _ => rfl
  | [a], _ => rfl
  | [a, b], _ => rfl
  | [a, b, c], _ => rfl
  | [a, b, c, d], _ => rfl
  | a :: b :: c :: d :: e :: l, h => simp at h
theorem LsG.d0 {W0 w : World} {v : Value} {xss : List (List Int)} {Bs : List Bxg} {d : Nat} (h : LsG W0 w v xss Bs d) : LsG W0 w v xss Bs 0 := by
  obtain ⟨M, A, c, h1, h2, h3, h4, h5⟩ := h
  exact ⟨M, A, c, h1, h2, h3, h4, fun _ _ => Nat.zero_le _⟩
theorem fld_gridP (a b v : Value) (w : World) : (Instr.field 59 (.agg #[a, b, v]) 2).run Try.prog w = .ok v w := by
  simp [Instr.field, run_underlying Try.underlying59, asAgg, go_sem]
set_option maxHeartbeats 16000000 in
theorem i_PaletteOf (W H P : Int) (A : Option Addr) (c : Nat) (xs : List Int) (w : World) (hx : Rds .i64 w w.heap.size A xs) (hl : xs.length ≤ 2000000) (hlc : xs.length ≤ c) :
    Calls Try.prog 12 #[.agg #[.int .i64 W, .int .i64 H, .int .i64 P, .slice A xs.length c]] w (PalM W H P xs w) := by
  have HX := Lib.hid hx
  clear hx
  have S0 : GS w (w.alloc (.cells #[.int .i64 W, .int .i64 H, .int .i64 P, .slice A xs.length c] 27)) [] [⟨w.heap.size, 27, #[.int .i64 W, .int .i64 H, .int .i64 P, .slice A xs.length c]⟩] := GS.box' (GS.start w) 27 #[.int .i64 W, .int .i64 H, .int .i64 P, .slice A xs.length c] w.heap.size rfl
  obtain ⟨d0, d1, d2, d3⟩ := S0.b0_4
  go_enter Try.func12, Try.ntmps12
  go_wp2_with fail
  generalize w.alloc (.cells #[.int .i64 W, .int .i64 H, .int .i64 P, .slice A xs.length c] 27) = u0 at *
  refine (iVimg_any W H P A c xs u0 (S0.arg HX.out) hl).mono ?_
  rintro e u1 ⟨rfl, hB⟩
  have S1 := S0.call hB
  clear hB S0 d0 d1 d2 d3
  cases hv : vim W H P xs
  · have HB := Lib.hid S1.below
    have HE : Hid (palOk W H P xs = false ∧ palL W H P xs = []) := Lib.hid (by unfold palL palOk; rw [hv]; exact ⟨rfl, rfl⟩)
    clear S1 hv
    go_wp2
    exact bodyPost_ret (v := .tuple #[.slice none 0 0, .bool false]) (by simp [results, Try.results12, go_sem]) rfl (PalM.mk (LsG.below' (Bs := []) HB.out) HE.out.2 HE.out.1)
  · obtain ⟨W, H, P, rfl, rfl, rfl, hW1, hW, hH1, hH, hP1, hP4, hln, hby⟩ := vim_nat hv
    have HLn := Lib.hid hln
    have HE : Hid (palOk W H P xs = decide ((acL P xs (W * H)).length ≤ 16) ∧ palL W H P xs = cond (decide ((acL P xs (W * H)).length ≤ 16)) (acL P xs (W * H)) []) := Lib.hid (by unfold palL palOk; rw [hv]; exact ⟨rfl, rfl⟩)
    have HYa : Hid (∀ k, k < W * H → allB 0 255 (pxk P xs k) = true ∧ (pxk P xs k).length = P) := Lib.hid (fun k hk => by
      have h1 : k * P + P ≤ xs.length := by
        rw [hln]
        have := Nat.mul_le_mul_right P hk
        rw [Nat.succ_mul] at this
        exact this
      refine ⟨allB_yes fun j hj => ?_, pxk_len h1⟩
      rw [pxk_len h1] at hj
      rw [pxk_get hj]
      exact hby _ (by omega))
    clear hv hln hby
    obtain ⟨mb, hmb⟩ : ∃ mb, mb = u1.heap.size := ⟨_, rfl⟩
    have hwm : w.heap.size < mb := by rw [hmb]; exact (S1.bx (List.Mem.head _)).lt
    have S2 := S1.call ((Below.refl u1.heap.size u1).alloc (Nat.le_refl _) (.map #[] 0))
    have hM2 := MpB.made u1 P
    rw [← hmb] at hM2
    have hmk := fun W : World => run_makeMap (P := Try.prog) 56 W
    have Hmb := Lib.hid hmb
    obtain ⟨u2, hu2⟩ : ∃ u2, u2 = u1.alloc (.map #[] 0) := ⟨_, rfl⟩
    rw [← hu2] at S2 hM2
    obtain ⟨d0, d1, d2, d3⟩ := S2.b0_4
    have HGR := Lib.hid (gridOf_any W H P hW hH hP1 hP4 hW1 hH1 A c xs HLn.out hlc u2 (S2.arg HX.out))
    clear S1
    rw [hu2] at d0 d1 d2 d3
    go_wp2_with fail
    rw [← hu2, ← Hmb.out]
    clear d0 d1 d2 d3 hmk hu2 hmb Hmb
    refine HGR.out.mono ?_
    rintro e u4 ⟨v4, rfl, hO4, hB4⟩
    obtain ⟨N, hN⟩ : ∃ N, N = W * H := ⟨_, rfl⟩
    have hN256 : N ≤ 256 := by rw [hN]; exact Nat.mul_le_mul hW hH
    have hNpos : 0 < N := by rw [hN]; exact Nat.mul_pos hW1 hH1
    have hrow : ∃ b4 c4, v4 = .slice (some ⟨b4, 0, none⟩) N c4 ∧ N ≤ c4 ∧ u2.heap.size ≤ b4 ∧ b4 < u4.heap.size ∧ ∀ j, j < (img W H 4 (pxc W P xs)).length → u4.cell? ⟨b4, 0 + j, none⟩ = some (.int .i64 ((img W H 4 (pxc W P xs)).getD j 0)) := by
      obtain ⟨A4, c4, rfl, hc4⟩ := hO4.slice
      have h0 : 0 < (img W H 4 (pxc W P xs)).length := by rw [img_len, ← hN]; omega
      have hr := (GS.start u2).addR hO4 hB4
      have hr2 : Rds .i64 u4 u4.heap.size A4 (img W H 4 (pxc W P xs)) := GS.rdsT (E := 62) (C := 4) (lo := u2.heap.size) (hi := u4.heap.size) (A := A4) (n := W * H) (m := W * H) (c := c4) hr (List.Mem.head _)
      rcases hO4.2 with ⟨_, h1⟩ | ⟨g, cap, cur, hvv, hbg, hg, hnc, _⟩
      · omega
      · simp only [Value.slice.injEq] at hvv
        obtain ⟨rfl, _, rfl⟩ := hvv
        obtain ⟨b, off, e1, hb, hcx⟩ := hr2.cells_ h0
        injection e1 with e1
        injection e1 with e2 e3
        subst e2
        subst e3
        exact ⟨g, c4, by rw [hN], by rw [hN]; exact hc4, hbg, hb, hcx⟩
    obtain ⟨b4, c4, rfl, hc4, hb4, hb4d, hcx⟩ := hrow
    obtain ⟨d, hd⟩ : ∃ d, d = u4.heap.size := ⟨_, rfl⟩
    rw [← hd] at hb4d
    have HCx := Lib.hid hcx
    have S4 := S2.call hB4
    have hml := hM2.lt
    have hmd : mb < d := by rw [hd]; exact Nat.lt_of_lt_of_le hml hB4.size
    have hmb4 : mb < b4 := Nat.lt_of_lt_of_le hml hb4
    have hI0 : Hid (LsG w u4 (.slice .none 0 0) (acL P xs 0) [⟨w.heap.size, 27, #[.int .i64 (W : Int), .int .i64 (H : Int), .int .i64 (P : Int), .slice A xs.length c]⟩] d) := Lib.hid (LsG.nil S4 (by rw [hd]; exact Nat.le_refl _))
    have hJ0 : Hid (MpB u4 mb 0 P (acL P xs 0) ∧ u4.heap[b4]? = u4.heap[b4]? ∧ (acL P xs 0).length ≤ 16 ∧ d ≤ u4.heap.size) := Lib.hid ⟨hM2.below hB4, rfl, Nat.zero_le _, by rw [hd]; exact Nat.le_refl _⟩
    rw [← hN] at HE HYa HLn
    have HN := Lib.hid hN
    clear hO4 hB4 S2 S4 hM2 hml hb4 hcx hd HGR hN
    have hfl := fld_gridP
    go_wp2
    clear hfl
    go_loopw [5, 16] (fun v i wr => ∃ k : Nat, k ≤ N ∧ i = .int .i64 (k : Int) ∧ Hid (LsG w wr v (acL P xs k) [⟨w.heap.size, 27, #[.int .i64 (W : Int), .int .i64 (H : Int), .int .i64 (P : Int), .slice A xs.length c]⟩] d) ∧ Hid (MpB wr mb k P (acL P xs k) ∧ wr.heap[b4]? = u4.heap[b4]? ∧ (acL P xs k).length ≤ 16 ∧ d ≤ wr.heap.size)) (fun _ i _ => N - (intOf i).toNat)
    case atStart => exact ⟨0, Nat.zero_le _, rfl, hI0, Lib.hid ⟨hJ0.out.1, rfl, hJ0.out.2.2⟩⟩
    case round =>
      obtain ⟨k, hk, rfl, hL, hJ⟩ := hrel
      clear hI0 hJ0
      by_cases hlt : k < N
      · obtain ⟨x0, x1, x2, x3⟩ := pal_cells (k := k) HCx.out (by rw [← HN.out]; exact hlt) (by rw [← HN.out]; exact HLn.out)
        have hkp : ∀ o, wr.cell? ⟨b4, o, none⟩ = u4.cell? ⟨b4, o, none⟩ := fun o => World.cell?_of_block hJ.out.2.1
        rw [← hkp] at x0 x1 x2 x3
        have HSt : Hid (acL P xs (k + 1) = if pxk P xs k ∈ acL P xs k then acL P xs k else acL P xs k ++ [pxk P xs k]) := Lib.hid rfl
        have hYa := HYa.out k hlt
        have HMo : Hid (∀ n, n = acL P xs (k + 1) → n.length ≤ (acL P xs N).length) := Lib.hid (fun n hn => by rw [hn]; exact acL_mono hlt)
        obtain ⟨ys, hys⟩ : ∃ ys, ys = pxk P xs k := ⟨_, rfl⟩
        rw [← hys] at x0 x1 x2 x3 HSt hYa
        have HLy := Lib.hid hYa.2
        have HYb := Lib.hid hYa.1
        clear hkp hYa hys
        obtain ⟨y0, e0⟩ : ∃ v, ys.getD 0 0 = v := ⟨_, rfl⟩
        obtain ⟨y1, e1⟩ : ∃ v, ys.getD 1 0 = v := ⟨_, rfl⟩
        obtain ⟨y2, e2⟩ : ∃ v, ys.getD 2 0 = v := ⟨_, rfl⟩
        obtain ⟨y3, e3⟩ : ∃ v, ys.getD 3 0 = v := ⟨_, rfl⟩
        rw [e0] at x0
        rw [e1] at x1
        rw [e2] at x2
        rw [e3] at x3
        obtain ⟨gx, hgx⟩ : ∃ gx, gx = wr.heap.size := ⟨_, rfl⟩
        have hL2 := hL.out.box 62 #[.int .i64 y0, .int .i64 y1, .int .i64 y2, .int .i64 y3] gx hgx
        have hM2 := hJ.out.1.below ((Below.refl wr.heap.size wr).alloc (Nat.le_refl _) (.cells #[.int .i64 y0, .int .i64 y1, .int .i64 y2, .int .i64 y3] 62))
        have hb2 : (wr.alloc (.cells #[.int .i64 y0, .int .i64 y1, .int .i64 y2, .int .i64 y3] 62)).heap[b4]? = u4.heap[b4]? := (Below.heap_alloc wr _ b4 (Nat.lt_of_lt_of_le hb4d hJ.out.2.2.2)).trans hJ.out.2.1
        have hd2 : d ≤ (wr.alloc (.cells #[.int .i64 y0, .int .i64 y1, .int .i64 y2, .int .i64 y3] 62)).heap.size := Nat.le_trans hJ.out.2.2.2 (by simp)
        have hgm : gx ≠ mb := by have := hJ.out.2.2.2; omega
        have h16 := hJ.out.2.2.1
        have Hgx := Lib.hid hgx
        obtain ⟨z0, z1, z2, z3⟩ := bx4 (T := 62) (hL2.bx (List.Mem.head _))
        obtain ⟨p0, p1, p2, p3⟩ := bx4 (T := 27) (hL2.bx (List.mem_cons_of_mem _ (List.Mem.head _)))
        have hlk := hM2.get HLy.out HYb.out
        simp only [colV] at hlk
        rw [e0, e1, e2, e3] at hlk
        obtain ⟨M, A3, c3, rfl, hc3, hM, hG, hdm⟩ := hL2
        have HM := Lib.hid hM
        have HG := Lib.hid hG
        have Hdm := Lib.hid hdm
        have HOw : Hid (∀ g, (Value.slice A3 (acL P xs k).length c3).ownBlock = some g → d ≤ g) := Lib.hid (fun g hg => (LsG.own (W0 := w) ⟨M, A3, c3, rfl, hc3, hM, hG, hdm⟩ g hg).1)
        have HMb := Lib.hid hM2
        have Hb4 := Lib.hid hb2
        have Hd := Lib.hid hd2
        rw [hgx] at z0 z1 z2 z3
        clear hL hJ hM hG hdm hM2 hb2 hd2 hgx
        generalize acL P xs k = L at *
        by_cases hm : ys ∈ L
        · rw [decide_eq_true hm] at hlk
          have HS2 : Hid (acL P xs (k + 1) = L) := Lib.hid (by rw [HSt.out, if_pos hm])
          clear HSt hm p0 p1 p2 p3
          go_wp2
          go_roundw
          case rel => exact ⟨k + 1, by omega, by go_num, Lib.hid (by rw [HS2.out]; exact LsG.other ⟨M, A3, c3, rfl, hc3, HM.out, HG.out, Hdm.out⟩), Lib.hid ⟨by rw [HS2.out]; exact HMb.out.mono (Nat.le_succ _), Hb4.out, by rw [HS2.out]; exact h16, Hd.out⟩⟩
          case measure => simp [intOf]; omega
        · rw [decide_eq_false hm] at hlk
          have HS2 : Hid (acL P xs (k + 1) = L ++ [ys]) := Lib.hid (by rw [HSt.out, if_neg hm])
          clear HSt hm
          by_cases hfull : L.length = 16
          · have hbq : ((L.length : Int) == 16) = true := beq_iff_eq.2 (by omega)
            have HE2 : Hid (palOk W H P xs = false ∧ palL W H P xs = []) := Lib.hid (by
              have h1 := HE.out
              have h2 := HMo.out _ HS2.out.symm
              rw [List.length_append, hfull] at h2
              simp at h2
              rw [decide_eq_false (show ¬ (acL P xs N).length ≤ 16 by omega)] at h1
              exact h1)
            have HB := Lib.hid HG.out.below
            have hf : (L.length : Int) = 16 := by omega
            clear hbq HE HMo HS2 hfull p0 p1 p2 p3
            go_wp2
            exact bodyPost_ret (v := .tuple #[.slice none 0 0, .bool false]) (by simp [results, Try.results12, go_sem]) rfl (PalM.mk (LsG.below' (Bs := []) HB.out) HE2.out.2 HE2.out.1)
          · have hbq : ((L.length : Int) == 16) = false := beq_eq_false_iff_ne.2 (by omega)
            obtain ⟨w6, hst, hM6, hG6⟩ := MpB.store hP4 HMb.out HLy.out HYb.out (by unfold maxLen; omega)
            simp only [colV] at hst
            rw [e0, e1, e2, e3] at hst
            have hg6 := HG.out.off hG6 (Nat.le_of_lt hwm) (fun t ht => Nat.lt_of_lt_of_le hmd (Hdm.out t ht)) (fun b hb => by
              rcases List.mem_cons.1 hb with rfl | hb
              · exact hgm
              · obtain rfl : b = _ := List.mem_singleton.1 hb
                exact Nat.ne_of_lt hwm)
            have hHM6 : MpB w6 mb (k + 1) P (L ++ [ys]) := hM6
            have Hb6 : Hid (w6.heap[b4]? = u4.heap[b4]?) := Lib.hid ((hG6.block b4 (Nat.lt_of_lt_of_le hb4d Hd.out) (fun e => by injection e with e; omega)).trans Hb4.out)
            have Hd6 : Hid (d ≤ w6.heap.size) := Lib.hid (Nat.le_trans Hd.out hG6.size)
            have HG6 := Lib.hid hg6
            have HMb6 := Lib.hid (show MpB w6 mb (k + 1) P (L ++ [ys]) from hHM6)
            have Hb6' := Lib.hid (show w6.heap[b4]? = u4.heap[b4]? from Hb6.out)
            have hx1000 : L.length ≤ 1000 := by omega
            have HF16 : Hid (L.length + 1 ≤ 16) := Lib.hid (by omega)
            have HPX : Hid (∀ u, Calls Try.prog 29 #[.agg #[.int .i64 y0, .int .i64 y1, .int .i64 y2, .int .i64 y3], .int .i64 (P : Int)] u fun e w' => e = .returned (.slice (some ⟨u.heap.size, 0, none⟩) P P) ∧ Bx w' u.heap.size 62 #[.int .i64 y0, .int .i64 y1, .int .i64 y2, .int .i64 y3] ∧ Below u.heap.size u w') := Lib.hid (fun u => by
              have h := pixelOf_any (fun p => ys.getD p 0) P hP4 u
              simp only [colV] at h
              rw [e0, e1, e2, e3] at h
              exact h)
            go_upto_region 12 with fail
            rw [← Hgx.out]
            obtain ⟨z0, z1, z2, z3⟩ := bx4 (T := 62) (hg6.bx (List.Mem.head _))
            obtain ⟨q0, q1, q2, q3⟩ := bx4 (T := 27) (hg6.bx (List.mem_cons_of_mem _ (List.Mem.head _)))
            have e0' := e0
            have e1' := e1
            have e2' := e2
            have e3' := e3
            clear hlk hst p0 p1 p2 p3 hM6 hG6 HG HMb Hb4 Hd Hgx hg6 hHM6 Hb6 x0 x1 x2 x3 e0 e1 e2 e3 hbq hfull
            go_wp2_with fail
            refine (HPX.out _).mono ?_
            rintro e w5 ⟨rfl, hX5, hB5⟩
            obtain ⟨l5, hl5⟩ : ∃ l5, l5 = w6.heap.size := ⟨_, rfl⟩
            have hO5 := bx_own4 (base := w6.heap.size) hP4 HLy.out (by rw [e0', e1', e2', e3']; exact hX5) (Nat.le_refl _)
            have hG5 : GS w w5 (rt 62 1 l5 w5.heap.size (.slice (some ⟨l5, 0, none⟩) P 4) P ys :: M) [⟨gx, 62, #[.int .i64 y0, .int .i64 y1, .int .i64 y2, .int .i64 y3]⟩, ⟨w.heap.size, 27, #[.int .i64 (W : Int), .int .i64 (H : Int), .int .i64 (P : Int), .slice A xs.length c]⟩] := by rw [hl5]; exact HG6.out.addR hO5 hB5
            have HG5 := Lib.hid hG5
            have HB5 := Lib.hid hB5
            have HL5 : Hid (d ≤ l5 ∧ l5 ≤ w5.heap.size) := Lib.hid ⟨by rw [hl5]; exact Hd6.out, by rw [hl5]; exact hB5.size⟩
            rw [← hl5]
            clear hO5 hG5 hX5 hB5 hl5
            have HG7 := Lib.hid (HG5.out.call ((Below.refl w5.heap.size w5).alloc (Nat.le_refl _) (.cells #[.slice (some ⟨l5, 0, none⟩) P P] 22)))
            have HCl : Hid ((w5.alloc (.cells #[.slice (some ⟨l5, 0, none⟩) P P] 22)).cell? ⟨w5.heap.size, 0, none⟩ = some (.slice (some ⟨l5, 0, none⟩) P P)) := Lib.hid (cell_of_row _ _ _ _ _ _ (heap_alloc_new w5 _))
            have HB7 := Lib.hid (HB5.out.alloc HB5.out.size (.cells #[.slice (some ⟨l5, 0, none⟩) P P] 22))
            have HL7 : Hid (d ≤ l5 ∧ l5 ≤ (w5.alloc (.cells #[.slice (some ⟨l5, 0, none⟩) P P] 22)).heap.size) := Lib.hid ⟨HL5.out.1, Nat.le_trans HL5.out.2 (by simp)⟩
            clear HG5 HB5 HL5 z0 z1 z2 z3 q0 q1 q2 q3
            go_wp2_with (at_builtin; refine wpList_appG rfl (.tmp 28) (.tmp 33) rfl w M [⟨gx, 62, #[.int .i64 y0, .int .i64 y1, .int .i64 y2, .int .i64 y3]⟩, ⟨w.heap.size, 27, #[.int .i64 (W : Int), .int .i64 (H : Int), .int .i64 (P : Int), .slice A xs.length c]⟩] A3 c3 L rfl HM.out w5.heap.size 1 l5 w5.heap.size 62 (some ⟨l5, 0, none⟩) ys P P 4 HG7.out rfl HLy.out.symm HCl.out (by rw [HLy.out]; exact Nat.le_refl _) hx1000 Hdm.out HL7.out.1 HL7.out.2 ?_; intro v7 w7 hL7 hG7)
            have HL8 := Lib.hid hL7
            have HK7 : Hid (w7.heap[mb]? = w6.heap[mb]? ∧ w7.heap[b4]? = w6.heap[b4]? ∧ d ≤ w7.heap.size) := Lib.hid ⟨(hG7.block mb (Nat.lt_of_lt_of_le hmd (Nat.le_trans HL7.out.1 HL7.out.2)) (fun e => by have := HOw.out _ e.symm; omega)).trans (HB7.out.block mb (Nat.lt_of_lt_of_le hmd Hd6.out)), (hG7.block b4 (Nat.lt_of_lt_of_le hb4d (Nat.le_trans HL7.out.1 HL7.out.2)) (fun e => by have := HOw.out _ e.symm; omega)).trans (HB7.out.block b4 (Nat.lt_of_lt_of_le hb4d Hd6.out)), Nat.le_trans HL7.out.1 (Nat.le_trans HL7.out.2 hG7.size)⟩
            clear hL7 hG7 HG7 HCl HB7 HL7
            clear HPX
            go_roundw
            case rel =>
              refine ⟨k + 1, by omega, by go_num, Lib.hid (by rw [HS2.out]; exact HL8.out.other), Lib.hid ⟨by rw [HS2.out]; exact HMb6.out.kept HK7.out.1, HK7.out.2.1.trans Hb6'.out, ?_, HK7.out.2.2⟩⟩
              rw [HS2.out, List.length_append]
              exact HF16.out
            case measure => simp [intOf]; omega
      · have hk' : k = N := by omega
        subst hk'
        obtain ⟨A9, c9, rfl, hc9⟩ := hL.out.slice
        have HE2 : Hid (palOk W H P xs = true ∧ palL W H P xs = acL P xs k) := Lib.hid (by have h1 := HE.out; rw [decide_eq_true hJ.out.2.2.1] at h1; exact h1)
        go_wp2
        exact bodyPost_ret (v := .tuple #[.slice A9 (acL P xs k).length c9, .bool true]) (by simp [results, Try.results12, go_sem]) rfl (PalM.mk hL.out.drop.d0 HE2.out.2 HE2.out.1)
end Go.Proofs.Ytaejhodikpjeoaa
