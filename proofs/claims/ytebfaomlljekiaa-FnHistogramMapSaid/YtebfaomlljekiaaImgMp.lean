/- Facts of mapped images that the laws need. -/
import Derived.Test.YtebfaomlljekiaaLSt
import Derived.Test.YtebfaomlljekiaaImgHs
import Derived.Test.YtebfaomlljekiaaMapS
namespace Go.Proofs.Ytebfaomlljekiaa
open Go.RowKit Go.Shelf
set_option linter.unusedSimpArgs false
set_option linter.unusedVariables false

def MpC (f : FuncId) (W H P : Int) (xs ls : List Int) (X Y Z : Int) (ys : List Int) (ok : Bool) : Prop :=
  ∀ (A : Option Addr) (c : Nat) (A' : Option Addr) (c' : Nat) (w : World), Rds .i64 w w.heap.size A xs → xs.length ≤ c → Rds .i64 w w.heap.size A' ls → ls.length ≤ c' → Calls Try.prog f #[.agg #[.int .i64 W, .int .i64 H, .int .i64 P, .slice A xs.length c], .slice A' ls.length c'] w (ShIB X Y Z ys ok w)
theorem MpC.use {f : FuncId} {W H P : Int} {xs ls : List Int} {X Y Z : Int} {ys : List Int} {ok : Bool} (h : Hid (MpC f W H P xs ls X Y Z ys ok)) (A : Option Addr) (c : Nat) (A' : Option Addr) (c' : Nat) (w : World) (hr : Rds .i64 w w.heap.size A xs) (hc : xs.length ≤ c) (hr' : Rds .i64 w w.heap.size A' ls) (hc' : ls.length ≤ c') : Calls Try.prog f #[.agg #[.int .i64 W, .int .i64 H, .int .i64 P, .slice A xs.length c], .slice A' ls.length c'] w (ShIB X Y Z ys ok w) := h.out A c A' c' w hr hc hr' hc'
theorem MadeIb.sh {b : Bool} {W H P : Int} {ys : List Int} {w : World} {e : Ending} {w' : World} (h : MadeIb b W H P ys w e w') : ShIB (cond b W 0) (cond b H 0) (cond b P 0) (cond b ys []) b w e w' := by
  obtain ⟨v, rfl, hO, hB⟩ := h
  obtain ⟨A, c, rfl, hc⟩ := hO.slice
  exact ⟨A, c, rfl, hc, hO.rds.2, hB⟩
theorem iMp_C (W H P : Int) (xs ls : List Int) (hx : xs.length ≤ 2000) (hl : ls.length ≤ 2000) : MpC 16 W H P xs ls (cond (mpOk W H P xs ls) W 0) (cond (mpOk W H P xs ls) H 0) (cond (mpOk W H P xs ls) P 0) (cond (mpOk W H P xs ls) (mpL ls xs) []) (mpOk W H P xs ls) :=
  fun A c A' c' w hr hc hr' hc' => (by first | exact i_MapImage W H P A A' c c' xs ls w hr (by omega) hr' (by omega) | exact s_MapImage W H P A A' c c' xs ls w hr (by omega) hr' (by omega) : Calls _ _ _ _ _).mono fun _ _ h => MadeIb.sh h
theorem sMp_C (W H P : Int) (xs ls : List Int) (hx : xs.length ≤ 2000) (hl : ls.length ≤ 2000) : MpC 17 W H P xs ls (cond (mpOk W H P xs ls) W 0) (cond (mpOk W H P xs ls) H 0) (cond (mpOk W H P xs ls) P 0) (cond (mpOk W H P xs ls) (mpL ls xs) []) (mpOk W H P xs ls) :=
  fun A c A' c' w hr hc hr' hc' => (by first | exact i_MapImage W H P A A' c c' xs ls w hr (by omega) hr' (by omega) | exact s_MapImage W H P A A' c c' xs ls w hr (by omega) hr' (by omega) : Calls _ _ _ _ _).mono fun _ _ h => MadeIb.sh h
theorem vim_mem {W H P : Int} {xs : List Int} (hv : vim W H P xs = true) : ∀ x ∈ xs, 0 ≤ x ∧ x ≤ 255 := by
  have e0 : vim W H P xs = (vsh W H P && (decide ((xs.length : Int) = W * H * P) && allB 0 255 xs)) := rfl
  rw [e0, Bool.and_eq_true, Bool.and_eq_true] at hv
  exact of_decide_eq_true hv.2.2
theorem map_vim {W H P : Int} {xs : List Int} {f : Int → Int} (hv : vim W H P xs = true) (hf : ∀ x ∈ xs, 0 ≤ f x ∧ f x ≤ 255) : vim W H P (xs.map f) = true := by
  have e : vim W H P (xs.map f) = (vsh W H P && (decide (((xs.map f).length : Int) = W * H * P) && allB 0 255 (xs.map f))) := rfl
  have e0 : vim W H P xs = (vsh W H P && (decide ((xs.length : Int) = W * H * P) && allB 0 255 xs)) := rfl
  rw [e0, Bool.and_eq_true, Bool.and_eq_true] at hv
  have ha : allB 0 255 (xs.map f) = true := decide_eq_true (fun y hy => by obtain ⟨x, hx, rfl⟩ := List.mem_map.1 hy; exact hf x hx)
  rw [e, hv.1, List.length_map, hv.2.1, ha]; rfl
theorem mpOk_parts {W H P : Int} {xs ls : List Int} (h : mpOk W H P xs ls = true) : vim W H P xs = true ∧ ls.length = 256 ∧ ∀ y ∈ ls, 0 ≤ y ∧ y ≤ 255 := by
  unfold mpOk at h
  rw [Bool.and_eq_true, Bool.and_eq_true] at h
  exact ⟨h.1, of_decide_eq_true h.2.1, of_decide_eq_true h.2.2⟩
theorem mpOk_of {W H P : Int} {xs ls : List Int} (h : vim W H P xs = true) (hl : ls.length = 256) (hb : ∀ y ∈ ls, 0 ≤ y ∧ y ≤ 255) : mpOk W H P xs ls = true := by
  unfold mpOk
  rw [h, decide_eq_true hl, show allB 0 255 ls = true from decide_eq_true hb]; rfl
theorem getD_mem' {ls : List Int} {n : Nat} (h : n < ls.length) : ls.getD n 0 ∈ ls := by simp [h]
theorem mpF_bd {ls : List Int} (hl : ls.length = 256) (hb : ∀ y ∈ ls, 0 ≤ y ∧ y ≤ 255) {x : Int} (hx : 0 ≤ x ∧ x ≤ 255) : 0 ≤ mpF ls x ∧ mpF ls x ≤ 255 := hb _ (getD_mem' (by omega))
/-- The list of a function of 0..255. -/
def fnL (f : Nat → Int) (k : Nat) : List Int := (List.range k).map f
theorem fnL_len (f : Nat → Int) (k : Nat) : (fnL f k).length = k := by simp [fnL]
theorem fnL_next (f : Nat → Int) (k : Nat) : fnL f (k + 1) = fnL f k ++ [f k] := by simp [fnL, List.range_succ]
theorem fnL_mp (f : Nat → Int) {x : Int} (hx : 0 ≤ x ∧ x ≤ 255) : mpF (fnL f 256) x = f x.toNat := by
  unfold mpF fnL
  simp [show x.toNat < 256 by omega]
theorem fnL_mem {f : Nat → Int} (hf : ∀ n, n < 256 → 0 ≤ f n ∧ f n ≤ 255) : ∀ y ∈ fnL f 256, 0 ≤ y ∧ y ≤ 255 := by
  intro y hy
  obtain ⟨n, hn, rfl⟩ := List.mem_map.1 hy
  exact hf n (List.mem_range.1 hn)
/-- All numbers in order; the list that maps twice; all numbers in reverse. -/
def idF (n : Nat) : Int := n
def twF (ls : List Int) (n : Nat) : Int := ls.getD (ls.getD n 0).toNat 0
def rvF (n : Nat) : Int := 255 - n
theorem mp_id {xs : List Int} (hb : ∀ x ∈ xs, 0 ≤ x ∧ x ≤ 255) : mpL (fnL idF 256) xs = xs := by
  unfold mpL
  rw [List.map_congr_left (g := id) (fun x hx => by rw [fnL_mp _ (hb x hx)]; have := hb x hx; show ((x.toNat : Nat) : Int) = x; omega)]
  simp
theorem mp_tw {xs ls : List Int} (hb : ∀ x ∈ xs, 0 ≤ x ∧ x ≤ 255) : mpL (fnL (twF ls) 256) xs = mpL ls (mpL ls xs) := by
  unfold mpL
  rw [List.map_map]
  exact List.map_congr_left (fun x hx => by rw [fnL_mp _ (hb x hx)]; rfl)
theorem mp_rv {xs : List Int} (hb : ∀ x ∈ xs, 0 ≤ x ∧ x ≤ 255) : mpL (fnL rvF 256) xs = inv xs := by
  unfold mpL
  refine List.map_congr_left (fun x hx => ?_)
  rw [fnL_mp _ (hb x hx)]
  have := hb x hx
  show 255 - ((x.toNat : Nat) : Int) = 255 - x
  omega
theorem mpOk_fn {W H P : Int} {xs : List Int} (h : vim W H P xs = true) {f : Nat → Int} (hf : ∀ n, n < 256 → 0 ≤ f n ∧ f n ≤ 255) : mpOk W H P xs (fnL f 256) = true := mpOk_of h (fnL_len _ _) (fnL_mem hf)
theorem tw_bd {ls : List Int} (hl : ls.length = 256) (hb : ∀ y ∈ ls, 0 ≤ y ∧ y ≤ 255) : ∀ n, n < 256 → 0 ≤ twF ls n ∧ twF ls n ≤ 255 := fun n hn => by
  have := hb _ (getD_mem' (ls := ls) (n := n) (by omega))
  exact hb _ (getD_mem' (by omega))
theorem iMp_Y {W H P : Int} {xs ls : List Int} (hx : xs.length ≤ 2000) (hl : ls.length ≤ 2000) (h : mpOk W H P xs ls = true) : MpC 16 W H P xs ls W H P (mpL ls xs) true := by
  have hc := iMp_C W H P xs ls hx hl
  rw [h] at hc
  exact hc
theorem mpL_len (ls xs : List Int) : (mpL ls xs).length = xs.length := by unfold mpL; rw [List.length_map]
theorem map_law (W H P : Int) (xs ls : List Int) (hx : xs.length ≤ 256) (hl : ls.length ≤ 300) : ∃ (X Y Z : Int) (ys : List Int) (ok : Bool), ys.length ≤ 2000 ∧ Hid (MpC 16 W H P xs ls X Y Z ys ok) ∧ Hid (MpC 17 W H P xs ls X Y Z ys ok) ∧
    (ok = false ∨ (ok = true ∧ ls.length = 256 ∧ Hid (∀ y ∈ ls, 0 ≤ y ∧ y ≤ 255) ∧ ∃ (zs : List Int), zs.length ≤ 2000 ∧ Hid (MpC 16 W H P xs (fnL idF 256) W H P xs true) ∧ Hid (MpC 16 X Y Z ys ls W H P zs true) ∧ Hid (MpC 16 W H P xs (fnL (twF ls) 256) W H P zs true))) := by
  have h1 := iMp_C W H P xs ls (by omega) (by omega)
  have h2 := sMp_C W H P xs ls (by omega) (by omega)
  cases ho : mpOk W H P xs ls
  · rw [ho] at h1 h2
    exact ⟨_, _, _, _, _, by simp, Lib.hid h1, Lib.hid h2, .inl rfl⟩
  · rw [ho] at h1 h2
    obtain ⟨hv, h256, hb⟩ := mpOk_parts ho
    have hm := vim_mem hv
    have hv2 : vim W H P (mpL ls xs) = true := map_vim hv (fun x h => mpF_bd h256 hb (hm x h))
    have h3 := iMp_Y (W := W) (H := H) (P := P) (xs := xs) (ls := fnL idF 256) (by omega) (by rw [fnL_len]; omega) (mpOk_fn hv (fun n hn => by unfold idF; omega))
    rw [mp_id hm] at h3
    have h4 := iMp_Y (W := W) (H := H) (P := P) (xs := mpL ls xs) (ls := ls) (by rw [mpL_len]; omega) (by omega) (mpOk_of hv2 h256 hb)
    have h5 := iMp_Y (W := W) (H := H) (P := P) (xs := xs) (ls := fnL (twF ls) 256) (by omega) (by rw [fnL_len]; omega) (mpOk_fn hv (tw_bd h256 hb))
    rw [mp_tw hm] at h5
    exact ⟨W, H, P, mpL ls xs, true, by rw [mpL_len]; omega, Lib.hid h1, Lib.hid h2, .inr ⟨rfl, h256, Lib.hid hb, _, by rw [mpL_len, mpL_len]; omega, Lib.hid h3, Lib.hid h4, Lib.hid h5⟩⟩
theorem mpi_law (W H P : Int) (xs ls : List Int) (hx : xs.length ≤ 256) (hl : ls.length ≤ 300) : ∃ (X Y Z : Int) (ys : List Int) (ok : Bool), ys.length ≤ 2000 ∧ Hid (MpC 16 W H P xs ls X Y Z ys ok) ∧ Hid (MpC 17 W H P xs ls X Y Z ys ok) ∧
    (ok = false ∨ (ok = true ∧ ∃ (zs : List Int), zs.length ≤ 2000 ∧ Hid (MpC 16 W H P xs (fnL rvF 256) W H P zs true) ∧ Hid (ImC0 19 W H P xs W H P zs))) := by
  have h1 := iMp_C W H P xs ls (by omega) (by omega)
  have h2 := sMp_C W H P xs ls (by omega) (by omega)
  cases ho : mpOk W H P xs ls
  · rw [ho] at h1 h2
    exact ⟨_, _, _, _, _, by simp, Lib.hid h1, Lib.hid h2, .inl rfl⟩
  · rw [ho] at h1 h2
    obtain ⟨hv, h256, hb⟩ := mpOk_parts ho
    have hm := vim_mem hv
    have h3 := iMp_Y (W := W) (H := H) (P := P) (xs := xs) (ls := fnL rvF 256) (by omega) (by rw [fnL_len]; omega) (mpOk_fn hv (fun n hn => by unfold rvF; omega))
    rw [mp_rv hm] at h3
    have h4 := iV_inv W H P xs (by omega)
    rw [hv] at h4
    exact ⟨_, _, _, _, true, by rw [show (cond true (mpL ls xs) []) = mpL ls xs from rfl, mpL_len]; omega, Lib.hid h1, Lib.hid h2, .inr ⟨rfl, inv xs, by simp [inv]; omega, Lib.hid h3, Lib.hid h4⟩⟩
/-- The counts moved, those of the first k numbers. -/
def mvL (ls cs : List Int) : Nat → List Int
  | 0 => zeros 256
  | n + 1 => (mvL ls cs n).set (ls.getD n 0).toNat ((mvL ls cs n).getD (ls.getD n 0).toNat 0 + cs.getD n 0)
theorem mvL_len (ls cs : List Int) : ∀ k, (mvL ls cs k).length = 256
  | 0 => List.length_replicate
  | k + 1 => by show (List.set _ _ _).length = _; rw [List.length_set, mvL_len ls cs k]
def cmv (ls xs : List Int) (k : Nat) (m : Int) : Nat := xs.countP (fun x => decide (x < (k : Int)) && decide (mpF ls x = m))
theorem cmv_next (ls : List Int) (k : Nat) (m : Int) : ∀ xs : List Int, cmv ls xs (k + 1) m = cmv ls xs k m + (if ls.getD k 0 = m then xs.count (k : Int) else 0)
  | [] => by simp [cmv]
  | x :: xs => by
    have ih := cmv_next ls k m xs
    unfold cmv at ih ⊢
    have hf : mpF ls x = ls.getD x.toNat 0 := rfl
    by_cases h6 : ls.getD k 0 = m
    · rw [if_pos h6] at ih ⊢
      rw [List.countP_cons, List.countP_cons, List.count_cons, ih]
      by_cases h1 : x = (k : Int)
      · have h2 : ¬ x < (k : Int) := by omega
        have h3 : x < ((k + 1 : Nat) : Int) := by omega
        have h4 : mpF ls x = m := by rw [hf, h1, Int.toNat_natCast]; exact h6
        have h5 : (x == (k : Int)) = true := by simp [h1]
        simp only [h2, h3, h4, h5, decide_true, decide_false, Bool.true_and, Bool.false_and, if_true, if_false, Bool.false_eq_true]
        omega
      · have h5 : (x == (k : Int)) = false := by simp [h1]
        by_cases h2 : x < (k : Int)
        · have h3 : x < ((k + 1 : Nat) : Int) := by omega
          simp only [h2, h3, h5, decide_true, Bool.true_and, if_false, Bool.false_eq_true]
          omega
        · have h3 : ¬ x < ((k + 1 : Nat) : Int) := by omega
          simp only [h2, h3, h5, decide_false, Bool.false_and, if_false, Bool.false_eq_true]
          omega
    · rw [if_neg h6] at ih ⊢
      rw [List.countP_cons, List.countP_cons, ih]
      by_cases h1 : x = (k : Int)
      · have h2 : ¬ x < (k : Int) := by omega
        have h3 : x < ((k + 1 : Nat) : Int) := by omega
        have h4 : ¬ mpF ls x = m := by rw [hf, h1, Int.toNat_natCast]; exact h6
        simp only [h2, h3, h4, decide_true, decide_false, Bool.true_and, Bool.false_and, Bool.and_false, if_false, Bool.false_eq_true]
        try omega
      · by_cases h2 : x < (k : Int)
        · have h3 : x < ((k + 1 : Nat) : Int) := by omega
          simp only [h2, h3, decide_true, Bool.true_and]
          try omega
        · have h3 : ¬ x < ((k + 1 : Nat) : Int) := by omega
          simp only [h2, h3, decide_false, Bool.false_and, if_false, Bool.false_eq_true]
          try omega
theorem mvL_get {ls xs : List Int} (hl : ls.length = 256) (hb : ∀ y ∈ ls, 0 ≤ y ∧ y ≤ 255) (hx : ∀ x ∈ xs, 0 ≤ x) : ∀ k, k ≤ 256 → ∀ m, m < 256 → (mvL ls (hist xs) k).getD m 0 = ((cmv ls xs k (m : Int) : Nat) : Int)
  | 0, _, m, hm => by
    have : cmv ls xs 0 (m : Int) = 0 := List.countP_eq_zero.2 fun x h => by have := hx x h; simp; omega
    rw [this]
    show (List.replicate 256 (0 : Int)).getD m 0 = _
    rw [List.getD_eq_getElem?_getD, List.getElem?_replicate, if_pos hm]
    rfl
  | k + 1, hk, m, hm => by
    have ih := mvL_get hl hb hx k (by omega)
    have ht := hb _ (getD_mem' (ls := ls) (n := k) (by omega))
    show (List.set _ _ _).getD m 0 = _
    rw [cmv_next]
    by_cases e : (ls.getD k 0).toNat = m
    · have e2 : ls.getD k 0 = (m : Int) := by omega
      rw [if_pos e2, e, List.getD_eq_getElem?_getD, List.getElem?_set_self (by rw [mvL_len]; exact hm), ih m hm, hist_get xs (show k < 256 by omega)]
      simp
    · have e2 : ¬ ls.getD k 0 = (m : Int) := by omega
      rw [if_neg e2, List.getD_eq_getElem?_getD, List.getElem?_set_ne e, ← List.getD_eq_getElem?_getD, ih m hm]
      simp
theorem mvL_all {ls xs : List Int} (hl : ls.length = 256) (hb : ∀ y ∈ ls, 0 ≤ y ∧ y ≤ 255) (hx : ∀ x ∈ xs, 0 ≤ x ∧ x ≤ 255) : mvL ls (hist xs) 256 = hist (mpL ls xs) := by
  apply List.ext_getElem (by rw [mvL_len, hist_len])
  intro m h1 h2
  have hm : m < 256 := by rw [mvL_len] at h1; exact h1
  have e1 := mvL_get hl hb (fun x h => (hx x h).1) 256 (Nat.le_refl _) m hm
  have e2 := hist_get (mpL ls xs) hm
  have e3 : cmv ls xs 256 (m : Int) = (mpL ls xs).count (m : Int) := by
    unfold cmv mpL
    rw [List.count, List.countP_map]
    refine List.countP_congr fun x h => ?_
    have := hx x h
    simp
    omega
  rw [e3, ← e2] at e1
  simpa [List.getD_eq_getElem?_getD, List.getElem?_eq_getElem h1, List.getElem?_eq_getElem h2] using e1
theorem mvL_bd {ls xs : List Int} (hl : ls.length = 256) (hb : ∀ y ∈ ls, 0 ≤ y ∧ y ≤ 255) (hx : ∀ x ∈ xs, 0 ≤ x) (k : Nat) (hk : k ≤ 256) (m : Nat) (hm : m < 256) : 0 ≤ (mvL ls (hist xs) k).getD m 0 ∧ (mvL ls (hist xs) k).getD m 0 ≤ xs.length := by
  rw [mvL_get hl hb hx k hk m hm]
  have : cmv ls xs k (m : Int) ≤ xs.length := List.countP_le_length
  omega
end Go.Proofs.Ytebfaomlljekiaa
