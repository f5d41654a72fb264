/- Histograms: their sum, and the one of the inverted image. -/
import Derived.Test.YtpjljhboodbmeaaImgHt
import Derived.Shelf.Abstract
namespace Go.Proofs.Ytpjljhboodbmeaa
open Go.RowKit Go.Shelf
set_option linter.unusedSimpArgs false
set_option linter.unusedVariables false

/-- The sum of the first numbers of a list. -/
def sm (xs : List Int) : Nat → Int
  | 0 => 0
  | k + 1 => sm xs k + xs.getD k 0
theorem sm_bd {xs : List Int} (h : ∀ j, j < xs.length → 0 ≤ xs.getD j 0 ∧ xs.getD j 0 ≤ 100000) : ∀ k, k ≤ xs.length → 0 ≤ sm xs k ∧ sm xs k ≤ 100000 * k
  | 0, _ => by simp [sm]
  | k + 1, hk => by
    have := sm_bd h k (by omega)
    have := h k (by omega)
    unfold sm
    omega
theorem countP_next (N : Nat) : ∀ xs : List Int, (∀ x ∈ xs, 0 ≤ x) → xs.countP (fun x => decide (x < ((N + 1 : Nat) : Int))) = xs.countP (fun x => decide (x < (N : Int))) + xs.count (N : Int)
  | [], _ => rfl
  | x :: xs, h => by
    rw [List.countP_cons, List.countP_cons, List.count_cons, countP_next N xs (fun y hy => h y (List.mem_cons_of_mem _ hy))]
    have := h x List.mem_cons_self
    by_cases h1 : x = (N : Int)
    · have h2 : ¬ x < (N : Int) := by omega
      have h3 : x < ((N + 1 : Nat) : Int) := by omega
      have h4 : ((x == (N : Int)) = true) = True := by simp [h1]
      simp only [h2, h3, h4, decide_true, decide_false, if_true, if_false, Bool.false_eq_true]; omega
    · by_cases h2 : x < (N : Int)
      · have h3 : x < ((N + 1 : Nat) : Int) := by omega
        have h4 : ((x == (N : Int)) = true) = False := by simp [h1]
        simp only [h2, h3, h4, decide_true, if_true, if_false]; omega
      · have h3 : ¬ x < ((N + 1 : Nat) : Int) := by omega
        have h4 : ((x == (N : Int)) = true) = False := by simp [h1]
        simp only [h2, h3, h4, decide_false, if_false, Bool.false_eq_true]; omega
theorem sm_hist (xs : List Int) (h : ∀ x ∈ xs, 0 ≤ x) : ∀ N, N ≤ 256 → sm (hist xs) N = (xs.countP (fun x => decide (x < (N : Int))) : Nat)
  | 0, _ => by
    show (0 : Int) = _
    have : xs.countP (fun x => decide (x < ((0 : Nat) : Int))) = 0 := List.countP_eq_zero.2 fun x hx => by have := h x hx; simp; omega
    rw [this]; rfl
  | N + 1, hN => by
    rw [sm, sm_hist xs h N (by omega), hist_get xs (show N < 256 by omega), countP_next N xs h]
    omega
theorem sm_all (xs : List Int) (h : ∀ x ∈ xs, 0 ≤ x ∧ x ≤ 255) : sm (hist xs) 256 = xs.length := by
  rw [sm_hist xs (fun x hx => (h x hx).1) 256 (Nat.le_refl _)]
  congr 1
  exact List.countP_eq_length.2 fun x hx => by have := h x hx; simp; omega
theorem count_inv (n : Int) : ∀ xs : List Int, (inv xs).count (255 - n) = xs.count n
  | [] => rfl
  | x :: xs => by
    show ((255 - x) :: inv xs).count (255 - n) = _
    rw [List.count_cons, List.count_cons, count_inv n xs]
    congr 1
    by_cases h : x = n
    · subst h; simp
    · have h2 : ¬ (255 - x = 255 - n) := by omega
      simp [h, h2]
theorem hist_inv (xs : List Int) (n : Nat) (h : n < 256) : (hist (inv xs)).getD (255 - n) 0 = (hist xs).getD n 0 := by
  rw [hist_get _ (show 255 - n < 256 by omega), hist_get _ h, ← count_inv (n : Int) xs]
  congr 3
  omega
theorem inv_img {W H P : Nat} (F : Nat → Nat → Nat → Int) : inv (img W H P F) = img W H P (fun x y p => 255 - F x y p) := by
  simp [inv, img, List.map_map]
theorem okI.inv {W H P : Nat} {F : Nat → Nat → Nat → Int} (h : okI W H P F) : okI W H P (fun x y p => 255 - F x y p) := ⟨h.1, h.2.1, h.2.2.1, fun x y p hx hy hp => by have := h.2.2.2 x y p hx hy hp; show 0 ≤ 255 - F x y p ∧ 255 - F x y p ≤ 255; omega⟩
theorem okI.mem {W H P : Nat} {F : Nat → Nat → Nat → Int} (h : okI W H P F) : ∀ x ∈ img W H P F, 0 ≤ x ∧ x ≤ 255 := by
  intro n hn
  obtain ⟨i, hi, rfl⟩ := List.mem_map.1 hn
  have := pix_of (List.mem_range.1 hi)
  exact h.2.2.2 _ _ _ this.1 this.2.1 this.2.2.1
theorem iV_inv (W H P : Int) (xs : List Int) (hx : xs.length ≤ 2000) : ImC0 26 W H P xs (cond (vim W H P xs) W 0) (cond (vim W H P xs) H 0) (cond (vim W H P xs) P 0) (cond (vim W H P xs) (inv xs) []) :=
  fun A c w hr hc => (i_Invert W H P A c xs w hr (by omega)).mono fun _ _ h => mif_sh h rfl rfl rfl rfl
theorem iV_I {W H P : Nat} {F : Nat → Nat → Nat → Int} (h : okI W H P F) : ImC0 26 W H P (img W H P F) W H P (img W H P (fun x y p => 255 - F x y p)) := by
  have hc := iV_inv W H P (img W H P F) (by have := h.bd; omega)
  rw [h.vim, inv_img] at hc
  exact hc
set_option maxHeartbeats 1000000 in
theorem sum_any (A : Option Addr) (c : Nat) (xs : List Int) (w : World) (hx : Rds .i64 w w.heap.size A xs) (hl : xs.length ≤ 100000) (hb : ∀ j, j < xs.length → 0 ≤ xs.getD j 0 ∧ xs.getD j 0 ≤ 100000) :
    Calls Try.prog 34 #[.slice A xs.length c] w fun e w' => e = .returned (.int .i64 (sm xs xs.length)) ∧ w' = w := by
  have HX := Lib.hid hx
  have HB := Lib.hid hb
  clear hx hb
  go_enter Try.func34, Try.ntmps34
  go_wp2
  go_loopw [3, 4] (fun s i wr => ∃ k : Nat, k ≤ xs.length ∧ i = .int .i64 k ∧ s = .int .i64 (sm xs k) ∧ wr = w) (fun _ i _ => xs.length - (intOf i).toNat)
  case atStart =>
    refine ⟨0, Nat.zero_le _, ?_⟩
    simp [sm]
  case round =>
    obtain ⟨k, hk, rfl, rfl, rfl⟩ := hrel
    have hs := sm_bd HB.out k hk
    by_cases hlt : k < xs.length
    · obtain ⟨b, off, rfl, hb1, hc⟩ := HX.out.cells_ hlt
      have hck := hc k hlt
      have hbk := HB.out k hlt
      have HE : Hid (sm xs (k + 1) = sm xs k + xs.getD k 0) := Lib.hid rfl
      clear hc
      generalize xs.getD k 0 = y at *
      generalize sm xs k = T at *
      have hw1 : IntKind.i64.wrap (T + y) = T + y := IntWalk.i64_in _ (by omega)
      go_wp2
      go_roundw
      case rel => exact ⟨k + 1, by omega, by go_num, by rw [HE.out], by trivial⟩
      case measure => simp [intOf]; omega
    · have hk' : k = xs.length := by omega
      have HK : Hid (sm xs k = sm xs xs.length) := Lib.hid (by rw [hk'])
      clear hk'
      go_wp2
      go_ret
      exact ⟨ret_int HK.out, rfl⟩
theorem his_law (W H P : Int) (xs : List Int) (hx : xs.length ≤ 256) : ∃ (ys : List Int), ys.length ≤ 256 ∧ Hid (HiC 30 W H P xs ys) ∧ Hid (HiC 29 W H P xs ys) ∧
    ((ys.length = 0 ∧ ¬ ((ys.length : Int) = 256)) ∨ (ys.length = 256 ∧ (1 ≤ W ∧ W ≤ 16) ∧ (1 ≤ H ∧ H ≤ 16) ∧ Hid (∀ j, j < ys.length → 0 ≤ ys.getD j 0 ∧ ys.getD j 0 ≤ 100000) ∧ Hid (sm ys ys.length = W * H) ∧ ∃ (X Y Z : Int) (vs bs : List Int), Hid (ImC0 26 W H P xs X Y Z vs) ∧ Hid (HiC 30 X Y Z vs bs) ∧ bs.length = 256 ∧ Hid (∀ n, n < 256 → bs.getD (255 - n) 0 = ys.getD n 0))) := by
  have h1 := iHi W H P xs (by omega)
  have h2 := sHi W H P xs (by omega)
  have hb := hisL_bd W H P xs
  cases hv : vpl W H P xs
  · have he : hisL W H P xs = [] := by unfold hisL; rw [hv]; rfl
    rw [he] at h1 h2
    exact ⟨_, by simp, Lib.hid h1, Lib.hid h2, .inl ⟨rfl, by simp⟩⟩
  · unfold vpl at hv
    rw [Bool.and_eq_true] at hv
    obtain ⟨W, H, P, F, rfl, rfl, rfl, rfl, h⟩ := vim_ok hv.1
    obtain rfl : P = 1 := by have := of_decide_eq_true hv.2; omega
    have he : hisL W H (1 : Nat) (img W H 1 F) = hist (img W H 1 F) := by rw [hisL_img h, if_pos rfl]
    have hI := h.inv
    have h5 := iHi W H (1 : Nat) (img W H 1 (fun x y p => 255 - F x y p)) (by have := hI.bd; omega)
    rw [he] at h1 h2
    rw [hisL_img hI, if_pos rfl, ← inv_img] at h5
    have h6 := iV_I h
    rw [← inv_img] at h6
    have hW := h.1
    have hH := h.2.1
    refine ⟨_, by rw [hist_len]; omega, Lib.hid h1, Lib.hid h2, .inr ⟨hist_len _, by omega, by omega, Lib.hid (fun j hj => by have := hist_bd (img W H 1 F) j; omega), Lib.hid ?_, _, _, _, _, _, Lib.hid h6, Lib.hid h5, hist_len _, Lib.hid (fun n hn => hist_inv _ n hn)⟩⟩
    rw [hist_len, sm_all _ h.mem, img_len]
    simp
end Go.Proofs.Ytpjljhboodbmeaa
