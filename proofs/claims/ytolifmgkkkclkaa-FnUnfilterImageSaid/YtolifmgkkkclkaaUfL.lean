/- What the laws say of filtered images. -/
import Derived.Test.YtolifmgkkkclkaaUfI
import Derived.Test.YtolifmgkkkclkaaUfS
import Derived.Test.YtolifmgkkkclkaaFlI
import Derived.Test.YtolifmgkkkclkaaFlS
import Derived.Test.YtolifmgkkkclkaaLSt
namespace Go.Proofs.Ytolifmgkkkclkaa
open Go.RowKit Go.Shelf
set_option linter.unusedSimpArgs false
set_option linter.unusedVariables false

theorem shows_made {q : List Int} {w : World} {e : Ending} {w' : World} (h : Made q w e w') : Shows q w e w' := by
  obtain ⟨v, rfl, hO, hB⟩ := h
  obtain ⟨A, c, rfl, hc⟩ := hO.slice
  exact ⟨A, c, rfl, hc, hO.rds.2, hB⟩
theorem shib_uf {ok : Bool} {W H P : Int} {ys : List Int} {w : World} {e : Ending} {w' : World} (h : UfR ok W H P ys w e w') : ShIB (cond ok W 0) (cond ok H 0) (cond ok P 0) (cond ok ys []) ok w e w' := by
  obtain ⟨v, rfl, hO, hB⟩ := h
  obtain ⟨A, c, rfl, hc⟩ := hO.slice
  exact ⟨A, c, rfl, hc, hO.rds.2, hB⟩
theorem byt_all {xs : List Int} (h : ∀ j, j < xs.length → 0 ≤ xs.getD j 0 ∧ xs.getD j 0 ≤ 255) : Byt xs := fun j => by
  by_cases hj : j < xs.length
  · exact h j hj
  · have : xs.getD j 0 = 0 := by simp [List.getD_eq_getElem?_getD, List.getElem?_eq_none (show xs.length ≤ j by omega)]
    rw [this]; omega
theorem fim_bd (W H P : Int) (xs : List Int) : (fimV W H P xs).length ≤ 2000 := by
  unfold fimV
  cases h : vim W H P xs
  · simp
  · obtain ⟨W, H, P, rfl, rfl, rfl, hW1, hW, hH1, hH, hP1, hP, hln, hby⟩ := vim_nat h
    show (fiL (W * P) P xs H).length ≤ 2000
    rw [fiL_len]
    have h64 : W * P ≤ 64 := Nat.mul_le_mul hW hP
    have := Nat.mul_le_mul hH (show W * P + 1 ≤ 65 by omega)
    omega
/-- Filtered images can be restored. -/
theorem fli_law (W H P : Int) (xs : List Int) (hx : xs.length ≤ 256) : ∃ ys : List Int, ys.length ≤ 2000 ∧
    Hid (∀ (A : Option Addr) (c : Nat) (w : World), Rds .i64 w w.heap.size A xs → xs.length ≤ c → Calls Try.prog 8 #[.agg #[.int .i64 W, .int .i64 H, .int .i64 P, .slice A xs.length c]] w (Shows ys w)) ∧
    Hid (∀ (A : Option Addr) (c : Nat) (w : World), Rds .i64 w w.heap.size A xs → xs.length ≤ c → Calls Try.prog 10 #[.agg #[.int .i64 W, .int .i64 H, .int .i64 P, .slice A xs.length c]] w (Shows ys w)) ∧
    (ys = [] ∨ ∃ a b d : Nat, W = a ∧ H = b ∧ P = d ∧ a ≤ 16 ∧ b ≤ 16 ∧ d ≤ 4 ∧ 0 < ys.length ∧ ys.length = b * (a * d + 1) ∧
      Hid (∀ (A : Option Addr) (c : Nat) (w : World), Rds .i64 w w.heap.size A ys → ys.length ≤ c → Calls Try.prog 11 #[.int .i64 (a : Int), .int .i64 (b : Int), .int .i64 (d : Int), .slice A ys.length c] w (ShIB a b d xs true w))) := by
  refine ⟨fimV W H P xs, fim_bd W H P xs, Lib.hid fun A c w hr hc => (i_FilterImage W H P A c xs w hr (by omega) hc).mono fun _ _ => shows_made, Lib.hid fun A c w hr hc => (s_FilterImage W H P A c xs w hr (by omega) hc).mono fun _ _ => shows_made, ?_⟩
  cases h : vim W H P xs
  · left; unfold fimV; rw [h]; rfl
  · right
    have hv := h
    obtain ⟨a, b, d, rfl, rfl, rfl, hW1, hW, hH1, hH, hP1, hP, hln, hby⟩ := vim_nat h
    have hl : xs.length = b * (a * d) := by rw [hln, Nat.mul_comm a b, Nat.mul_assoc]
    have e : fimV (a : Int) (b : Int) (d : Int) xs = fiL (a * d) d xs b := by unfold fimV; rw [hv]; rfl
    have hb := byt_all hby
    have hlen : (fimV (a : Int) (b : Int) (d : Int) xs).length = b * (a * d + 1) := by rw [e, fiL_len]
    refine ⟨a, b, d, rfl, rfl, rfl, hW, hH, hP, by rw [hlen]; exact Nat.mul_pos hH1 (by omega), hlen, Lib.hid fun A c w hr hc => ?_⟩
    have hvs : vsh (a : Int) (b : Int) (d : Int) = true := by
      unfold vim at hv
      rw [Bool.and_eq_true] at hv
      exact hv.1
    have hok : ufOk (a : Int) (b : Int) (d : Int) (fimV (a : Int) (b : Int) (d : Int) xs) = true := by
      rw [ufOk_y hvs (by rw [hlen]; simp), e]
      exact ok_fi
    have hL : ufL (a : Int) (b : Int) (d : Int) (fimV (a : Int) (b : Int) (d : Int) xs) = xs := by
      show unL (a * d) d _ b = xs
      rw [e, unL_fi hP1 hl hb b (Nat.le_refl _), List.take_of_length_le (by rw [hl]; exact Nat.le_refl _)]
    have h2 := i_UnfilterImage (a : Int) (b : Int) (d : Int) A c _ w hr (Nat.le_trans (fim_bd _ _ _ _) (by omega)) hc
    refine h2.mono fun e w' h3 => ?_
    have h4 := shib_uf h3
    rw [hok, hL] at h4
    exact h4
theorem ufl_bd (W H P : Int) (l : List Int) : (cond (ufOk W H P l) (ufL W H P l) []).length ≤ 1024 := by
  cases h : ufOk W H P l
  · simp
  · unfold ufOk at h
    rw [Bool.and_eq_true] at h
    obtain ⟨W, H, P, rfl, rfl, rfl, ⟨_, hW⟩, ⟨_, hH⟩, _, hP⟩ := vsh_natU h.1
    show (unL (W * P) P l H).length ≤ 1024
    rw [unL_len]
    have h64 : W * P ≤ 64 := Nat.mul_le_mul hW hP
    exact Nat.mul_le_mul hH h64
/-- All filters lead to an image. -/
theorem ufi_law (W H P : Int) (l : List Int) (hx : l.length ≤ 2001) : ∃ (X Y Z : Int) (ys : List Int) (ok : Bool), ys.length ≤ 1024 ∧
    Hid (∀ (A : Option Addr) (c : Nat) (w : World), Rds .i64 w w.heap.size A l → l.length ≤ c → Calls Try.prog 11 #[.int .i64 W, .int .i64 H, .int .i64 P, .slice A l.length c] w (ShIB X Y Z ys ok w)) ∧
    Hid (∀ (A : Option Addr) (c : Nat) (w : World), Rds .i64 w w.heap.size A l → l.length ≤ c → Calls Try.prog 14 #[.int .i64 W, .int .i64 H, .int .i64 P, .slice A l.length c] w (ShIB X Y Z ys ok w)) ∧
    (ok = false ∨ (ok = true ∧ X = W ∧ Y = H ∧ Z = P ∧ ∃ zs : List Int, zs.length ≤ 2000 ∧
      Hid (∀ (A : Option Addr) (c : Nat) (w : World), Rds .i64 w w.heap.size A ys → ys.length ≤ c → Calls Try.prog 8 #[.agg #[.int .i64 X, .int .i64 Y, .int .i64 Z, .slice A ys.length c]] w (Shows zs w)) ∧
      Hid (∀ (A : Option Addr) (c : Nat) (w : World), Rds .i64 w w.heap.size A zs → zs.length ≤ c → Calls Try.prog 11 #[.int .i64 X, .int .i64 Y, .int .i64 Z, .slice A zs.length c] w (ShIB X Y Z ys true w)) ∧
      Hid (∀ (A : Option Addr) (c : Nat) (w : World), Rds .i64 w w.heap.size A ys → Calls Try.prog 15 #[.agg #[.int .i64 X, .int .i64 Y, .int .i64 Z, .slice A ys.length c]] w fun e w' => e = .returned (.bool true) ∧ Below w.heap.size w w'))) := by
  refine ⟨_, _, _, _, ufOk W H P l, ufl_bd W H P l, Lib.hid fun A c w hr hc => (i_UnfilterImage W H P A c l w hr (by omega) hc).mono fun _ _ => shib_uf, Lib.hid fun A c w hr hc => (s_UnfilterImage W H P A c l w hr (by omega) hc).mono fun _ _ => shib_uf, ?_⟩
  cases h : ufOk W H P l
  · exact .inl rfl
  · right
    refine ⟨rfl, rfl, rfl, rfl, ?_⟩
    show ∃ zs : List Int, zs.length ≤ 2000 ∧ _
    have h0 := h
    unfold ufOk at h
    rw [Bool.and_eq_true] at h
    obtain ⟨a, b, d, rfl, rfl, rfl, ⟨hW1, hW⟩, ⟨hH1, hH⟩, hP1, hP⟩ := vsh_natU h.1
    have hys : ufL (a : Int) (b : Int) (d : Int) l = unL (a * d) d l b := rfl
    have hl : (ufL (a : Int) (b : Int) (d : Int) l).length = b * (a * d) := by rw [hys, unL_len]
    have hbb : ∀ v ∈ ufL (a : Int) (b : Int) (d : Int) l, 0 ≤ v ∧ v ≤ 255 := by rw [hys]; exact unL_byt _ _ _ _
    have hv : vim (a : Int) (b : Int) (d : Int) (ufL (a : Int) (b : Int) (d : Int) l) = true := by
      unfold vim
      rw [h.1, Bool.true_and, Bool.and_eq_true, decide_eq_true_eq, hl]
      refine ⟨by rw [Nat.mul_comm a d, ← Nat.mul_assoc]; simp [Int.mul_comm, Int.mul_left_comm, Int.mul_assoc], ?_⟩
      unfold allB
      exact decide_eq_true hbb
    obtain ⟨zs, hzl, HI, _, hor⟩ : ∃ zs : List Int, zs.length ≤ 2000 ∧ Hid (∀ (A : Option Addr) (c : Nat) (w : World), Rds .i64 w w.heap.size A (ufL (a : Int) (b : Int) (d : Int) l) → (ufL (a : Int) (b : Int) (d : Int) l).length ≤ c → Calls Try.prog 8 #[.agg #[.int .i64 (a : Int), .int .i64 (b : Int), .int .i64 (d : Int), .slice A (ufL (a : Int) (b : Int) (d : Int) l).length c]] w (Shows zs w)) ∧ True ∧ Hid (∀ (A : Option Addr) (c : Nat) (w : World), Rds .i64 w w.heap.size A zs → zs.length ≤ c → Calls Try.prog 11 #[.int .i64 (a : Int), .int .i64 (b : Int), .int .i64 (d : Int), .slice A zs.length c] w (ShIB a b d (ufL (a : Int) (b : Int) (d : Int) l) true w)) := by
      generalize ufL (a : Int) (b : Int) (d : Int) l = xs at *
      have e : fimV (a : Int) (b : Int) (d : Int) xs = fiL (a * d) d xs b := by unfold fimV; rw [hv]; rfl
      have hlen : (fimV (a : Int) (b : Int) (d : Int) xs).length = b * (a * d + 1) := by rw [e, fiL_len]
      refine ⟨fimV a b d xs, fim_bd _ _ _ _, Lib.hid fun A c w hr hc => (i_FilterImage a b d A c xs w hr (by rw [hl]; exact Nat.le_trans (Nat.mul_le_mul hH (Nat.mul_le_mul hW hP)) (by omega)) hc).mono fun _ _ => shows_made, trivial, Lib.hid fun A c w hr hc => ?_⟩
      have hok : ufOk (a : Int) (b : Int) (d : Int) (fimV (a : Int) (b : Int) (d : Int) xs) = true := by
        rw [ufOk_y h.1 (by rw [hlen]; simp), e]
        exact ok_fi
      have hL : ufL (a : Int) (b : Int) (d : Int) (fimV (a : Int) (b : Int) (d : Int) xs) = xs := by
        show unL (a * d) d _ b = xs
        rw [e, unL_fi hP1 hl (byt_of hbb) b (Nat.le_refl _), List.take_of_length_le (by rw [hl]; exact Nat.le_refl _)]
      refine (i_UnfilterImage (a : Int) (b : Int) (d : Int) A c _ w hr (Nat.le_trans (fim_bd _ _ _ _) (by omega)) hc).mono fun e w' h3 => ?_
      have h4 := shib_uf h3
      rw [hok, hL] at h4
      exact h4
    refine ⟨zs, hzl, HI, hor, Lib.hid fun A c w hr => ?_⟩
    refine (iVimg_any (a : Int) (b : Int) (d : Int) A c (ufL (a : Int) (b : Int) (d : Int) l) w hr (by rw [hl]; exact Nat.le_trans (Nat.mul_le_mul hH (Nat.mul_le_mul hW hP)) (by omega))).mono fun e w' h3 => ?_
    rw [hv] at h3
    exact h3
end Go.Proofs.Ytolifmgkkkclkaa
