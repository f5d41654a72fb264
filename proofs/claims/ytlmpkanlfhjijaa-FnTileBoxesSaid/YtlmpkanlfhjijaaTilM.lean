/- Tiles as regions: each lies in the grid, together they have the pixels of the image. -/
import Derived.Test.YtlmpkanlfhjijaaTile
import Derived.Test.YtlmpkanlfhjijaaCmbL
import Derived.Test.YtlmpkanlfhjijaaBoxL
namespace Go.Proofs.Ytlmpkanlfhjijaa
open Go.RowKit
set_option linter.unusedSimpArgs false
set_option linter.unusedVariables false
set_option maxRecDepth 20000

def tX (W t : Nat) : Int := ((t % tcol W * 4 : Nat) : Int)
def tY (W t : Nat) : Int := ((t / tcol W * 4 : Nat) : Int)
/-- Whether a pixel lies in tile t. -/
def inT (W H t x y : Nat) : Bool := decide ((tY W t ≤ y ∧ (y : Int) < tY W t + tsd H (tY W t)) ∧ tX W t ≤ x ∧ (x : Int) < tX W t + tsd W (tX W t))
/-- .. in one of the first k tiles. -/
def unT (W H : Nat) : Nat → Nat → Nat → Bool
  | 0 => fun _ _ => false
  | k + 1 => fun x y => unT W H k x y || inT W H k x y
/-- The numbers of pixels of the first k tiles. -/
def smT (W H : Nat) : Nat → Int
  | 0 => 0
  | k + 1 => smT W H k + tsd W (tX W k) * tsd H (tY W k)
theorem tsd_cases (W x : Int) : (W - x < 4 ∧ tsd W x = W - x) ∨ (4 ≤ W - x ∧ tsd W x = 4) := by
  unfold tsd
  by_cases h : W - x < 4
  · rw [if_pos h]; omega
  · rw [if_neg h]; omega
theorem tcol_bds (W : Nat) : W ≤ 4 * tcol W ∧ 4 * tcol W < W + 4 := by unfold tcol; omega
theorem tile_at {W H t : Nat} (hW : 1 ≤ W) (hH : 1 ≤ H) (ht : t < tcnt W H) : (0 ≤ tX W t ∧ tX W t ≤ W - 1) ∧ 0 ≤ tY W t ∧ tY W t ≤ H - 1 := by
  have c0 := tcol_pos hW
  have a := tcol_bds W
  have b := tcol_bds H
  have hm : t % tcol W < tcol W := Nat.mod_lt _ (by omega)
  have hd : t / tcol W < tcol H := Nat.div_lt_of_lt_mul ht
  unfold tX tY
  generalize t % tcol W = m at *
  generalize t / tcol W = d at *
  generalize tcol W = cw at *
  generalize tcol H = ch at *
  clear ht
  omega
theorem tile_ft {W H t : Nat} (hW : 1 ≤ W ∧ W ≤ 16) (hH : 1 ≤ H ∧ H ≤ 16) (ht : t < tcnt W H) : ftB (tX W t) (tY W t) (tsd W (tX W t)) (tsd H (tY W t)) 16 16 = true ∧ (1 ≤ tsd W (tX W t) ∧ tsd W (tX W t) ≤ 4) ∧ 1 ≤ tsd H (tY W t) ∧ tsd H (tY W t) ≤ 4 := by
  obtain ⟨⟨x0, x1⟩, y0, y1⟩ := tile_at hW.1 hH.1 ht
  have a := tsd_cases W (tX W t)
  have b := tsd_cases H (tY W t)
  generalize tX W t = X at *
  generalize tY W t = Y at *
  generalize tsd W X = w at *
  generalize tsd H Y = h at *
  refine ⟨?_, by omega, by omega⟩
  unfold ftB
  simp only [Bool.and_eq_true, decide_eq_true_eq]
  omega
theorem rh_brow {x y bw : Int} {N : Nat} (a b : Int) : ∀ k, k ≤ N → rh (brow x y bw N) a b k = decide ((y ≤ b ∧ b < y + k) ∧ x ≤ a ∧ a < x + bw)
  | 0, _ => by
    show false = _
    rw [eq_comm, decide_eq_false_iff_not]
    omega
  | k + 1, h => by
    unfold rh
    rw [rh_brow a b k (by omega), brow_Y (show k < N by omega), brow_F (show k < N by omega), brow_T (show k < N by omega)]
    unfold runB
    rw [Bool.eq_iff_iff]
    simp only [Bool.or_eq_true, Bool.and_eq_true, decide_eq_true_eq]
    push_cast
    omega
theorem rh_brL {x y bw bh : Int} (h : ftB x y bw bh 16 16 = true) (a b : Int) : rh (brL x y bw bh) a b (brN x y bw bh) = decide ((y ≤ b ∧ b < y + bh) ∧ x ≤ a ∧ a < x + bw) := by
  have e : brN x y bw bh = bh.toNat := by unfold brN; rw [h, if_pos rfl]
  have hb := ftB_bd h
  unfold brL
  rw [rh_brow a b _ (Nat.le_refl _), e]
  rw [show ((bh.toNat : Nat) : Int) = bh by omega]
/-- A tile more. -/
theorem til_step {W H t : Nat} (hW : 1 ≤ W ∧ W ≤ 16) (hH : 1 ≤ H ∧ H ≤ 16) (ht : t < tcnt W H) :
    cbL 0 (rnL (unT W H t)) (rnN (unT W H t)) (brL (tX W t) (tY W t) (tsd W (tX W t)) (tsd H (tY W t))) (brN (tX W t) (tY W t) (tsd W (tX W t)) (tsd H (tY W t))) = rnL (unT W H (t + 1)) ∧
    cbN 0 (rnL (unT W H t)) (rnN (unT W H t)) (brL (tX W t) (tY W t) (tsd W (tX W t)) (tsd H (tY W t))) (brN (tX W t) (tY W t) (tsd W (tX W t)) (tsd H (tY W t))) = rnN (unT W H (t + 1)) := by
  have hf := (tile_ft hW hH ht).1
  have hok : cmbOk 0 (rnL (unT W H t)) (rnN (unT W H t)) (brL (tX W t) (tY W t) (tsd W (tX W t)) (tsd H (tY W t))) (brN (tX W t) (tY W t) (tsd W (tX W t)) (tsd H (tY W t))) = true := by
    unfold cmbOk; rw [regB_yes (rnL_reg _), (box_law hf).1]; rfl
  have e : rnL (cmbG 0 (rnL (unT W H t)) (rnN (unT W H t)) (brL (tX W t) (tY W t) (tsd W (tX W t)) (tsd H (tY W t))) (brN (tX W t) (tY W t) (tsd W (tX W t)) (tsd H (tY W t)))) = rnL (unT W H (t + 1)) := rnL_congr (fun x y hx hy => by
    unfold cmbG krule
    rw [if_pos rfl, rnL_has _ hx hy, rh_brL hf]
    rfl)
  unfold cbL cbN
  rw [hok]
  refine ⟨e, ?_⟩
  exact congrArg (fun l : List Int => l.length / 3) e
theorem unT_iff {W H : Nat} {x y : Nat} : ∀ k, unT W H k x y = true ↔ ∃ j, j < k ∧ inT W H j x y = true
  | 0 => by
    show false = true ↔ _
    constructor
    · intro h; cases h
    · rintro ⟨j, hj, _⟩; omega
  | k + 1 => by
    show (unT W H k x y || inT W H k x y) = true ↔ _
    rw [Bool.or_eq_true, unT_iff k]
    constructor
    · rintro (⟨j, hj, h⟩ | h)
      · exact ⟨j, by omega, h⟩
      · exact ⟨k, by omega, h⟩
    · rintro ⟨j, hj, h⟩
      by_cases e : j = k
      · subst e; exact .inr h
      · exact .inl ⟨j, by omega, h⟩
/-- All tiles together have the pixels of the image. -/
theorem unT_all {W H : Nat} (hW : 1 ≤ W) (hH : 1 ≤ H) (x y : Nat) : unT W H (tcnt W H) x y = decide (((0 : Int) ≤ y ∧ (y : Int) < 0 + (H : Int)) ∧ (0 : Int) ≤ x ∧ (x : Int) < 0 + (W : Int)) := by
  rw [Bool.eq_iff_iff, unT_iff, decide_eq_true_eq]
  constructor
  · rintro ⟨j, hj, h⟩
    unfold inT at h
    have h := of_decide_eq_true h
    have a := tsd_cases W (tX W j)
    have b := tsd_cases H (tY W j)
    omega
  · intro h
    have c0 := tcol_pos hW
    have hx : x / 4 < tcol W := by unfold tcol; omega
    have hy : y / 4 < tcol H := by unfold tcol; omega
    have em : (y / 4 * tcol W + x / 4) % tcol W = x / 4 := by rw [Nat.add_comm, Nat.add_mul_mod_self_right]; exact Nat.mod_eq_of_lt hx
    have ed : (y / 4 * tcol W + x / 4) / tcol W = y / 4 := by rw [Nat.add_comm, Nat.add_mul_div_right _ _ (by omega), Nat.div_eq_of_lt hx, Nat.zero_add]
    refine ⟨y / 4 * tcol W + x / 4, ?_, ?_⟩
    · unfold tcnt
      have : (y / 4 + 1) * tcol W ≤ tcol H * tcol W := Nat.mul_le_mul_right _ hy
      rw [Nat.add_mul, Nat.one_mul] at this
      rw [Nat.mul_comm (tcol W)]
      omega
    · unfold inT
      apply decide_eq_true
      have a := tsd_cases W (tX W (y / 4 * tcol W + x / 4))
      have b := tsd_cases H (tY W (y / 4 * tcol W + x / 4))
      have e1 : tX W (y / 4 * tcol W + x / 4) = ((x / 4 * 4 : Nat) : Int) := by unfold tX; rw [em]
      have e2 : tY W (y / 4 * tcol W + x / 4) = ((y / 4 * 4 : Nat) : Int) := by unfold tY; rw [ed]
      rw [e1] at a ⊢
      rw [e2] at b ⊢
      generalize tsd (W : Int) ((x / 4 * 4 : Nat) : Int) = p at *
      generalize tsd (H : Int) ((y / 4 * 4 : Nat) : Int) = q at *
      clear em ed e1 e2 hx hy c0
      omega
theorem til_all {W H : Nat} (hW : 1 ≤ W ∧ W ≤ 16) (hH : 1 ≤ H ∧ H ≤ 16) : areaV (rnL (unT W H (tcnt W H))) (rnN (unT W H (tcnt W H))) = (W : Int) * H := by
  have hf : ftB 0 0 (W : Int) (H : Int) 16 16 = true := by unfold ftB; simp only [Bool.and_eq_true, decide_eq_true_eq]; omega
  obtain ⟨hr, _, _, _, _, _, ha, _⟩ := box_law hf
  have hl : (brL 0 0 (W : Int) (H : Int)).length = 3 * brN 0 0 (W : Int) (H : Int) := by unfold brL; rw [brow_len]; omega
  obtain ⟨e1, e2⟩ := rnL_uniq (G := unT W H (tcnt W H)) hl (regB_of hr) (fun x y hx hy => by rw [rh_brL hf, unT_all hW.1 hH.1])
  rw [← e1, ← e2]
  exact ha
theorem smT_sum : ∀ W, W < 17 → ∀ H, H < 17 → smT W H (tcnt W H) = (W : Int) * H := by decide +kernel
theorem smT_bd {W H : Nat} (hW : 1 ≤ W ∧ W ≤ 16) (hH : 1 ≤ H ∧ H ≤ 16) : ∀ k, k ≤ tcnt W H → 0 ≤ smT W H k ∧ smT W H k ≤ 16 * k
  | 0, _ => by simp [smT]
  | k + 1, h => by
    have ih := smT_bd hW hH k (by omega)
    obtain ⟨_, ⟨a, b⟩, c, d⟩ := tile_ft hW hH (show k < tcnt W H by omega)
    have m1 := Int.mul_le_mul b d (by omega) (by omega)
    have m0 := Int.mul_nonneg (show (0 : Int) ≤ tsd W (tX W k) by omega) (show (0 : Int) ≤ tsd H (tY W k) by omega)
    unfold smT
    push_cast
    omega
/-- The cells of tile t in the list of the first n. -/
theorem tileL_get (W H : Nat) : ∀ n t, t < n → (tileL W H n).getD (t * 4) 0 = tX W t ∧ (tileL W H n).getD (t * 4 + 1) 0 = tY W t ∧ (tileL W H n).getD (t * 4 + 2) 0 = tsd W (tX W t) ∧ (tileL W H n).getD (t * 4 + 3) 0 = tsd H (tY W t)
  | 0, t, h => by omega
  | n + 1, t, h => by
    have hl := tileL_len W H n
    by_cases e : t = n
    · subst e
      unfold tileL
      refine ⟨?_, ?_, ?_, ?_⟩ <;> (rw [List.getD_eq_getElem?_getD, List.getElem?_append_right (by omega), hl]; first | (rw [Nat.sub_self]; rfl) | (rw [Nat.add_sub_cancel_left]; rfl))
    · obtain ⟨a, b, c, d⟩ := tileL_get W H n t (by omega)
      unfold tileL
      refine ⟨?_, ?_, ?_, ?_⟩ <;> rw [List.getD_eq_getElem?_getD, List.getElem?_append_left (by omega), ← List.getD_eq_getElem?_getD] <;> assumption
end Go.Proofs.Ytlmpkanlfhjijaa
