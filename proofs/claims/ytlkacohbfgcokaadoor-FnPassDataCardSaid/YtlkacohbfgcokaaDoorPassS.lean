/- Contracts of the sizes of passes in the model. -/
import Derived.Test.YtlkacohbfgcokaaDoorLevel
import Derived.Test.YtlkacohbfgcokaaDoorWords
import Derived.Deep.QuietTactic
namespace Go.Proofs.YtlkacohbfgcokaaDoor
open Go.RowKit
set_option linter.unusedSimpArgs false
set_option linter.unusedVariables false

theorem below_dn {B : Nat} {a w : World} (h : Below B a w) (n : Nat) : Below B a (w.drewN n) := ⟨h.os, h.tape, h.output, h.size, h.block⟩
/-- First column, first row, distance of columns, distance of rows. -/
def psx (p : Nat) : Int := [0, 4, 0, 2, 0, 1, 0].getD p 0
def psy (p : Nat) : Int := [0, 0, 4, 0, 2, 0, 1].getD p 0
def pdx (p : Nat) : Int := [8, 8, 4, 4, 2, 2, 1].getD p 0
def pdy (p : Nat) : Int := [8, 8, 8, 4, 4, 2, 2].getD p 0
theorem pass_bd (p : Nat) (hp : p ≤ 6) : (0 ≤ psx p ∧ psx p < pdx p ∧ pdx p ≤ 8) ∧ (0 ≤ psy p ∧ psy p < pdy p ∧ pdy p ≤ 8) := by
  have h : p = 0 ∨ p = 1 ∨ p = 2 ∨ p = 3 ∨ p = 4 ∨ p = 5 ∨ p = 6 := by omega
  rcases h with rfl | rfl | rfl | rfl | rfl | rfl | rfl <;> decide
/-- How many lie on a side. -/
def pcnt (n f d : Int) : Int := (n - f + d - 1) / d
theorem pcnt_bd {n f d : Int} (hn : 1 ≤ n) (hn2 : n ≤ 16) (hf : 0 ≤ f) (hfd : f < d) (hd : d ≤ 8) : (n - f + d - 1).tdiv d = pcnt n f d ∧ 0 ≤ pcnt n f d ∧ pcnt n f d ≤ 100 := by
  have h0 : 0 ≤ n - f + d - 1 := by omega
  refine ⟨Int.tdiv_eq_ediv_of_nonneg h0, Int.ediv_nonneg h0 (by omega), ?_⟩
  have := Int.ediv_le_self (a := n - f + d - 1) d h0
  unfold pcnt
  omega
/-- The arguments of PassSize that are valid. -/
def pok (W H p : Int) : Bool := decide (1 ≤ W ∧ W ≤ 16) && (decide (1 ≤ H ∧ H ≤ 16) && decide (0 ≤ p ∧ p ≤ 6))
theorem pok_of {W H p : Int} (h : pok W H p = true) : ∃ k : Nat, p = k ∧ k ≤ 6 ∧ 1 ≤ W ∧ W ≤ 16 ∧ 1 ≤ H ∧ H ≤ 16 := by
  simp only [pok, Bool.and_eq_true, decide_eq_true_eq] at h
  obtain ⟨⟨h1, h2⟩, ⟨h3, h4⟩, h5, h6⟩ := h
  obtain ⟨k, rfl⟩ := Int.eq_ofNat_of_zero_le h5
  exact ⟨k, rfl, by omega, h1, h2, h3, h4⟩
def psW (W H p : Int) : Int := if pok W H p = true then pcnt W (psx p.toNat) (pdx p.toNat) else -1
def psH (W H p : Int) : Int := if pok W H p = true then pcnt H (psy p.toNat) (pdy p.toNat) else -1
set_option maxHeartbeats 32000000 in
theorem s_passStart (p : Nat) (hp : p ≤ 6) (w : World) : Calls Tryd.prog 64 #[.int .i64 (p : Int)] w fun e w' => e = .returned (.tuple #[.int .i64 (psx p), .int .i64 (psy p), .int .i64 (pdx p), .int .i64 (pdy p)]) ∧ Below w.heap.size w w' := by
  have h : p = 0 ∨ p = 1 ∨ p = 2 ∨ p = 3 ∨ p = 4 ∨ p = 5 ∨ p = 6 := by omega
  clear hp
  rcases h with rfl | rfl | rfl | rfl | rfl | rfl | rfl
  all_goals
    go_enter Tryd.func64, Tryd.ntmps64
    go_wp2
    go_quiet (fail)
    go_wp2
    exact bodyPost_ret (v := .tuple #[.int .i64 (psx _), .int .i64 (psy _), .int .i64 (pdx _), .int .i64 (pdy _)]) (by simp [results, Tryd.results64, go_sem, psx, psy, pdx, pdy]) rfl ⟨rfl, by (repeat' (first | (exact Below.refl _ _) | (refine Below.setCell ?_ (by first | omega | (simp; done) | (simp; omega)) _) | (refine below_dn ?_ _) | (refine Below.drew ?_) | (refine Below.alloc ?_ (by first | omega | (simp; done) | (simp; omega)) _) | (exact Below.refl _ _)))⟩
set_option maxHeartbeats 8000000 in
theorem s_passSize (W H : Int) (p : Nat) (hW1 : 1 ≤ W) (hW : W ≤ 16) (hH1 : 1 ≤ H) (hH : H ≤ 16) (hp : p ≤ 6) (w : World) : Calls Tryd.prog 53 #[.int .i64 W, .int .i64 H, .int .i64 (p : Int)] w fun e w' => e = .returned (.tuple #[.int .i64 (pcnt W (psx p) (pdx p)), .int .i64 (pcnt H (psy p) (pdy p))]) ∧ Below w.heap.size w w' := by
  obtain ⟨⟨bx0, bx1, bx2⟩, ⟨by0, by1, by2⟩⟩ := pass_bd p hp
  obtain ⟨tx, tx0, tx1⟩ := pcnt_bd hW1 hW bx0 bx1 bx2
  obtain ⟨ty, ty0, ty1⟩ := pcnt_bd hH1 hH by0 by1 by2
  have HS := Lib.hid (s_passStart p hp w)
  generalize psx p = fx at *
  generalize psy p = fy at *
  generalize pdx p = dx at *
  generalize pdy p = dy at *
  go_enter Tryd.func53, Tryd.ntmps53
  go_wp2_with fail
  refine HS.out.mono ?_
  rintro e w1 ⟨rfl, hB⟩
  have a1 : IntKind.i64.wrap (W - fx) = W - fx := IntWalk.i64_in _ (by omega)
  have a2 : IntKind.i64.wrap (W - fx + dx) = W - fx + dx := IntWalk.i64_in _ (by omega)
  have a3 : IntKind.i64.wrap (W - fx + dx - 1) = W - fx + dx - 1 := IntWalk.i64_in _ (by omega)
  have a4 : IntKind.i64.wrap (pcnt W fx dx) = pcnt W fx dx := IntWalk.i64_in _ (by omega)
  have b1 : IntKind.i64.wrap (H - fy) = H - fy := IntWalk.i64_in _ (by omega)
  have b2 : IntKind.i64.wrap (H - fy + dy) = H - fy + dy := IntWalk.i64_in _ (by omega)
  have b3 : IntKind.i64.wrap (H - fy + dy - 1) = H - fy + dy - 1 := IntWalk.i64_in _ (by omega)
  have b4 : IntKind.i64.wrap (pcnt H fy dy) = pcnt H fy dy := IntWalk.i64_in _ (by omega)
  have mx : (if 0 < pcnt W fx dx then pcnt W fx dx else 0) = pcnt W fx dx := by split <;> omega
  have my : (if 0 < pcnt H fy dy then pcnt H fy dy else 0) = pcnt H fy dy := by split <;> omega
  have d0 : dx ≠ 0 := by omega
  have d1 : dy ≠ 0 := by omega
  go_wp2
  go_quiet (fail)
  go_wp2
  go_ret2
  exact ⟨by first | rfl | (simp [go_sem]; done), by (repeat' (first | (exact hB) | (refine Below.setCell ?_ (by first | omega | (simp; done) | (simp; omega)) _) | (refine below_dn ?_ _) | (refine Below.drew ?_) | (refine Below.alloc ?_ (by first | omega | (simp; done) | (simp; omega)) _) | (exact Below.refl _ _)))⟩
theorem pok_def (W H p : Int) : pok W H p = (decide (1 ≤ W ∧ W ≤ 16) && (decide (1 ≤ H ∧ H ≤ 16) && decide (0 ≤ p ∧ p ≤ 6))) := rfl
set_option maxHeartbeats 2000000 in
theorem sShp1_any (W H : Int) (w : World) : Calls Tryd.prog 52 #[.int .i64 W, .int .i64 H, .int .i64 1] w fun e w' => e = .returned (.bool (decide (1 ≤ W ∧ W ≤ 16) && decide (1 ≤ H ∧ H ≤ 16))) ∧ w = w' := by
  cases h1 : decide (1 ≤ W ∧ W ≤ 16) <;> cases h2 : decide (1 ≤ H ∧ H ≤ 16)
  all_goals
    go_enter Tryd.func52, Tryd.ntmps52
    go_wp2_with fail
    refine (sRng_any W 1 16 w).mono ?_
    rintro e w' ⟨rfl, rfl⟩
    rw [h1]
    go_wp2_with fail
    try (refine (sRng_any H 1 16 w).mono ?_; rintro e w' ⟨rfl, rfl⟩; rw [h2]; go_wp2_with fail)
    try (refine (sRng_any 1 1 4 w).mono ?_; rintro e w' ⟨rfl, rfl⟩; go_wp2_with fail)
    go_ret
    exact ⟨ret_bool (by rfl), rfl⟩
end Go.Proofs.YtlkacohbfgcokaaDoor
