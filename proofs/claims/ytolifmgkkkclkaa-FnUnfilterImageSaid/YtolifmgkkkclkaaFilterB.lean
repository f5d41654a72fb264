/- Contracts of the program's predictors and of valid rows. -/
import Derived.Test.YtolifmgkkkclkaaFilterA
import Derived.LoopN
import Derived.Shelf.Abstract
import Derived.Laws.EntriesVeiled
namespace Go.Proofs.Ytolifmgkkkclkaa
open Go.RowKit
set_option linter.unusedSimpArgs false
set_option linter.unusedVariables false

set_option maxHeartbeats 4000000 in
theorem iNeigh_any (A A' : Option Addr) (c c' : Nat) (xs bs : List Int) (s i B B' : Nat) (w : World) (hx : Rds .i64 w B A xs) (hb : Rds .i64 w B' A' bs) (hi : i < xs.length) (hi' : i < bs.length) (hs : 1 ≤ s) (hs4 : s ≤ 4) (hl : xs.length ≤ 64) (hl' : bs.length ≤ 64) :
    Calls Try.prog 50 #[.slice A xs.length c, .slice A' bs.length c', .int .i64 i, .int .i64 s] w fun e w' => e = .returned (.tuple #[.int .i64 (back xs s i), .int .i64 (bs.getD i 0), .int .i64 (back bs s i)]) ∧ ∃ n, w' = w.drewN n := by
  obtain ⟨b, off, rfl, _, hcx⟩ := hx.cells_ hi
  obtain ⟨b', off', rfl, _, hcb⟩ := hb.cells_ hi'
  have hup := hcb i hi'
  by_cases hsi : s ≤ i
  · have hle := hcx (i - s) (by omega)
    have hco := hcb (i - s) (by omega)
    rw [back_hi hsi, back_hi hsi]
    have g1 : 0 ≤ (i : Int) - (s : Int) := by omega
    have g2 : (i : Int) - (s : Int) < (xs.length : Int) := by omega
    have g3 : (i : Int) - (s : Int) < (bs.length : Int) := by omega
    clear hcx hcb hx hb
    generalize xs.getD (i - s) 0 = l at *
    generalize bs.getD (i - s) 0 = co at *
    generalize bs.getD i 0 = u at *
    go_enter Try.func50, Try.ntmps50
    go_wp2
    have r1 : IntKind.i64.wrap ((i : Int) - (s : Int)) = (i : Int) - (s : Int) := IntWalk.i64_in _ (by omega)
    have r2 : ((i : Int) - (s : Int)).toNat = i - s := by omega
    go_quiet (fail)
    clear r1 r2
    go_wp2
    go_ret3
    exact ⟨rfl, _, rfl⟩
  · rw [back_lo (by omega), back_lo (by omega)]
    clear hcx hcb hx hb
    generalize bs.getD i 0 = u at *
    go_enter Try.func50, Try.ntmps50
    go_wp2
    go_quiet (fail)
    go_wp2
    go_ret3
    exact ⟨rfl, _, rfl⟩
/-- What a predictor of kind k must do. -/
def Predicts (g : Nat) (k : Int) : Prop := ∀ (l u c : Int) (w : World), (0 ≤ l ∧ l ≤ 255) → (0 ≤ u ∧ u ≤ 255) → (0 ≤ c ∧ c ≤ 255) →
  Calls Try.prog g #[.int .i64 l, .int .i64 u, .int .i64 c] w fun e w' => e = .returned (.int .i64 (pred k l u c)) ∧ w = w'
set_option maxHeartbeats 1000000 in
theorem pNone_any : Predicts 59 0 := by
  intro l u c w hl hu hc
  go_enter Try.func59, Try.ntmps59
  go_wp2
  go_ret
  exact ⟨ret_int (by simp [pred]), rfl⟩
set_option maxHeartbeats 1000000 in
theorem pLeft_any : Predicts 60 1 := by
  intro l u c w hl hu hc
  go_enter Try.func60, Try.ntmps60
  go_wp2
  go_ret
  exact ⟨ret_int (by simp [pred]), rfl⟩
set_option maxHeartbeats 1000000 in
theorem pUp_any : Predicts 61 2 := by
  intro l u c w hl hu hc
  go_enter Try.func61, Try.ntmps61
  go_wp2
  go_ret
  exact ⟨ret_int (by simp [pred]), rfl⟩
set_option maxHeartbeats 1000000 in
theorem pMean_any : Predicts 62 3 := by
  intro l u c w hl hu hc
  go_enter Try.func62, Try.ntmps62
  go_wp2
  go_ret
  exact ⟨ret_int (by simp [pred]), rfl⟩
theorem pae_b (l u c : Int) : pae l u c = if dist (u - (l + u - c)) < dist (l - (l + u - c)) then (if dist (c - (l + u - c)) < dist (u - (l + u - c)) then c else u) else (if dist (c - (l + u - c)) < dist (l - (l + u - c)) then c else l) := by
  rw [show u - (l + u - c) = c - l by omega, show l - (l + u - c) = c - u by omega, dist_comm c l, dist_comm c u, dist_comm c (l + u - c)]
  unfold pae
  have h1 := dist_nonneg (u - c)
  generalize dist (u - c) = A at *
  generalize dist (l - c) = B at *
  generalize dist (l + u - c - c) = C at *
  (repeat' split) <;> first | rfl | (exfalso; omega)
theorem idx2_0 (a b : Int) (w : World) : (Instr.index 74 (.agg #[.int .i64 a, .int .i64 b]) (.int .i64 0)).run Try.prog w = .ok (.int .i64 a) w := by
  simp [Instr.index, run_underlying Try.underlying74, asIntOf, go_sem]
theorem idx2_1 (a b : Int) (w : World) : (Instr.index 74 (.agg #[.int .i64 a, .int .i64 b]) (.int .i64 1)).run Try.prog w = .ok (.int .i64 b) w := by
  simp [Instr.index, run_underlying Try.underlying74, asIntOf, go_sem]
set_option maxHeartbeats 4000000 in
theorem pPaeth_any : Predicts 63 4 := by
  rintro l u c w ⟨l0, l1⟩ ⟨u0, u1⟩ ⟨c0, c1⟩
  have HE : Hid (pred 4 l u c = _) := Lib.hid ((show pred 4 l u c = pae l u c by simp [pred]).trans (pae_b l u c))
  have hi0 := idx2_0 u c
  have hi1 := idx2_1 u c
  by_cases h1 : dist (u - (l + u - c)) < dist (l - (l + u - c))
  · by_cases h2 : dist (c - (l + u - c)) < dist (u - (l + u - c))
    all_goals
      go_enter Try.func63, Try.ntmps63
      go_wp2
      refine wp_loop_rounds 3 ?_
      rw [rounds_succ]
      go_wp2_with fail
      refine (iDist_any u (l + u - c) _ (by omega) (by omega) (by omega) (by omega)).mono ?_
      rintro e w' ⟨rfl, rfl⟩
      go_wp2_with fail
      refine (iDist_any l (l + u - c) _ (by omega) (by omega) (by omega) (by omega)).mono ?_
      rintro e w' ⟨rfl, rfl⟩
      go_wp2
      rw [rounds_succ]
      go_wp2_with fail
      refine (iDist_any c (l + u - c) _ (by omega) (by omega) (by omega) (by omega)).mono ?_
      rintro e w' ⟨rfl, rfl⟩
      go_wp2_with fail
      refine (iDist_any u (l + u - c) _ (by omega) (by omega) (by omega) (by omega)).mono ?_
      rintro e w' ⟨rfl, rfl⟩
      go_wp2
      rw [rounds_succ]
      go_wp2
      go_ret
      refine ⟨ret_int ?_, rfl⟩
      rw [HE.out]
      (repeat' split) <;> first | rfl | (exfalso; omega)
  · by_cases h2 : dist (c - (l + u - c)) < dist (l - (l + u - c))
    all_goals
      go_enter Try.func63, Try.ntmps63
      go_wp2
      refine wp_loop_rounds 3 ?_
      rw [rounds_succ]
      go_wp2_with fail
      refine (iDist_any u (l + u - c) _ (by omega) (by omega) (by omega) (by omega)).mono ?_
      rintro e w' ⟨rfl, rfl⟩
      go_wp2_with fail
      refine (iDist_any l (l + u - c) _ (by omega) (by omega) (by omega) (by omega)).mono ?_
      rintro e w' ⟨rfl, rfl⟩
      go_wp2
      rw [rounds_succ]
      go_wp2_with fail
      refine (iDist_any c (l + u - c) _ (by omega) (by omega) (by omega) (by omega)).mono ?_
      rintro e w' ⟨rfl, rfl⟩
      go_wp2_with fail
      refine (iDist_any l (l + u - c) _ (by omega) (by omega) (by omega) (by omega)).mono ?_
      rintro e w' ⟨rfl, rfl⟩
      go_wp2
      rw [rounds_succ]
      go_wp2
      go_ret
      refine ⟨ret_int ?_, rfl⟩
      rw [HE.out]
      (repeat' split) <;> first | rfl | (exfalso; omega)
/-- The number of the predictor of a kind. -/
def pfn (k : Int) : Nat := if k = 0 then 59 else if k = 1 then 60 else if k = 2 then 61 else if k = 3 then 62 else 63
theorem kinds {k : Int} (h0 : 0 ≤ k) (h4 : k ≤ 4) : k = 0 ∨ k = 1 ∨ k = 2 ∨ k = 3 ∨ k = 4 := by omega
theorem pfn_predicts {k : Int} (h0 : 0 ≤ k) (h4 : k ≤ 4) : Predicts (pfn k) k := by
  rcases kinds h0 h4 with rfl | rfl | rfl | rfl | rfl
  · exact pNone_any
  · exact pLeft_any
  · exact pUp_any
  · exact pMean_any
  · exact pPaeth_any
theorem pfn_enters {k : Int} (h0 : 0 ≤ k) (h4 : k ≤ 4) : ∀ args w, (callFunc (pfn k) args).run Try.prog w = .ok (.enter (pfn k) args) w := by
  rcases kinds h0 h4 with rfl | rfl | rfl | rfl | rfl
  · exact enters_of Try.func59 (by kernel_rfl) rfl
  · exact enters_of Try.func60 (by kernel_rfl) rfl
  · exact enters_of Try.func61 (by kernel_rfl) rfl
  · exact enters_of Try.func62 (by kernel_rfl) rfl
  · exact enters_of Try.func63 (by kernel_rfl) rfl
set_option maxHeartbeats 2000000 in
theorem pof_yes (k : Int) (w : World) (h0 : 0 ≤ k) (h4 : k ≤ 4) :
    Calls Try.prog 48 #[.int .i64 k] w fun e w' => e = .returned (.tuple #[.func (.func (pfn k)) #[] #[], .bool true]) ∧ Below w.heap.size w w' := by
  rcases kinds h0 h4 with rfl | rfl | rfl | rfl | rfl
  all_goals
    go_enter Try.func48, Try.ntmps48
    go_wp2_with fail
    refine (iIn_any _ _ _ _).mono ?_
    rintro e w' ⟨rfl, rfl⟩
    go_wp2
    go_ret2
    exact ⟨rfl, (Below.refl _ _).alloc (Nat.le_refl _) _⟩
set_option maxHeartbeats 2000000 in
theorem pof_no (k : Int) (w : World) (h : decide (0 ≤ k ∧ k ≤ 4) = false) :
    Calls Try.prog 48 #[.int .i64 k] w fun e w' => e = .returned (.tuple #[.nilFunc, .bool false]) ∧ Below w.heap.size w w' := by
  go_enter Try.func48, Try.ntmps48
  go_wp2_with fail
  refine (iIn_any _ _ _ _).mono ?_
  rintro e w' ⟨rfl, rfl⟩
  rw [h]
  go_wp2
  go_ret2
  exact ⟨rfl, (Below.refl _ _).alloc (Nat.le_refl _) _⟩
end Go.Proofs.Ytolifmgkkkclkaa
