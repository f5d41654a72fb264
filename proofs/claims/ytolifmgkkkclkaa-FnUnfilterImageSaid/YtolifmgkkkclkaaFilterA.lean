/- Contracts of predictions, in the model and in the program. -/
import Derived.Test.YtolifmgkkkclkaaProg
import Derived.WalkKit
import Derived.Deep.QuietTactic
import Derived.BigQuiet
import Derived.Laws.BitsAllLaws
import Derived.Laws.BitsLemmas
import Derived.Test.YtolifmgkkkclkaaFilterM
import Derived.Test.YtolifmgkkkclkaaLists
namespace Go.Proofs.Ytolifmgkkkclkaa
open Go.RowKit
set_option linter.unusedSimpArgs false
set_option linter.unusedVariables false

set_option maxHeartbeats 1000000 in
theorem sIn_any (n lo hi : Int) (w : World) : Calls Try.prog 56 #[.int .i64 n, .int .i64 lo, .int .i64 hi] w fun e w' => e = .returned (.bool (decide (lo ≤ n ∧ n ≤ hi))) ∧ w = w' := by
  by_cases h1 : lo ≤ n <;> by_cases h2 : n ≤ hi
  all_goals
    go_enter Try.func56, Try.ntmps56
    go_wp2
    go_ret
    exact ⟨ret_bool (by simp [h1, h2] <;> omega), rfl⟩
set_option maxHeartbeats 1000000 in
theorem iIn_any (n lo hi : Int) (w : World) : Calls Try.prog 54 #[.int .i64 n, .int .i64 lo, .int .i64 hi] w fun e w' => e = .returned (.bool (decide (lo ≤ n ∧ n ≤ hi))) ∧ w = w' := by
  by_cases h1 : lo ≤ n <;> by_cases h2 : n ≤ hi
  all_goals
    go_enter Try.func54, Try.ntmps54
    go_wp2
    go_ret
    exact ⟨ret_bool (by simp [h1, h2] <;> omega), rfl⟩
set_option maxHeartbeats 1000000 in
theorem sDist_any (n : Int) (w : World) (h0 : -100000 ≤ n) (h1 : n ≤ 100000) : Calls Try.prog 68 #[.int .i64 n] w fun e w' => e = .returned (.int .i64 (dist n)) ∧ w = w' := by
  by_cases h : n < 0
  all_goals
    go_enter Try.func68, Try.ntmps68
    go_wp2
    go_ret
    exact ⟨ret_int (by unfold dist; split <;> omega), rfl⟩
set_option maxHeartbeats 1000000 in
theorem iDist_any (a b : Int) (w : World) (h0 : -100000 ≤ a) (h1 : a ≤ 100000) (h2 : -100000 ≤ b) (h3 : b ≤ 100000) : Calls Try.prog 66 #[.int .i64 a, .int .i64 b] w fun e w' => e = .returned (.int .i64 (dist (a - b))) ∧ w = w' := by
  by_cases h : a < b
  all_goals
    go_enter Try.func66, Try.ntmps66
    go_wp2
    go_ret
    exact ⟨ret_int (by unfold dist; split <;> omega), rfl⟩
theorem pae_eq (l u c : Int) : pae l u c = if dist (l + u - c - l) ≤ dist (l + u - c - u) ∧ dist (l + u - c - l) ≤ dist (l + u - c - c) then l else if dist (l + u - c - u) ≤ dist (l + u - c - c) then u else c := by
  rw [show l + u - c - l = u - c by omega, show l + u - c - u = l - c by omega]
  rfl
set_option maxHeartbeats 2000000 in
theorem sPaeth_any (l u c : Int) (w : World) (hl : 0 ≤ l ∧ l ≤ 255) (hu : 0 ≤ u ∧ u ≤ 255) (hc : 0 ≤ c ∧ c ≤ 255) :
    Calls Try.prog 67 #[.int .i64 l, .int .i64 u, .int .i64 c] w fun e w' => e = .returned (.int .i64 (pae l u c)) ∧ w = w' := by
  obtain ⟨l0, l1⟩ := hl
  obtain ⟨u0, u1⟩ := hu
  obtain ⟨c0, c1⟩ := hc
  have HE := Lib.hid (pae_eq l u c)
  by_cases h1 : dist (l + u - c - l) ≤ dist (l + u - c - u) <;> by_cases h2 : dist (l + u - c - l) ≤ dist (l + u - c - c) <;> by_cases h3 : dist (l + u - c - u) ≤ dist (l + u - c - c)
  all_goals
    first
      | (exfalso; omega)
      | (go_enter Try.func67, Try.ntmps67
         go_wp2_with fail
         refine (sDist_any _ _ (by omega) (by omega)).mono ?_
         rintro e w' ⟨rfl, rfl⟩
         go_wp2_with fail
         refine (sDist_any _ _ (by omega) (by omega)).mono ?_
         rintro e w' ⟨rfl, rfl⟩
         go_wp2_with fail
         refine (sDist_any _ _ (by omega) (by omega)).mono ?_
         rintro e w' ⟨rfl, rfl⟩
         go_wp2
         go_ret
         refine ⟨ret_int ?_, rfl⟩
         rw [HE.out]
         (repeat' split) <;> first | rfl | (exfalso; omega))
theorem back_lo {xs : List Int} {s i : Nat} (h : i < s) : back xs s i = 0 := if_neg (by omega)
theorem back_hi {xs : List Int} {s i : Nat} (h : s ≤ i) : back xs s i = xs.getD (i - s) 0 := if_pos h
set_option maxHeartbeats 4000000 in
theorem sGuess_any (k : Int) (A A' : Option Addr) (c c' : Nat) (xs bs : List Int) (s i B B' : Nat) (w : World) (hx : Rds .i64 w B A xs) (hb : Rds .i64 w B' A' bs) (hi : i < xs.length) (hi' : i < bs.length) (hbx : Byt xs) (hbb : Byt bs) (hs : 1 ≤ s) (hs4 : s ≤ 4) (hl : xs.length ≤ 64) (hl' : bs.length ≤ 64) :
    Calls Try.prog 65 #[.int .i64 k, .slice A xs.length c, .slice A' bs.length c', .int .i64 s, .int .i64 i] w fun e w' => e = .returned (.int .i64 (gs k xs bs s i)) ∧ w = w' := by
  obtain ⟨b, off, rfl, _, hcx⟩ := hx.cells_ hi
  obtain ⟨b', off', rfl, _, hcb⟩ := hb.cells_ hi'
  have hup := hcb i hi'
  have hupr := hbb i
  have HK : Hid (k = 1 ∨ k = 2 ∨ k = 3 ∨ k = 4 ∨ (((k == 1) = false ∧ (k == 2) = false) ∧ (k == 3) = false ∧ (k == 4) = false)) := Lib.hid (by simp only [beq_eq_false_iff_ne]; omega)
  by_cases hsi : s ≤ i
  · have hle := hcx (i - s) (by omega)
    have hco := hcb (i - s) (by omega)
    have hler := hbx (i - s)
    have hcor := hbb (i - s)
    have HG : Hid (gs k xs bs s i = pred k (xs.getD (i - s) 0) (bs.getD i 0) (bs.getD (i - s) 0)) := Lib.hid (by unfold gs; rw [back_hi hsi, back_hi hsi])
    clear hcx hcb hbx hbb hx hb
    generalize xs.getD (i - s) 0 = l at *
    generalize bs.getD (i - s) 0 = co at *
    generalize bs.getD i 0 = u at *
    rcases HK.out with rfl | rfl | rfl | rfl | ⟨⟨k1, k2⟩, k3, k4⟩
    case inr.inr.inr.inl =>
      clear HK
      go_enter Try.func65, Try.ntmps65
      go_wp2_with fail
      refine (sPaeth_any _ _ _ _ hler hupr hcor).mono ?_
      rintro e w' ⟨rfl, rfl⟩
      go_wp2
      go_ret
      exact ⟨ret_int (by rw [HG.out]; simp [pred]), rfl⟩
    all_goals
      clear HK
      go_enter Try.func65, Try.ntmps65
      go_wp2
      go_ret
      refine ⟨ret_int ?_, rfl⟩
      rw [HG.out]
      first
        | (simp [pred]; done)
        | (simp only [beq_eq_false_iff_ne] at k1 k2 k3 k4; simp [pred, k1, k2, k3, k4])
  · have HG : Hid (gs k xs bs s i = pred k 0 (bs.getD i 0) 0) := Lib.hid (by unfold gs; rw [back_lo (by omega), back_lo (by omega)])
    clear hcx hcb hbx hbb hx hb
    generalize bs.getD i 0 = u at *
    rcases HK.out with rfl | rfl | rfl | rfl | ⟨⟨k1, k2⟩, k3, k4⟩
    case inr.inr.inr.inl =>
      clear HK
      go_enter Try.func65, Try.ntmps65
      go_wp2_with fail
      refine (sPaeth_any _ _ _ _ (by omega) hupr (by omega)).mono ?_
      rintro e w' ⟨rfl, rfl⟩
      go_wp2
      go_ret
      exact ⟨ret_int (by rw [HG.out]; simp [pred]), rfl⟩
    all_goals
      clear HK
      go_enter Try.func65, Try.ntmps65
      go_wp2
      go_ret
      refine ⟨ret_int ?_, rfl⟩
      rw [HG.out]
      first
        | (simp [pred]; done)
        | (simp only [beq_eq_false_iff_ne] at k1 k2 k3 k4; simp [pred, k1, k2, k3, k4])
end Go.Proofs.Ytolifmgkkkclkaa
