/- Contracts of canonical codes, in the model and in the program. -/
import Derived.Test.YtakloadpmpffdaaCodeM
namespace Go.Proofs.Ytakloadpmpffdaa
open Go.RowKit
set_option linter.unusedSimpArgs false
set_option linter.unusedVariables false
set_option maxRecDepth 20000

set_option maxHeartbeats 1000000 in
theorem sCr_any (n lo hi : Int) (w : World) : Calls Try.prog 26 #[.int .i64 n, .int .i64 lo, .int .i64 hi] w fun e w' => e = .returned (.bool (decide (lo ≤ n ∧ n ≤ hi))) ∧ w = w' := by
  by_cases h1 : lo ≤ n <;> by_cases h2 : n ≤ hi
  all_goals
    go_enter Try.func26, Try.ntmps26
    go_wp2
    go_ret
    exact ⟨ret_bool (by simp [h1, h2] <;> omega), rfl⟩
set_option maxHeartbeats 1000000 in
theorem iCr_any (n lo hi : Int) (w : World) : Calls Try.prog 24 #[.int .i64 n, .int .i64 lo, .int .i64 hi] w fun e w' => e = .returned (.bool (decide (lo ≤ n ∧ n ≤ hi))) ∧ w = w' := by
  by_cases h1 : lo ≤ n <;> by_cases h2 : n ≤ hi
  all_goals
    go_enter Try.func24, Try.ntmps24
    go_wp2
    go_ret
    exact ⟨ret_bool (by simp [h1, h2] <;> omega), rfl⟩
theorem dec_len (xs : List Int) : decide ((1 : Int) ≤ (xs.length : Int) ∧ (xs.length : Int) ≤ 16) = decide (1 ≤ xs.length ∧ xs.length ≤ 16) := by
  congr 1; apply propext; omega
theorem seventeen {l : Int} (h0 : 0 ≤ l) (h1 : l ≤ 16) : l = 0 ∨ l = 1 ∨ l = 2 ∨ l = 3 ∨ l = 4 ∨ l = 5 ∨ l = 6 ∨ l = 7 ∨ l = 8 ∨ l = 9 ∨ l = 10 ∨ l = 11 ∨ l = 12 ∨ l = 13 ∨ l = 14 ∨ l = 15 ∨ l = 16 := by omega
theorem vsB_parts {xs : List Int} (h : vsB xs 16 = true) : 1 ≤ xs.length ∧ xs.length ≤ 16 ∧ ∀ j, j < xs.length → 0 ≤ xs.getD j 0 ∧ xs.getD j 0 ≤ 16 := by
  simp only [vsB, Bool.and_eq_true, decide_eq_true_eq] at h
  refine ⟨h.1.1, h.1.2, fun j hj => ?_⟩
  have := of_decide_eq_true h.2 (xs[j]) (List.getElem_mem hj)
  simpa [hj] using this
set_option maxHeartbeats 2000000 in
theorem iVs_any (A : Option Addr) (c B : Nat) (xs : List Int) (top : Int) (w : World) (h : Rds .i64 w B A xs) (hl : xs.length ≤ 10000000) :
    Calls Try.prog 31 #[.slice A xs.length c, .int .i64 top] w fun e w' => e = .returned (.bool (vsB xs top)) ∧ w = w' := by
  have Hh := Lib.hid h
  clear h
  cases hd : decide (1 ≤ xs.length ∧ xs.length ≤ 16)
  · have HN : Hid (vsB xs top = false) := Lib.hid (by simp only [vsB, hd, Bool.false_and])
    have HD := Lib.hid ((dec_len xs).trans hd)
    clear hd
    go_enter Try.func31, Try.ntmps31
    go_wp2_with fail
    refine (iCr_any _ _ _ _).mono ?_
    rintro e w' ⟨rfl, rfl⟩
    rw [HD.out]
    go_wp2
    go_ret
    exact ⟨ret_bool HN.out.symm, rfl⟩
  · have HN : Hid (vsB xs top = allB 0 top xs) := Lib.hid (by simp only [vsB, hd, Bool.true_and])
    have HD := Lib.hid ((dec_len xs).trans hd)
    clear hd
    go_enter Try.func31, Try.ntmps31
    go_wp2_with fail
    refine (iCr_any _ _ _ _).mono ?_
    rintro e w' ⟨rfl, rfl⟩
    rw [HD.out]
    go_wp2
    go_loop [13] (fun i => ∃ k : Nat, k ≤ xs.length ∧ i = .int .i64 k ∧ Hid (∀ j, j < k → 0 ≤ xs.getD j 0 ∧ xs.getD j 0 ≤ top)) (fun i => xs.length - (intOf i).toNat)
    case atStart => exact ⟨0, Nat.zero_le _, rfl, Lib.hid (fun j hj => by omega)⟩
    case round =>
      obtain ⟨k, hk, rfl, hT⟩ := hrel
      by_cases hlt : k < xs.length
      · obtain ⟨b, off, rfl, _, hc⟩ := Hh.out.cells_ hlt
        have h1 := hc k hlt
        have HX := Lib.hid (allB_no (lo := 0) (hi := top) hlt)
        have HT : Hid ((0 ≤ xs.getD k 0 ∧ xs.getD k 0 ≤ top) → ∀ j, j < k + 1 → 0 ≤ xs.getD j 0 ∧ xs.getD j 0 ≤ top) := Lib.hid (fun h1 j hj => by
          by_cases e : j = k
          · subst e; exact h1
          · exact hT.out j (by omega))
        clear hc
        generalize xs.getD k 0 = x at *
        cases hx : decide (0 ≤ x ∧ x ≤ top)
        · have HN2 : Hid (vsB xs top = false) := Lib.hid (by rw [HN.out]; exact HX.out (of_decide_eq_false hx))
          go_wp2_with fail
          refine (iCr_any _ _ _ _).mono ?_
          rintro e w' ⟨rfl, rfl⟩
          rw [hx]
          go_wp2
          go_ret
          exact ⟨ret_bool HN2.out.symm, rfl⟩
        · have HT' := Lib.hid (HT.out (of_decide_eq_true hx))
          clear HT
          go_wp2_with fail
          refine (iCr_any _ _ _ _).mono ?_
          rintro e w' ⟨rfl, rfl⟩
          rw [hx]
          go_wp2
          go_round
          case rel => exact ⟨k + 1, by omega, by go_num, HT'⟩
          case measure => simp [intOf]; omega
      · have HF : Hid (vsB xs top = true) := Lib.hid (by rw [HN.out]; exact allB_yes (fun j hj => hT.out j (by omega)))
        go_wp2
        go_ret
        exact ⟨ret_bool HF.out.symm, rfl⟩
set_option maxHeartbeats 8000000 in
theorem iFits_any (A : Option Addr) (c B : Nat) (xs : List Int) (w : World) (h : Rds .i64 w B A xs) (hv : vsB xs 16 = true) :
    Calls Try.prog 32 #[.slice A xs.length c] w fun e w' => e = .returned (.bool (decide (kr xs xs.length ≤ 65536))) ∧ w = w' := by
  obtain ⟨hl1, hl2, hbd⟩ := vsB_parts hv
  have Hb := Lib.hid hbd
  have Hh := Lib.hid h
  clear h hv hbd
  go_enter Try.func32, Try.ntmps32
  go_wp2
  go_loop [8, 3] (fun i r => ∃ k : Nat, k ≤ xs.length ∧ i = .int .i64 k ∧ r = .int .i64 (65536 - kr xs k)) (fun i _ => xs.length - (intOf i).toNat)
  case atStart => exact ⟨0, Nat.zero_le _, rfl, rfl⟩
  case round =>
    obtain ⟨k, hk, rfl, rfl⟩ := hrel
    have hkr := kr_bd xs k
    by_cases hlt : k < xs.length
    · obtain ⟨b, off, rfl, _, hc⟩ := Hh.out.cells_ hlt
      have h1 := hc k hlt
      obtain ⟨b0, b1⟩ := Hb.out k hlt
      have HS : Hid (kr xs (k + 1) = kr xs k + kt (xs.getD k 0)) := Lib.hid rfl
      clear hc
      generalize kr xs k = S at *
      generalize xs.getD k 0 = x at *
      rcases seventeen b0 b1 with rfl | rfl | rfl | rfl | rfl | rfl | rfl | rfl | rfl | rfl | rfl | rfl | rfl | rfl | rfl | rfl | rfl
      all_goals
        go_wp2
        go_round
        case rel => exact ⟨k + 1, by omega, by go_num, by rw [HS.out]; simp [kt] <;> omega⟩
        case measure => simp [intOf]; omega
    · have hk' : k = xs.length := by omega
      have HF : Hid (decide (kr xs xs.length ≤ 65536) = decide (kr xs k ≤ 65536)) := Lib.hid (by rw [hk'])
      clear hk'
      generalize kr xs k = S at *
      by_cases hS : S ≤ 65536
      all_goals
        go_wp2
        go_ret
        exact ⟨ret_bool (by rw [HF.out]; simp [hS] <;> omega), rfl⟩
set_option maxHeartbeats 8000000 in
theorem sKraft_any (A : Option Addr) (c B : Nat) (xs : List Int) (w : World) (h : Rds .i64 w B A xs) (hv : vsB xs 16 = true) :
    Calls Try.prog 41 #[.slice A xs.length c] w fun e w' => e = .returned (.int .i64 (kr xs xs.length)) ∧ w = w' := by
  obtain ⟨hl1, hl2, hbd⟩ := vsB_parts hv
  have Hb := Lib.hid hbd
  have Hh := Lib.hid h
  clear h hv hbd
  go_enter Try.func41, Try.ntmps41
  go_wp2
  go_loop [3, 4] (fun r i => ∃ k : Nat, k ≤ xs.length ∧ i = .int .i64 k ∧ r = .int .i64 (kr xs k)) (fun _ i => xs.length - (intOf i).toNat)
  case atStart => exact ⟨0, Nat.zero_le _, rfl, rfl⟩
  case round =>
    obtain ⟨k, hk, rfl, rfl⟩ := hrel
    have hkr := kr_bd xs k
    by_cases hlt : k < xs.length
    · obtain ⟨b, off, rfl, _, hc⟩ := Hh.out.cells_ hlt
      have h1 := hc k hlt
      obtain ⟨b0, b1⟩ := Hb.out k hlt
      have HS : Hid (kr xs (k + 1) = kr xs k + kt (xs.getD k 0)) := Lib.hid rfl
      clear hc
      generalize kr xs k = S at *
      generalize xs.getD k 0 = x at *
      rcases seventeen b0 b1 with rfl | rfl | rfl | rfl | rfl | rfl | rfl | rfl | rfl | rfl | rfl | rfl | rfl | rfl | rfl | rfl | rfl
      all_goals
        go_wp2
        go_round
        case rel => exact ⟨k + 1, by omega, by go_num, by rw [HS.out]; simp [kt] <;> omega⟩
        case measure => simp [intOf]; omega
    · have hk' : k = xs.length := by omega
      have HF : Hid (kr xs xs.length = kr xs k) := Lib.hid (by rw [hk'])
      clear hk'
      go_wp2
      go_ret
      exact ⟨ret_int HF.out.symm, rfl⟩
set_option maxHeartbeats 2000000 in
theorem sVl_any (A : Option Addr) (c B : Nat) (xs : List Int) (w : World) (h : Rds .i64 w B A xs) (hl : xs.length ≤ 10000000) :
    Calls Try.prog 29 #[.slice A xs.length c] w fun e w' => e = .returned (.bool (cvB xs)) ∧ w = w' := by
  have Hh := Lib.hid h
  clear h
  cases hd : decide (1 ≤ xs.length ∧ xs.length ≤ 16)
  · have HN : Hid (cvB xs = false) := Lib.hid (by simp only [cvB, vsB, hd, Bool.false_and])
    have HD := Lib.hid ((dec_len xs).trans hd)
    clear hd
    go_enter Try.func29, Try.ntmps29
    go_wp2_with fail
    refine (sCr_any _ _ _ _).mono ?_
    rintro e w' ⟨rfl, rfl⟩
    rw [HD.out]
    go_wp2
    go_ret
    exact ⟨ret_bool HN.out.symm, rfl⟩
  · have HD := Lib.hid ((dec_len xs).trans hd)
    cases ha : allB 0 16 xs
    · have HN : Hid (cvB xs = false) := Lib.hid (by simp only [cvB, vsB, ha, Bool.false_and, Bool.and_false])
      clear hd
      go_enter Try.func29, Try.ntmps29
      go_wp2_with fail
      refine (sCr_any _ _ _ _).mono ?_
      rintro e w' ⟨rfl, rfl⟩
      rw [HD.out]
      go_wp2_with fail
      refine (sAllIn_any A c _ xs 0 16 _ Hh.out hl).mono ?_
      rintro e w' ⟨rfl, rfl⟩
      rw [ha]
      go_wp2
      go_ret
      exact ⟨ret_bool HN.out.symm, rfl⟩
    · have hv : vsB xs 16 = true := by simp only [vsB, hd, ha, Bool.and_true]
      have HN : Hid (cvB xs = decide (kr xs xs.length ≤ 65536)) := Lib.hid (by simp only [cvB, hv, Bool.true_and])
      have HV := Lib.hid hv
      have hkr := kr_bd xs xs.length
      clear hd hv
      go_enter Try.func29, Try.ntmps29
      go_wp2_with fail
      refine (sCr_any _ _ _ _).mono ?_
      rintro e w' ⟨rfl, rfl⟩
      rw [HD.out]
      go_wp2_with fail
      refine (sAllIn_any A c _ xs 0 16 _ Hh.out hl).mono ?_
      rintro e w' ⟨rfl, rfl⟩
      rw [ha]
      go_wp2_with fail
      refine (sKraft_any A c _ xs _ Hh.out HV.out).mono ?_
      rintro e w' ⟨rfl, rfl⟩
      generalize kr xs xs.length = S at *
      go_wp2
      go_ret
      exact ⟨ret_bool (by rw [HN.out]), rfl⟩
end Go.Proofs.Ytakloadpmpffdaa
