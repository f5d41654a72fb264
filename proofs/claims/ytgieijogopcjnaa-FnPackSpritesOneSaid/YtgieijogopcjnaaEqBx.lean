/- Slices of boxes compared. -/
import Derived.Test.YtgieijogopcjnaaOwnT
import Derived.Deep.QuietTactic
import Derived.BigQuiet
namespace Go.Proofs.Ytgieijogopcjnaa
open Go.RowKit
set_option linter.unusedSimpArgs false
set_option linter.unusedVariables false
set_option maxRecDepth 20000

set_option maxHeartbeats 4000000 in
theorem equalBoxes_same (A A' : Option Addr) (n c c' : Nat) (xs : List Int) (B B' : Nat) (w : World) (hx : xs.length = n * 4) (h : Rds .i64 w B A xs) (h' : Rds .i64 w B' A' xs) (hl : n ≤ 2000000) :
    Calls Try.prog 22 #[.slice A n c, .slice A' n c'] w fun e w' => e = .returned (.bool true) ∧ ∃ m, w' = w.drewN m := by
  have Hh := Lib.hid h
  have Hh' := Lib.hid h'
  have HX := Lib.hid hx
  clear h h' hx
  go_enter Try.func22, Try.ntmps22
  go_wp2
  go_loopw [5] (fun i wr => ∃ k : Nat, k ≤ n ∧ i = .int .i64 k ∧ ∃ m, wr = w.drewN m) (fun i _ => n - (intOf i).toNat)
  case atStart => exact ⟨0, Nat.zero_le _, rfl, 0, rfl⟩
  case round =>
    obtain ⟨k, hk, rfl, m, rfl⟩ := hrel
    by_cases hlt : k < n
    · obtain ⟨t0, t1, t2, t3⟩ : k * 4 < xs.length ∧ k * 4 + 1 < xs.length ∧ k * 4 + 2 < xs.length ∧ k * 4 + 3 < xs.length := by have := HX.out; omega
      obtain ⟨b, off, rfl, hb, hc⟩ := Hh.out.cells_ t0
      obtain ⟨b', off', rfl, hb', hc'⟩ := Hh'.out.cells_ t0
      have hc0 := hc _ t0
      have hc1 : w.cell? ⟨b, off + k * 4 + 1, none⟩ = _ := hc _ t1
      have hc2 : w.cell? ⟨b, off + k * 4 + 2, none⟩ = _ := hc _ t2
      have hc3 : w.cell? ⟨b, off + k * 4 + 3, none⟩ = _ := hc _ t3
      have hd0 := hc' _ t0
      have hd1 : w.cell? ⟨b', off' + k * 4 + 1, none⟩ = _ := hc' _ t1
      have hd2 : w.cell? ⟨b', off' + k * 4 + 2, none⟩ = _ := hc' _ t2
      have hd3 : w.cell? ⟨b', off' + k * 4 + 3, none⟩ = _ := hc' _ t3
      clear hc hc'
      generalize xs.getD (k * 4) 0 = x at *
      generalize xs.getD (k * 4 + 1) 0 = y at *
      generalize xs.getD (k * 4 + 2) 0 = z at *
      generalize xs.getD (k * 4 + 3) 0 = q at *
      go_wp2
      go_quiet (fail)
      go_wp2
      go_roundw
      case rel => exact ⟨k + 1, by omega, by go_num, _, rfl⟩
      case measure => simp [intOf]; omega
    · have hk' : k = n := by omega
      have Hk := Lib.hid hk'
      clear hk'
      go_wp2
      go_ret
      exact ⟨rfl, _, rfl⟩
end Go.Proofs.Ytgieijogopcjnaa
