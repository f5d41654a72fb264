/- Slices of structs of three numbers: compared, as the exact laws do. -/
import Derived.Test.YtbjgjjhfnaiocaaDoorTri
import Derived.StillTailTactics
import Derived.Deep.QuietTactic
import Derived.BigQuiet
namespace Go.Proofs.YtbjgjjhfnaiocaaDoor
open Go.RowKit
set_option linter.unusedSimpArgs false
set_option linter.unusedVariables false
set_option maxRecDepth 20000

set_option maxHeartbeats 4000000 in
theorem eqRun_same (a b c : Int) (w : World) :
    Calls Tryd.prog 33 #[.agg #[.int .i64 a, .int .i64 b, .int .i64 c], .agg #[.int .i64 a, .int .i64 b, .int .i64 c]] w fun e w' => e = .returned (.bool true) ∧ Below w.heap.size w w' := by
  go_enter Tryd.func33, Tryd.ntmps33
  go_wp2
  go_ret
  exact ⟨rfl, by (repeat' (first | (exact Below.refl _ _) | (refine Below.setCell ?_ (by first | omega | (simp; done) | (simp; omega)) _) | (refine below_dn ?_ _) | (refine Below.drew ?_) | (refine Below.alloc ?_ (by first | omega | (simp; done) | (simp; omega)) _) | (exact Below.refl _ _)))⟩
set_option maxHeartbeats 4000000 in
theorem eqRunS_same (A A' : Option Addr) (n c c' : Nat) (xs : List Int) (B B' : Nat) (w : World) (hx : xs.length = 3 * n) (h : Rds .i64 w B A xs) (h' : Rds .i64 w B' A' xs) (hB : B ≤ w.heap.size) (hB' : B' ≤ w.heap.size) (hl : n ≤ 2000000) :
    Calls Tryd.prog 10 #[.slice A n c, .slice A' n c'] w fun e w' => e = .returned (.bool true) ∧ Below w.heap.size w w' := by
  have Hh := Lib.hid h
  have Hh' := Lib.hid h'
  have HX := Lib.hid hx
  clear h h' hx
  go_enter Tryd.func10, Tryd.ntmps10
  go_wp2
  go_loopw [5] (fun i wr => ∃ k : Nat, k ≤ n ∧ i = .int .i64 k ∧ Below w.heap.size w wr) (fun i _ => n - (intOf i).toNat)
  case atStart => exact ⟨0, Nat.zero_le _, rfl, Below.refl _ _⟩
  case round =>
    obtain ⟨k, hk, rfl, hbel⟩ := hrel
    by_cases hlt : k < n
    · obtain ⟨t0, t1, t2⟩ := trio hlt HX.out
      obtain ⟨b, off, rfl, hb, hc⟩ := Hh.out.cells_ t0
      obtain ⟨b', off', rfl, hb', hc'⟩ := Hh'.out.cells_ t0
      have hc0 := (hbel.cell (p := ⟨b, off + k * 3, none⟩) (by show b < _; omega)).trans (hc _ t0)
      have hc1 := (hbel.cell (p := ⟨b, off + k * 3 + 1, none⟩) (by show b < _; omega)).trans (hc _ t1)
      have hc2 := (hbel.cell (p := ⟨b, off + k * 3 + 2, none⟩) (by show b < _; omega)).trans (hc _ t2)
      have hd0 := (hbel.cell (p := ⟨b', off' + k * 3, none⟩) (by show b' < _; omega)).trans (hc' _ t0)
      have hd1 := (hbel.cell (p := ⟨b', off' + k * 3 + 1, none⟩) (by show b' < _; omega)).trans (hc' _ t1)
      have hd2 := (hbel.cell (p := ⟨b', off' + k * 3 + 2, none⟩) (by show b' < _; omega)).trans (hc' _ t2)
      clear hc hc'
      generalize xs.getD (k * 3) 0 = x at *
      generalize xs.getD (k * 3 + 1) 0 = y at *
      generalize xs.getD (k * 3 + 2) 0 = z at *
      go_wp2
      go_still_tail 8, (by kernel_rfl)
      change wpList _ _ _ _ _ wr.drew
      have hbd := hbel.drew
      clear hbel hc0 hc1 hc2 hd0 hd1 hd2
      generalize wr.drew = w2 at *
      go_wp2_with fail
      refine (eqRun_same x y z w2).mono ?_
      rintro e w3 ⟨rfl, hB3⟩
      have hb3 := hbd.trans (hB3.mono hbd.size)
      clear hbd hB3
      go_wp2
      go_roundw
      case rel => exact ⟨k + 1, by omega, by go_num, hb3⟩
      case measure => simp [intOf]; omega
    · have hk' : k = n := by omega
      have Hk := Lib.hid hk'
      clear hk'
      go_wp2
      go_ret
      exact ⟨rfl, hbel⟩


end Go.Proofs.YtbjgjjhfnaiocaaDoor