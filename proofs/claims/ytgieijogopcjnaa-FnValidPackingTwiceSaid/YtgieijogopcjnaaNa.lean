/- Slices of structs of two and of four numbers: copied and compared, as the exact laws do. -/
import Derived.Test.YtgieijogopcjnaaTri
import Derived.StillTailTactics
import Derived.Deep.QuietTactic
import Derived.BigQuiet
namespace Go.Proofs.Ytgieijogopcjnaa
open Go.RowKit
set_option linter.unusedSimpArgs false
set_option linter.unusedVariables false
set_option maxRecDepth 20000

theorem made_Size (n : Nat) : madeCells #[Value.int .i64 0, Value.int .i64 0] n = row (zeros n) := by
  apply Array.ext
  · simp [size_madeCells, row, zeros]
  · intro i h1 h2
    have hm : i % 2 < 2 := Nat.mod_lt _ (by decide)
    simp only [madeCells, row, zeros, Array.getElem_map, Array.getElem_range, List.getElem_toArray, List.getElem_map, List.getElem_replicate]
    have : ∀ j, j < 2 → (#[Value.int .i64 0, Value.int .i64 0] : Array Value)[j]! = Value.int .i64 0 := by
      intro j hj
      match j, hj with
      | 0, _ => rfl
      | 1, _ => rfl
    exact this _ hm
theorem BlkT.ownSize {T : TypeId} {w : World} {g base n : Nat} {xs : List Int} (h : BlkT T w g xs) (hb : base ≤ g) (hx : xs.length = 2 * n) (hm : n ≤ 2000000) : OwnT T 2 w base (.slice (some ⟨g, 0, none⟩) n n) n xs :=
  ⟨by simp; omega, .inr ⟨g, n, row xs, rfl, hb, h, Nat.le_refl _, by unfold maxLen; omega, by simp [row]; omega, by simp [row]; exact List.take_of_length_le (by simp; omega)⟩⟩
def CopySize (T : TypeId) (n : Nat) (xs : List Int) (w : World) (e : Ending) (w' : World) : Prop :=
  ∃ (A : Option Addr) (c : Nat), e = .returned (.slice A n c) ∧ (n ≤ c ∧ c ≤ n) ∧ Rds .i64 w' w'.heap.size A xs ∧ Below w.heap.size w w' ∧ (∀ a, A = some a → w.heap.size ≤ a.block) ∧ OwnT T 2 w' w.heap.size (.slice A n c) n xs
theorem inSize {j n : Nat} (h : j < n) {m : Nat} (hm : m = 2 * n) : j * 2 < m ∧ j * 2 + 1 < m := by omega
set_option maxHeartbeats 4000000 in
theorem toSize_at (a b : Int) (w : World) :
    Calls Try.prog 36 #[.agg #[.int .i64 a, .int .i64 b]] w fun e w' => e = .returned (.agg #[.int .i64 a, .int .i64 b]) ∧ Below w.heap.size w w' := by
  go_enter Try.func36, Try.ntmps36
  go_wp2
  exact bodyPost_ret (v := .agg #[.int .i64 a, .int .i64 b]) (by simp [results, Try.results36, go_sem]) rfl ⟨rfl, by (repeat' (first | (exact Below.refl _ _) | (refine Below.setCell ?_ (by first | omega | (simp; done) | (simp; omega)) _) | (refine below_dn ?_ _) | (refine Below.drew ?_) | (refine Below.alloc ?_ (by first | omega | (simp; done) | (simp; omega)) _) | (exact Below.refl _ _)))⟩
theorem info_Size : (Try.prog.info? 44).map (fun i => (i.zero, i.size, i.bytes)) = some (some (.agg #[.int .i64 0, .int .i64 0]), 2, 16) := by kernel_rfl
theorem make_Size (n : Nat) (hn : n ≤ 10000000) (W : World) : (Instr.makeSlice 34 (.int .i64 (n : Int)) (.int .i64 (n : Int))).run Try.prog W = .ok (.slice (some ⟨W.heap.size, 0, none⟩) n n) (W.alloc (.cells (row (zeros (n * 2))) 44)) := by
  obtain ⟨i, hi, hz, hs, hb⟩ := info_parts info_Size
  have h := run_make (P := Try.prog) W 34 44 i _ Try.underlying34 hi hz .i64 .i64 n n (by omega) (Int.le_refl _) (by rw [hb]; omega) (by omega)
  simp only [Int.toNat_natCast, hs] at h
  rw [h]
  have e : madeCells (Value.agg #[.int .i64 0, .int .i64 0]).cells (n * 2) = row (zeros (n * 2)) := made_Size (n * 2)
  rw [e]
set_option maxHeartbeats 4000000 in
theorem toSizeS_any (A : Option Addr) (n c : Nat) (xs : List Int) (w : World) (hx : xs.length = 2 * n) (h : Rds .i64 w w.heap.size A xs) (hl : n ≤ 2000000) :
    Calls Try.prog 14 #[.slice A n c] w (CopySize 44 n xs w) := by
  have hmk := fun W => make_Size n (by omega) W
  have H0 := Lib.hid (BlkT.new 44 w (zeros (n * 2)))
  have Hh := Lib.hid h
  have HX := Lib.hid hx
  clear h hx
  go_enter Try.func14, Try.ntmps14
  go_wp2
  clear hmk
  go_loopw [4] (fun i wr => ∃ k : Nat, k ≤ n ∧ i = .int .i64 k ∧ Hid (BlkT 44 wr w.heap.size (xs.take (k * 2) ++ zeros (xs.length - k * 2))) ∧ Below w.heap.size w wr) (fun i _ => n - (intOf i).toNat)
  case atStart => exact ⟨0, Nat.zero_le _, rfl, Lib.hid (by have := H0.out; simpa [show xs.length = n * 2 by have := HX.out; omega] using this), (Below.refl _ _).alloc (Nat.le_refl _) _⟩
  case round =>
    obtain ⟨k, hk, rfl, hB, hbel⟩ := hrel
    by_cases hlt : k < n
    · obtain ⟨t0, t1⟩ := inSize hlt HX.out
      obtain ⟨b, off, rfl, hb, hc⟩ := Hh.out.cells_ t0
      have hc0 := (hbel.cell (p := ⟨b, off + k * 2, none⟩) hb).trans (hc _ t0)
      have hc1 := (hbel.cell (p := ⟨b, off + k * 2 + 1, none⟩) hb).trans (hc _ t1)
      clear hc
      generalize hx0 : xs.getD (k * 2) 0 = x at *
      generalize hx1 : xs.getD (k * 2 + 1) 0 = y at *
      go_wp2_with fail
      refine (toSize_at x y _).mono ?_
      rintro e w2 ⟨rfl, hB2⟩
      have hC := hB.out.below hB2 hB.out.lt
      have hl3 : (xs.take (k * 2) ++ zeros (xs.length - k * 2)).length = xs.length := by simp [zeros]; omega
      have d0 := hC.cell (i := k * 2) (by omega)
      have f0 := hC.frozen (k * 2)
      have d1 := hC.cell (i := k * 2 + 1) (by omega)
      have f1 := hC.frozen (k * 2 + 1)
      have HN := Lib.hid ((hC.put (k * 2) x).put (k * 2 + 1) y)
      rw [← hx0, take_set_next3 xs (k * 2) t0, ← hx1, take_set_next3 xs (k * 2 + 1) t1] at HN
      have HBel := Lib.hid (((hbel.trans (hB2.mono hbel.size)).setCell (p := ⟨w.heap.size, k * 2, none⟩) (Nat.le_refl _) (.int .i64 x)).setCell (p := ⟨w.heap.size, k * 2 + 1, none⟩) (Nat.le_refl _) (.int .i64 y))
      rw [hx0, hx1] at HN
      clear hB hbel hB2 hC hl3 hx0 hx1
      generalize (List.getD (xs.take (k * 2) ++ zeros (xs.length - k * 2)) (k * 2) 0) = y0 at *
      generalize (List.getD (xs.take (k * 2) ++ zeros (xs.length - k * 2)) (k * 2 + 1) 0) = y1 at *
      go_wp2
      go_roundw
      case rel => exact ⟨k + 1, by omega, by go_num, Lib.hid (by rw [show (k + 1) * 2 = k * 2 + 1 + 1 by omega]; exact HN.out), HBel.out⟩
      case measure => simp [intOf]; omega
    · have hk' : k = n := by omega
      have e : xs.take (k * 2) ++ zeros (xs.length - k * 2) = xs := by
        have := HX.out
        rw [show xs.length - k * 2 = 0 by omega, List.take_of_length_le (by omega)]; simp [zeros]
      have HR := Lib.hid hB.out.rds
      have HOt := Lib.hid (hB.out)
      rw [e] at HR HOt
      have Hk := Lib.hid hk'
      clear hk' e hB
      go_wp2
      go_ret
      exact ⟨_, _, rfl, ⟨Nat.le_refl _, Nat.le_refl _⟩, HR.out, hbel, (fun a ha => by obtain rfl := Option.some.inj ha; exact Nat.le_refl _), HOt.out.ownSize (Nat.le_refl _) HX.out (by omega)⟩
set_option maxHeartbeats 4000000 in
theorem eqSize_at (a b : Int) (w : World) :
    Calls Try.prog 41 #[.agg #[.int .i64 a, .int .i64 b], .agg #[.int .i64 a, .int .i64 b]] w fun e w' => e = .returned (.bool true) ∧ Below w.heap.size w w' := by
  go_enter Try.func41, Try.ntmps41
  go_wp2
  go_ret
  exact ⟨rfl, by (repeat' (first | (exact Below.refl _ _) | (refine Below.setCell ?_ (by first | omega | (simp; done) | (simp; omega)) _) | (refine below_dn ?_ _) | (refine Below.drew ?_) | (refine Below.alloc ?_ (by first | omega | (simp; done) | (simp; omega)) _) | (exact Below.refl _ _)))⟩
set_option maxHeartbeats 4000000 in
theorem eqSizeS_same (A A' : Option Addr) (n c c' : Nat) (xs : List Int) (B B' : Nat) (w : World) (hx : xs.length = 2 * n) (h : Rds .i64 w B A xs) (h' : Rds .i64 w B' A' xs) (hB : B ≤ w.heap.size) (hB' : B' ≤ w.heap.size) (hl : n ≤ 2000000) :
    Calls Try.prog 17 #[.slice A n c, .slice A' n c'] w fun e w' => e = .returned (.bool true) ∧ Below w.heap.size w w' := by
  have Hh := Lib.hid h
  have Hh' := Lib.hid h'
  have HX := Lib.hid hx
  clear h h' hx
  go_enter Try.func17, Try.ntmps17
  go_wp2
  go_loopw [5] (fun i wr => ∃ k : Nat, k ≤ n ∧ i = .int .i64 k ∧ Below w.heap.size w wr) (fun i _ => n - (intOf i).toNat)
  case atStart => exact ⟨0, Nat.zero_le _, rfl, Below.refl _ _⟩
  case round =>
    obtain ⟨k, hk, rfl, hbel⟩ := hrel
    by_cases hlt : k < n
    · obtain ⟨t0, t1⟩ := inSize hlt HX.out
      obtain ⟨b, off, rfl, hb, hc⟩ := Hh.out.cells_ t0
      obtain ⟨b', off', rfl, hb', hc'⟩ := Hh'.out.cells_ t0
      have hc0 := (hbel.cell (p := ⟨b, off + k * 2, none⟩) (by show b < _; omega)).trans (hc _ t0)
      have hd0 := (hbel.cell (p := ⟨b', off' + k * 2, none⟩) (by show b' < _; omega)).trans (hc' _ t0)
      have hc1 := (hbel.cell (p := ⟨b, off + k * 2 + 1, none⟩) (by show b < _; omega)).trans (hc _ t1)
      have hd1 := (hbel.cell (p := ⟨b', off' + k * 2 + 1, none⟩) (by show b' < _; omega)).trans (hc' _ t1)
      clear hc hc'
      generalize xs.getD (k * 2) 0 = x at *
      generalize xs.getD (k * 2 + 1) 0 = y at *
      go_wp2
      go_still_tail 8, (by kernel_rfl)
      change wpList _ _ _ _ _ wr.drew
      have hbd := hbel.drew
      clear hbel hc0 hd0 hc1 hd1
      generalize wr.drew = w2 at *
      go_wp2_with fail
      refine (eqSize_at x y w2).mono ?_
      rintro e w3 ⟨rfl, hB3⟩
      have hb3 := hbd.trans (hB3.mono hbd.size)
      clear hbd hB3
      go_wp2
      go_roundw
      case rel => exact ⟨k + 1, by omega, by go_num, hb3⟩
      case measure => simp [intOf]; omega
    · have hk' : k = n := by omega
      have Hk := Lib.hid hk'
      clear hk'
      go_wp2
      go_ret
      exact ⟨rfl, hbel⟩

theorem inBox {j n : Nat} (h : j < n) {m : Nat} (hm : m = 4 * n) : j * 4 < m ∧ j * 4 + 1 < m ∧ j * 4 + 2 < m ∧ j * 4 + 3 < m := by omega
set_option maxHeartbeats 4000000 in
theorem eqBox_at (a b c d : Int) (w : World) :
    Calls Try.prog 40 #[.agg #[.int .i64 a, .int .i64 b, .int .i64 c, .int .i64 d], .agg #[.int .i64 a, .int .i64 b, .int .i64 c, .int .i64 d]] w fun e w' => e = .returned (.bool true) ∧ Below w.heap.size w w' := by
  go_enter Try.func40, Try.ntmps40
  go_wp2
  go_ret
  exact ⟨rfl, by (repeat' (first | (exact Below.refl _ _) | (refine Below.setCell ?_ (by first | omega | (simp; done) | (simp; omega)) _) | (refine below_dn ?_ _) | (refine Below.drew ?_) | (refine Below.alloc ?_ (by first | omega | (simp; done) | (simp; omega)) _) | (exact Below.refl _ _)))⟩
set_option maxHeartbeats 4000000 in
theorem eqBoxS_same (A A' : Option Addr) (n c c' : Nat) (xs : List Int) (B B' : Nat) (w : World) (hx : xs.length = 4 * n) (h : Rds .i64 w B A xs) (h' : Rds .i64 w B' A' xs) (hB : B ≤ w.heap.size) (hB' : B' ≤ w.heap.size) (hl : n ≤ 2000000) :
    Calls Try.prog 16 #[.slice A n c, .slice A' n c'] w fun e w' => e = .returned (.bool true) ∧ Below w.heap.size w w' := by
  have Hh := Lib.hid h
  have Hh' := Lib.hid h'
  have HX := Lib.hid hx
  clear h h' hx
  go_enter Try.func16, Try.ntmps16
  go_wp2
  go_loopw [5] (fun i wr => ∃ k : Nat, k ≤ n ∧ i = .int .i64 k ∧ Below w.heap.size w wr) (fun i _ => n - (intOf i).toNat)
  case atStart => exact ⟨0, Nat.zero_le _, rfl, Below.refl _ _⟩
  case round =>
    obtain ⟨k, hk, rfl, hbel⟩ := hrel
    by_cases hlt : k < n
    · obtain ⟨t0, t1, t2, t3⟩ := inBox hlt HX.out
      obtain ⟨b, off, rfl, hb, hc⟩ := Hh.out.cells_ t0
      obtain ⟨b', off', rfl, hb', hc'⟩ := Hh'.out.cells_ t0
      have hc0 := (hbel.cell (p := ⟨b, off + k * 4, none⟩) (by show b < _; omega)).trans (hc _ t0)
      have hd0 := (hbel.cell (p := ⟨b', off' + k * 4, none⟩) (by show b' < _; omega)).trans (hc' _ t0)
      have hc1 := (hbel.cell (p := ⟨b, off + k * 4 + 1, none⟩) (by show b < _; omega)).trans (hc _ t1)
      have hd1 := (hbel.cell (p := ⟨b', off' + k * 4 + 1, none⟩) (by show b' < _; omega)).trans (hc' _ t1)
      have hc2 := (hbel.cell (p := ⟨b, off + k * 4 + 2, none⟩) (by show b < _; omega)).trans (hc _ t2)
      have hd2 := (hbel.cell (p := ⟨b', off' + k * 4 + 2, none⟩) (by show b' < _; omega)).trans (hc' _ t2)
      have hc3 := (hbel.cell (p := ⟨b, off + k * 4 + 3, none⟩) (by show b < _; omega)).trans (hc _ t3)
      have hd3 := (hbel.cell (p := ⟨b', off' + k * 4 + 3, none⟩) (by show b' < _; omega)).trans (hc' _ t3)
      clear hc hc'
      generalize xs.getD (k * 4) 0 = x at *
      generalize xs.getD (k * 4 + 1) 0 = y at *
      generalize xs.getD (k * 4 + 2) 0 = z at *
      generalize xs.getD (k * 4 + 3) 0 = t at *
      go_wp2
      go_still_tail 8, (by kernel_rfl)
      change wpList _ _ _ _ _ wr.drew
      have hbd := hbel.drew
      clear hbel hc0 hd0 hc1 hd1 hc2 hd2 hc3 hd3
      generalize wr.drew = w2 at *
      go_wp2_with fail
      refine (eqBox_at x y z t w2).mono ?_
      rintro e w3 ⟨rfl, hB3⟩
      have hb3 := hbd.trans (hB3.mono hbd.size)
      clear hbd hB3
      go_wp2
      go_roundw
      case rel => exact ⟨k + 1, by omega, by go_num, hb3⟩
      case measure => simp [intOf]; omega
    · have hk' : k = n := by omega
      have Hk := Lib.hid hk'
      clear hk'
      go_wp2
      go_ret
      exact ⟨rfl, hbel⟩

end Go.Proofs.Ytgieijogopcjnaa