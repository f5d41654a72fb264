/- Slices of structs of three numbers: copied and compared, as the exact laws do. -/
import Derived.Test.YtoeifhflbgfcjaaDoorOwnT
import Derived.StillTailTactics
namespace Go.Proofs.YtoeifhflbgfcjaaDoor
open Go.RowKit
set_option linter.unusedSimpArgs false
set_option linter.unusedVariables false

/-- Block g holds the cells xs, of elements of type T. -/
def BlkT (T : TypeId) (w : World) (g : Nat) (xs : List Int) : Prop := w.heap[g]? = some (.cells (row xs) T (0, 0))
section
variable {T : TypeId} {w w' : World} {g : Nat} {xs : List Int}
theorem BlkT.cell (h : BlkT T w g xs) {i : Nat} (hi : i < xs.length) : w.cell? ⟨g, i, none⟩ = some (.int .i64 (xs.getD i 0)) := by
  rw [cell_of_row w g i _ _ _ h]; exact row_get xs i hi
theorem BlkT.frozen (h : BlkT T w g xs) (i : Nat) : w.frozen? ⟨g, i, none⟩ = false := frozen_of_row w g i _ _ h
theorem BlkT.put (h : BlkT T w g xs) (i : Nat) (y : Int) : BlkT T (w.setCell ⟨g, i, none⟩ (.int .i64 y)) g (xs.set i y) := by
  unfold BlkT
  rw [heap_setCell_same w g i _ _ _ h]
  congr 2
  apply Array.toList_inj.1
  simp [row, List.map_set]
theorem BlkT.new (T : TypeId) (w : World) (xs : List Int) : BlkT T (w.alloc (.cells (row xs) T)) w.heap.size xs := heap_alloc_new w _
theorem BlkT.lt (h : BlkT T w g xs) : g < w.heap.size := by
  rcases Nat.lt_or_ge g w.heap.size with h' | h'
  · exact h'
  · unfold BlkT at h; rw [Array.getElem?_eq_none h'] at h; cases h
theorem BlkT.below {B : Nat} (h : BlkT T w g xs) (hb : Below B w w') (hg : g < B) : BlkT T w' g xs := (hb.block g hg).trans h
theorem BlkT.rds (h : BlkT T w g xs) : Rds .i64 w w.heap.size (some ⟨g, 0, none⟩) xs := .inr ⟨g, 0, rfl, h.lt, fun j hj => by rw [Nat.zero_add]; exact h.cell hj⟩
end
theorem made3 (n : Nat) : madeCells #[Value.int .i64 0, Value.int .i64 0, Value.int .i64 0] n = row (zeros n) := by
  apply Array.ext
  · simp [size_madeCells, row, zeros]
  · intro i h1 h2
    have hm : i % 3 < 3 := Nat.mod_lt _ (by decide)
    simp only [madeCells, row, zeros, Array.getElem_map, Array.getElem_range, List.getElem_toArray, List.getElem_map, List.getElem_replicate]
    have : ∀ j, j < 3 → (#[Value.int .i64 0, Value.int .i64 0, Value.int .i64 0] : Array Value)[j]! = Value.int .i64 0 := by
      intro j hj
      match j, hj with
      | 0, _ => rfl
      | 1, _ => rfl
      | 2, _ => rfl
    exact this _ hm
theorem take_set_next3 (xs : List Int) (k : Nat) (hk : k < xs.length) : (xs.take k ++ zeros (xs.length - k)).set k (xs.getD k 0) = xs.take (k + 1) ++ zeros (xs.length - (k + 1)) := by
  apply List.ext_getElem?
  intro j
  simp only [zeros, List.getElem?_set, List.getElem?_append, List.length_take, List.getElem?_take, List.getElem?_replicate, List.length_append, List.length_replicate]
  by_cases h1 : k = j
  · subst h1; simp [hk, show k < min k xs.length + (xs.length - k) by omega, show k < min (k + 1) xs.length by omega]
  · by_cases h2 : j < k
    · simp [h1, show j < min k xs.length by omega, show j < min (k + 1) xs.length by omega, h2, show j < k + 1 by omega]
    · simp [h1, show ¬ j < min k xs.length by omega, show ¬ j < min (k + 1) xs.length by omega]
      split <;> split <;> simp <;> omega
/-- A copy: new memory that reads as xs. -/
theorem BlkT.ownT {T : TypeId} {w : World} {g base n : Nat} {xs : List Int} (h : BlkT T w g xs) (hb : base ≤ g) (hx : xs.length = 3 * n) (hm : n ≤ 2000000) : OwnT T 3 w base (.slice (some ⟨g, 0, none⟩) n n) n xs :=
  ⟨by simp; omega, .inr ⟨g, n, row xs, rfl, hb, h, Nat.le_refl _, by unfold maxLen; omega, by simp [row]; omega, by simp [row]; exact List.take_of_length_le (by simp; omega)⟩⟩
def CopyT (T : TypeId) (n : Nat) (xs : List Int) (w : World) (e : Ending) (w' : World) : Prop :=
  ∃ (A : Option Addr) (c : Nat), e = .returned (.slice A n c) ∧ (n ≤ c ∧ c ≤ n) ∧ Rds .i64 w' w'.heap.size A xs ∧ Below w.heap.size w w' ∧ (∀ a, A = some a → w.heap.size ≤ a.block) ∧ OwnT T 3 w' w.heap.size (.slice A n c) n xs
theorem trio {j n : Nat} (h : j < n) {m : Nat} (hm : m = 3 * n) : j * 3 < m ∧ j * 3 + 1 < m ∧ j * 3 + 2 < m := by omega

set_option maxHeartbeats 4000000 in
theorem toRun_any (a b c : Int) (w : World) :
    Calls Tryd.prog 63 #[.agg #[.int .i64 a, .int .i64 b, .int .i64 c]] w fun e w' => e = .returned (.agg #[.int .i64 a, .int .i64 b, .int .i64 c]) ∧ Below w.heap.size w w' := by
  go_enter Tryd.func63, Tryd.ntmps63
  go_wp2
  exact bodyPost_ret (v := .agg #[.int .i64 a, .int .i64 b, .int .i64 c]) (by simp [results, Tryd.results63, go_sem]) rfl ⟨rfl, by (repeat' (first | (exact Below.refl _ _) | (refine Below.setCell ?_ (by first | omega | (simp; done) | (simp; omega)) _) | (refine below_dn ?_ _) | (refine Below.drew ?_) | (refine Below.alloc ?_ (by first | omega | (simp; done) | (simp; omega)) _) | (exact Below.refl _ _)))⟩
theorem info_Run : (Tryd.prog.info? 51).map (fun i => (i.zero, i.size, i.bytes)) = some (some (.agg #[.int .i64 0, .int .i64 0, .int .i64 0]), 3, 24) := by kernel_rfl
theorem make_Run (n : Nat) (hn : n ≤ 10000000) (W : World) : (Instr.makeSlice 23 (.int .i64 (n : Int)) (.int .i64 (n : Int))).run Tryd.prog W = .ok (.slice (some ⟨W.heap.size, 0, none⟩) n n) (W.alloc (.cells (row (zeros (n * 3))) 51)) := by
  obtain ⟨i, hi, hz, hs, hb⟩ := info_parts info_Run
  have h := run_make (P := Tryd.prog) W 23 51 i _ Tryd.underlying23 hi hz .i64 .i64 n n (by omega) (Int.le_refl _) (by rw [hb]; omega) (by omega)
  simp only [Int.toNat_natCast, hs] at h
  rw [h]
  have e : madeCells (Value.agg #[.int .i64 0, .int .i64 0, .int .i64 0]).cells (n * 3) = row (zeros (n * 3)) := made3 (n * 3)
  rw [e]
set_option maxHeartbeats 4000000 in
theorem toRunS_any (A : Option Addr) (n c : Nat) (xs : List Int) (w : World) (hx : xs.length = 3 * n) (h : Rds .i64 w w.heap.size A xs) (hl : n ≤ 2000000) :
    Calls Tryd.prog 35 #[.slice A n c] w (CopyT 51 n xs w) := by
  have hmk := fun W => make_Run n (by omega) W
  have H0 := Lib.hid (BlkT.new 51 w (zeros (n * 3)))
  have Hh := Lib.hid h
  have HX := Lib.hid hx
  clear h hx
  go_enter Tryd.func35, Tryd.ntmps35
  go_wp2
  clear hmk
  go_loopw [4] (fun i wr => ∃ k : Nat, k ≤ n ∧ i = .int .i64 k ∧ Hid (BlkT 51 wr w.heap.size (xs.take (k * 3) ++ zeros (xs.length - k * 3))) ∧ Below w.heap.size w wr) (fun i _ => n - (intOf i).toNat)
  case atStart => exact ⟨0, Nat.zero_le _, rfl, Lib.hid (by have := H0.out; simpa [show xs.length = n * 3 by have := HX.out; omega] using this), (Below.refl _ _).alloc (Nat.le_refl _) _⟩
  case round =>
    obtain ⟨k, hk, rfl, hB, hbel⟩ := hrel
    by_cases hlt : k < n
    · obtain ⟨t0, t1, t2⟩ := trio hlt HX.out
      obtain ⟨b, off, rfl, hb, hc⟩ := Hh.out.cells_ t0
      have hc0 := (hbel.cell (p := ⟨b, off + k * 3, none⟩) hb).trans (hc _ t0)
      have hc1 := (hbel.cell (p := ⟨b, off + k * 3 + 1, none⟩) hb).trans (hc _ t1)
      have hc2 := (hbel.cell (p := ⟨b, off + k * 3 + 2, none⟩) hb).trans (hc _ t2)
      clear hc
      generalize hx0 : xs.getD (k * 3) 0 = x at *
      generalize hx1 : xs.getD (k * 3 + 1) 0 = y at *
      generalize hx2 : xs.getD (k * 3 + 2) 0 = z at *
      go_wp2_with fail
      refine (toRun_any x y z _).mono ?_
      rintro e w2 ⟨rfl, hB2⟩
      have hC := hB.out.below hB2 hB.out.lt
      have hl3 : (xs.take (k * 3) ++ zeros (xs.length - k * 3)).length = xs.length := by simp [zeros]; omega
      have d0 := hC.cell (i := k * 3) (by omega)
      have d1 := hC.cell (i := k * 3 + 1) (by omega)
      have d2 := hC.cell (i := k * 3 + 2) (by omega)
      have f0 := hC.frozen (k * 3)
      have f1 := hC.frozen (k * 3 + 1)
      have f2 := hC.frozen (k * 3 + 2)
      have HN := Lib.hid (((hC.put (k * 3) x).put (k * 3 + 1) y).put (k * 3 + 2) z)
      rw [← hx0, take_set_next3 xs (k * 3) t0, ← hx1, take_set_next3 xs (k * 3 + 1) t1, ← hx2, take_set_next3 xs (k * 3 + 2) t2] at HN
      have HBel := Lib.hid ((((hbel.trans (hB2.mono hbel.size)).setCell (p := ⟨w.heap.size, k * 3, none⟩) (Nat.le_refl _) (.int .i64 x)).setCell (p := ⟨w.heap.size, k * 3 + 1, none⟩) (Nat.le_refl _) (.int .i64 y)).setCell (p := ⟨w.heap.size, k * 3 + 2, none⟩) (Nat.le_refl _) (.int .i64 z))
      rw [hx0, hx1, hx2] at HN
      clear hB hbel hB2 hC hl3 hx0 hx1 hx2
      generalize (List.getD (xs.take (k * 3) ++ zeros (xs.length - k * 3)) (k * 3) 0) = y0 at *
      generalize (List.getD (xs.take (k * 3) ++ zeros (xs.length - k * 3)) (k * 3 + 1) 0) = y1 at *
      generalize (List.getD (xs.take (k * 3) ++ zeros (xs.length - k * 3)) (k * 3 + 2) 0) = y2 at *
      go_wp2
      go_roundw
      case rel => exact ⟨k + 1, by omega, by go_num, Lib.hid (by rw [show (k + 1) * 3 = k * 3 + 2 + 1 by omega]; exact HN.out), HBel.out⟩
      case measure => simp [intOf]; omega
    · have hk' : k = n := by omega
      have e : xs.take (k * 3) ++ zeros (xs.length - k * 3) = xs := by
        have := HX.out
        rw [show xs.length - k * 3 = 0 by omega, List.take_of_length_le (by omega)]; simp [zeros]
      have HR := Lib.hid hB.out.rds
      have HOt := Lib.hid (hB.out)
      rw [e] at HR HOt
      have Hk := Lib.hid hk'
      clear hk' e hB
      go_wp2
      go_ret
      exact ⟨_, _, rfl, ⟨Nat.le_refl _, Nat.le_refl _⟩, HR.out, hbel, (fun a ha => by obtain rfl := Option.some.inj ha; exact Nat.le_refl _), HOt.out.ownT (Nat.le_refl _) HX.out (by omega)⟩


end Go.Proofs.YtoeifhflbgfcjaaDoor