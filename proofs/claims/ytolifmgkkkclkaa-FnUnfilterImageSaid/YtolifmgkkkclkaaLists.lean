/- Contracts of the small functions on lists of numbers that the laws use: copying, comparing, marking. -/
import Derived.Test.YtolifmgkkkclkaaProg
import Derived.WalkKit
import Derived.Deep.QuietTactic
import Derived.BigQuiet
import Derived.Deep.Light
import Derived.Laws.AppendOwnNone
import Derived.Test.YtolifmgkkkclkaaWords
namespace Go.Proofs.Ytolifmgkkkclkaa
open Go.RowKit
set_option linter.unusedSimpArgs false
set_option linter.unusedVariables false

theorem info_int : (Try.prog.info? 3).map (fun i => (i.zero, i.size, i.bytes)) = some (some (.int .i64 0), 1, 8) := by kernel_rfl
/-- The cells of a row of numbers. -/
def row (xs : List Int) : Array Value := (xs.map (Value.int .i64)).toArray
/-- Block g is just the row xs. -/
def Blk (w : World) (g : Nat) (xs : List Int) : Prop := w.heap[g]? = some (.cells (row xs) 3 (0, 0))
/-- The slice v owns the row xs, in a block from base on. -/
def Own (w : World) (base : Nat) (v : Value) (xs : List Int) : Prop := w.ownsRow base 3 1 v xs.length (xs.map (.int .i64))
/-- The call made a new row xs and nothing that was there has changed. -/
def Made (xs : List Int) (w : World) (e : Ending) (w' : World) : Prop := ∃ v, e = .returned v ∧ Own w' w.heap.size v xs ∧ Below w.heap.size w w'

theorem row_get (xs : List Int) (i : Nat) (hi : i < xs.length) : (row xs)[i]? = some (.int .i64 (xs.getD i 0)) := by simp [row, hi]
theorem Blk.cell {w : World} {g : Nat} {xs : List Int} (h : Blk w g xs) {i : Nat} (hi : i < xs.length) : w.cell? ⟨g, i, none⟩ = some (.int .i64 (xs.getD i 0)) := by
  rw [cell_of_row w g i _ _ _ h, row_get xs i hi]
theorem Blk.frozen {w : World} {g : Nat} {xs : List Int} (h : Blk w g xs) (i : Nat) : w.frozen? ⟨g, i, none⟩ = false := frozen_of_row w g i _ _ h
theorem Blk.put {w : World} {g : Nat} {xs : List Int} (h : Blk w g xs) (i : Nat) (y : Int) : Blk (w.setCell ⟨g, i, none⟩ (.int .i64 y)) g (xs.set i y) := by
  unfold Blk
  rw [heap_setCell_same w g i _ _ _ h]
  simp [row, List.map_set]
theorem Blk.new (w : World) (xs : List Int) : Blk (w.alloc (.cells (row xs) 3)) w.heap.size xs := heap_alloc_new w _
theorem Blk.lt {w : World} {g : Nat} {xs : List Int} (h : Blk w g xs) : g < w.heap.size := by
  rcases Nat.lt_or_ge g w.heap.size with hlt | hge
  · exact hlt
  · unfold Blk at h; rw [Array.getElem?_eq_none hge] at h; cases h
theorem Blk.below {B : Nat} {w w' : World} {g : Nat} {xs : List Int} (h : Blk w g xs) (hb : Below B w w') (hg : g < B) : Blk w' g xs := (hb.block g hg).trans h
theorem Blk.grown {row' : Option Nat} {w w' : World} {g : Nat} {xs : List Int} (h : Blk w g xs) (hb : w.grownBy w' row') (hg : some g ≠ row') : Blk w' g xs := (hb.block g h.lt hg).trans h
theorem Blk.own {w : World} {g base : Nat} {xs : List Int} (h : Blk w g xs) (hb : base ≤ g) (hm : xs.length ≤ maxLen) : Own w base (.slice (some ⟨g, 0, none⟩) xs.length xs.length) xs :=
  ⟨by simp, .inr ⟨g, xs.length, _, rfl, hb, h, Nat.le_refl _, hm, by simp [row], by rw [Nat.mul_one, show (row xs).toList = xs.map (Value.int .i64) from rfl, List.take_of_length_le (by simp)]⟩⟩
theorem Own.rds {w : World} {base : Nat} {A : Option Addr} {n c : Nat} {xs : List Int} (h : Own w base (.slice A n c) xs) : n = xs.length ∧ Rds .i64 w w.heap.size A xs := by
  have hn : n = xs.length := by
    rcases h.2 with ⟨h0, h1⟩ | ⟨g, cap, cur, hv, _⟩
    · injection h0; omega
    · injection hv
  subst hn
  exact ⟨rfl, Rds.of_own rfl rfl h⟩
theorem Own.slice {w : World} {base : Nat} {v : Value} {xs : List Int} (h : Own w base v xs) : ∃ A c, v = .slice A xs.length c ∧ xs.length ≤ c := by
  obtain ⟨A, c, hv, hc, _⟩ := own_slice h
  exact ⟨A, c, hv, hc⟩
theorem Own.keep {w w' : World} {base : Nat} {v : Value} {xs : List Int} (h : Own w base v xs) (hk : ∀ g, v.ownBlock = some g → w'.heap[g]? = w.heap[g]?) : Own w' base v xs := by
  refine ⟨h.1, ?_⟩
  rcases h.2 with h2 | ⟨g, cap, cur, hv, hb, hg, r⟩
  · exact .inl h2
  · exact .inr ⟨g, cap, cur, hv, hb, (hk g (by rw [hv]; rfl)).trans hg, r⟩
theorem Own.below {w w' : World} {B base : Nat} {v : Value} {xs : List Int} (h : Own w base v xs) (hb : Below B w w') (hB : w.heap.size ≤ B) : Own w' base v xs :=
  h.keep fun g hg => hb.block g (by have := h.lt g hg; omega)
theorem Own.drewN {w : World} {base : Nat} {v : Value} {xs : List Int} (h : Own w base v xs) (n : Nat) : Own (w.drewN n) base v xs := h
theorem Own.base_le {w : World} {base base' : Nat} {v : Value} {xs : List Int} (h : Own w base v xs) (hb : base' ≤ base) : Own w base' v xs := by
  refine ⟨h.1, ?_⟩
  rcases h.2 with h2 | ⟨g, cap, cur, hv, hbg, r⟩
  · exact .inl h2
  · exact .inr ⟨g, cap, cur, hv, by omega, r⟩

def zeros (n : Nat) : List Int := List.replicate n 0
theorem make_ints (n : Nat) (hn : n ≤ 10000000) (W : World) : (Instr.makeSlice 23 (.int .i64 (n : Int)) (.int .i64 (n : Int))).run Try.prog W = .ok (.slice (some ⟨W.heap.size, 0, none⟩) n n) (W.alloc (.cells (row (zeros n)) 3)) := by
  obtain ⟨i, hi, hz, hs, hb⟩ := info_parts info_int
  have h := run_make (P := Try.prog) W 23 3 i _ Try.underlying23 hi hz .i64 .i64 n n (by omega) (Int.le_refl _) (by rw [hb]; omega) (by omega)
  simp only [Int.toNat_natCast, hs, Nat.mul_one] at h
  rw [h]
  have e : madeCells (Value.int .i64 0).cells n = row (zeros n) := by
    apply Array.toList_inj.1
    rw [show (Value.int .i64 0).cells = #[Value.int .i64 0] from rfl, toList_madeCells_one]
    simp [row, zeros]
  rw [e]

theorem take_set_next (xs : List Int) (k : Nat) (hk : k < xs.length) : (xs.take k ++ zeros (xs.length - k)).set k (xs.getD k 0) = xs.take (k + 1) ++ zeros (xs.length - (k + 1)) := by
  apply List.ext_getElem?
  intro j
  simp only [zeros, List.getElem?_set, List.getElem?_append, List.length_take, List.getElem?_take, List.getElem?_replicate, List.length_append, List.length_replicate]
  by_cases h1 : k = j
  · subst h1; simp [hk, show k < min k xs.length + (xs.length - k) by omega, show k < min (k + 1) xs.length by omega]
  · by_cases h2 : j < k
    · simp [h1, show j < min k xs.length by omega, show j < min (k + 1) xs.length by omega, h2, show j < k + 1 by omega]
    · simp [h1, show ¬ j < min k xs.length by omega, show ¬ j < min (k + 1) xs.length by omega]
      split <;> split <;> simp <;> omega
set_option maxHeartbeats 1000000 in
theorem toIntS_any (A : Option Addr) (c : Nat) (xs : List Int) (w : World) (h : Rds .i64 w w.heap.size A xs) (hl : xs.length ≤ 2000000) :
    Calls Try.prog 23 #[.slice A xs.length c] w (Made xs w) := by
  have hmk := fun W => make_ints xs.length (by omega) W
  have H0 := Lib.hid (Blk.new w (zeros xs.length))
  have Hh := Lib.hid h
  clear h
  go_enter Try.func23, Try.ntmps23
  go_wp2
  go_loopw [4] (fun i wr => ∃ k : Nat, k ≤ xs.length ∧ i = .int .i64 k ∧ Blk wr w.heap.size (xs.take k ++ zeros (xs.length - k)) ∧ Below w.heap.size w wr) (fun i _ => xs.length - (intOf i).toNat)
  case atStart => exact ⟨0, Nat.zero_le _, rfl, by simpa using H0.out, (Below.refl _ _).alloc (Nat.le_refl _) _⟩
  case round =>
    obtain ⟨k, hk, rfl, hB, hbel⟩ := hrel
    by_cases hlt : k < xs.length
    · obtain ⟨b, off, rfl, hb, hc⟩ := Hh.out.cells_ hlt
      have hck := (hbel.cell (p := ⟨b, off + k, none⟩) hb).trans (hc k hlt)
      have hcw := hB.cell (i := k) (by simp [zeros]; omega)
      have hfw := hB.frozen k
      have HN := Lib.hid (hB.put k (xs.getD k 0))
      rw [take_set_next xs k hlt] at HN
      have HBel := Lib.hid (hbel.setCell (p := ⟨w.heap.size, k, none⟩) (Nat.le_refl _) (.int .i64 (xs.getD k 0)))
      clear hc hB hbel
      generalize xs.getD k 0 = x at *
      generalize (List.getD (xs.take k ++ zeros (xs.length - k)) k 0) = y at *
      go_wp2
      go_roundw
      case rel => exact ⟨k + 1, by omega, by go_num, HN.out, HBel.out⟩
      case measure => simp [intOf]; omega
    · have hk' : k = xs.length := by omega
      have HO := Lib.hid (hB.own (Nat.le_refl _) (by simp [zeros]; unfold maxLen; omega))
      go_wp2
      go_ret
      have e : xs.take k ++ zeros (xs.length - k) = xs := by subst hk'; simp [zeros]
      have h := HO.out
      rw [e] at h
      exact ⟨_, rfl, h, hbel⟩
set_option maxHeartbeats 1000000 in
theorem eqIntS_any (A A' : Option Addr) (c c' : Nat) (xs ys : List Int) (B B' : Nat) (w : World) (hx : Rds .i64 w B A xs) (hy : Rds .i64 w B' A' ys) (hl : xs.length ≤ 10000000) (hl' : ys.length ≤ 10000000) :
    Calls Try.prog 18 #[.slice A xs.length c, .slice A' ys.length c'] w fun e w' => e = .returned (.bool (decide (xs = ys))) ∧ ∃ n, w' = w.drewN n := by
  by_cases hne : xs.length = ys.length
  · have Hx := Lib.hid hx
    have Hy := Lib.hid hy
    have Hn := Lib.hid hne
    have hb : ((xs.length : Int) != (ys.length : Int)) = false := by simp [hne]
    have hl1 : xs.length ≤ ys.length := by omega
    have hl2 : ys.length ≤ xs.length := by omega
    clear hx hy hne
    go_enter Try.func18, Try.ntmps18
    go_wp2
    go_loopw [5] (fun i wr => ∃ k : Nat, k ≤ xs.length ∧ i = .int .i64 k ∧ Hid (xs.take k = ys.take k) ∧ ∃ n, wr = w.drewN n) (fun i _ => xs.length - (intOf i).toNat)
    case atStart => exact ⟨0, Nat.zero_le _, rfl, Lib.hid (by simp), 0, rfl⟩
    case round =>
      obtain ⟨k, hk, rfl, hT, n, rfl⟩ := hrel
      by_cases hlt : k < xs.length
      · obtain ⟨b, off, rfl, _, hc⟩ := Hx.out.cells_ hlt
        obtain ⟨b', off', rfl, _, hc'⟩ := Hy.out.cells_ (j := k) (by omega)
        have h1 := hc k hlt
        have h2 := hc' k (by omega)
        have HX : Hid (xs.take (k + 1) = xs.take k ++ [xs.getD k 0]) := Lib.hid (by rw [List.take_succ_eq_append_getElem hlt]; simp [hlt])
        have HY : Hid (ys.take (k + 1) = ys.take k ++ [ys.getD k 0]) := Lib.hid (by rw [List.take_succ_eq_append_getElem (by omega)]; simp [show k < ys.length by omega])
        clear hc hc' hb
        generalize xs.getD k 0 = x at *
        generalize ys.getD k 0 = y at *
        by_cases hxy : x = y
        · subst hxy
          go_wp2
          go_quiet (fail)
          go_wp2
          go_roundw
          case rel => exact ⟨k + 1, by omega, by go_num, Lib.hid (by rw [HX.out, HY.out, hT.out]), _, rfl⟩
          case measure => simp [intOf]; omega
        · have hb1 : (x == y) = false := beq_eq_false_iff_ne.2 hxy
          have hb2 : (x != y) = true := bne_iff_ne.2 hxy
          have HF : Hid (decide (xs = ys) = false) := Lib.hid (by
            apply decide_eq_false
            intro e
            subst e
            have := HX.out.symm.trans HY.out
            simp at this
            exact hxy this)
          clear hxy
          go_wp2
          go_quiet (fail)
          go_wp2
          go_ret
          exact ⟨ret_bool HF.out.symm, _, World.drewN_drewN _ _ _⟩
      · have HF : Hid (decide (xs = ys) = true) := Lib.hid (by
          apply decide_eq_true
          have := hT.out
          rwa [List.take_of_length_le (by omega), List.take_of_length_le (by omega)] at this)
        go_wp2
        go_ret
        exact ⟨ret_bool HF.out.symm, _, rfl⟩
  · have HF : Hid (decide (xs = ys) = false) := Lib.hid (decide_eq_false fun e => hne (by rw [e]))
    have hb : ((xs.length : Int) != (ys.length : Int)) = true := bne_iff_ne.2 (by omega)
    clear hne
    go_enter Try.func18, Try.ntmps18
    go_wp2
    go_ret
    exact ⟨ret_bool HF.out.symm, 0, rfl⟩
set_option maxHeartbeats 1000000 in
theorem lEqualInts_any (A A' : Option Addr) (c c' : Nat) (xs ys : List Int) (B B' : Nat) (w : World) (hx : Rds .i64 w B A xs) (hy : Rds .i64 w B' A' ys) (hl : xs.length ≤ 10000000) (hl' : ys.length ≤ 10000000) :
    Calls Try.prog 9 #[.slice A xs.length c, .slice A' ys.length c'] w fun e w' => e = .returned (.bool (decide (xs = ys))) ∧ ∃ n, w' = w.drewN n := by
  by_cases hne : xs.length = ys.length
  · have Hx := Lib.hid hx
    have Hy := Lib.hid hy
    have Hn := Lib.hid hne
    have hb : ((xs.length : Int) != (ys.length : Int)) = false := by simp [hne]
    have hl1 : xs.length ≤ ys.length := by omega
    have hl2 : ys.length ≤ xs.length := by omega
    clear hx hy hne
    go_enter Try.func9, Try.ntmps9
    go_wp2
    go_loopw [5] (fun i wr => ∃ k : Nat, k ≤ xs.length ∧ i = .int .i64 k ∧ Hid (xs.take k = ys.take k) ∧ ∃ n, wr = w.drewN n) (fun i _ => xs.length - (intOf i).toNat)
    case atStart => exact ⟨0, Nat.zero_le _, rfl, Lib.hid (by simp), 0, rfl⟩
    case round =>
      obtain ⟨k, hk, rfl, hT, n, rfl⟩ := hrel
      by_cases hlt : k < xs.length
      · obtain ⟨b, off, rfl, _, hc⟩ := Hx.out.cells_ hlt
        obtain ⟨b', off', rfl, _, hc'⟩ := Hy.out.cells_ (j := k) (by omega)
        have h1 := hc k hlt
        have h2 := hc' k (by omega)
        have HX : Hid (xs.take (k + 1) = xs.take k ++ [xs.getD k 0]) := Lib.hid (by rw [List.take_succ_eq_append_getElem hlt]; simp [hlt])
        have HY : Hid (ys.take (k + 1) = ys.take k ++ [ys.getD k 0]) := Lib.hid (by rw [List.take_succ_eq_append_getElem (by omega)]; simp [show k < ys.length by omega])
        clear hc hc' hb
        generalize xs.getD k 0 = x at *
        generalize ys.getD k 0 = y at *
        by_cases hxy : x = y
        · subst hxy
          go_wp2
          go_quiet (fail)
          go_wp2
          go_roundw
          case rel => exact ⟨k + 1, by omega, by go_num, Lib.hid (by rw [HX.out, HY.out, hT.out]), _, rfl⟩
          case measure => simp [intOf]; omega
        · have hb1 : (x == y) = false := beq_eq_false_iff_ne.2 hxy
          have hb2 : (x != y) = true := bne_iff_ne.2 hxy
          have HF : Hid (decide (xs = ys) = false) := Lib.hid (by
            apply decide_eq_false
            intro e
            subst e
            have := HX.out.symm.trans HY.out
            simp at this
            exact hxy this)
          clear hxy
          go_wp2
          go_quiet (fail)
          go_wp2
          go_ret
          exact ⟨ret_bool HF.out.symm, _, World.drewN_drewN _ _ _⟩
      · have HF : Hid (decide (xs = ys) = true) := Lib.hid (by
          apply decide_eq_true
          have := hT.out
          rwa [List.take_of_length_le (by omega), List.take_of_length_le (by omega)] at this)
        go_wp2
        go_ret
        exact ⟨ret_bool HF.out.symm, _, rfl⟩
  · have HF : Hid (decide (xs = ys) = false) := Lib.hid (decide_eq_false fun e => hne (by rw [e]))
    have hb : ((xs.length : Int) != (ys.length : Int)) = true := bne_iff_ne.2 (by omega)
    clear hne
    go_enter Try.func9, Try.ntmps9
    go_wp2
    go_ret
    exact ⟨ret_bool HF.out.symm, 0, rfl⟩
/-- Numbers k, k + 1, .. -/
def marks (k : Int) (n : Nat) : List Int := (List.range n).map (fun j : Nat => k + (j : Int))
theorem marks_len (k : Int) (n : Nat) : (marks k n).length = n := by simp [marks]
theorem marks_get (k : Int) (n j : Nat) (h : j < n) : (marks k n).getD j 0 = k + j := by simp [marks, h]
theorem marks_set (k : Int) (j : Nat) (xs : List Int) (h : j < xs.length) : (marks k j ++ xs.drop j).set j (k + j) = marks k (j + 1) ++ xs.drop (j + 1) := by
  apply List.ext_getElem?
  intro i
  simp only [marks, List.getElem?_set, List.getElem?_append, List.length_map, List.length_range, List.getElem?_map, List.getElem?_drop, List.length_append, List.length_drop]
  by_cases h1 : j = i
  · subst h1; simp [show j < j + (xs.length - j) by omega]
  · by_cases h2 : i < j
    · simp [h1, h2, show i < j + 1 by omega]
    · simp [h1, h2, show ¬ i < j + 1 by omega, show j + (i - j) = i by omega, show j + 1 + (i - (j + 1)) = i by omega]
theorem Own.form {w : World} {base : Nat} {v : Value} {xs : List Int} (h : Own w base v xs) (hx : 0 < xs.length) : ∃ g cap, v = .slice (some ⟨g, 0, none⟩) xs.length cap ∧ base ≤ g ∧ g < w.heap.size := by
  rcases h.2 with ⟨rfl, h0⟩ | ⟨g, cap, cur, rfl, hb, hg, _⟩
  · omega
  · refine ⟨g, cap, rfl, hb, ?_⟩
    rcases Nat.lt_or_ge g w.heap.size with hlt | hge
    · exact hlt
    · rw [Array.getElem?_eq_none hge] at hg; cases hg
theorem Own.put {w : World} {base g cap : Nat} {xs : List Int} {n : Nat} (h : Own w base (.slice (some ⟨g, 0, none⟩) n cap) xs) (hn : n = xs.length) (j : Nat) (y : Int) :
    Own (w.setCell ⟨g, j, none⟩ (.int .i64 y)) base (.slice (some ⟨g, 0, none⟩) n cap) (xs.set j y) ∧ w.grownBy (w.setCell ⟨g, j, none⟩ (.int .i64 y)) (some g) := by
  subst hn
  have := World.ownsRow.stored h j (.int .i64 y)
  refine ⟨?_, this.2⟩
  unfold Own
  simpa [List.map_set] using this.1
theorem Own.cell {w : World} {base g cap : Nat} {xs : List Int} {n : Nat} (h : Own w base (.slice (some ⟨g, 0, none⟩) n cap) xs) (hn : n = xs.length) {j : Nat} (hj : j < xs.length) : w.cell? ⟨g, j, none⟩ = some (.int .i64 (xs.getD j 0)) := by
  subst hn
  rw [World.ownsRow.cellAt h j (by omega)]
  simp [hj]
theorem Own.frozen {w : World} {base g cap : Nat} {xs : List Int} {n : Nat} (h : Own w base (.slice (some ⟨g, 0, none⟩) n cap) xs) (hn : n = xs.length) (j : Nat) : w.frozen? ⟨g, j, none⟩ = false := by
  subst hn
  exact World.ownsRow.frozenAt h j
theorem Own.length_eq {w : World} {base : Nat} {v : Value} {xs ys : List Int} (h : Own w base v ys) (e : xs = ys) : Own w base v xs := by rw [e]; exact h
theorem gtrans {a b c : World} {row' : Option Nat} (h : a.grownBy b row') (k : b.grownBy c row') : a.grownBy c row' :=
  ⟨k.os.trans h.os, k.tape.trans h.tape, k.output.trans h.output, Nat.le_trans h.size k.size, fun i hi hne => (k.block i (Nat.lt_of_lt_of_le hi h.size) hne).trans (h.block i hi hne)⟩

def Marked (base : Nat) (v : Value) (n : Nat) (k : Int) (w : World) (e : Ending) (w' : World) : Prop :=
  e = .returned (.int .i64 (k + n)) ∧ Own w' base v (marks k n) ∧ w.grownBy w' v.ownBlock ∧ w'.heap.size = w.heap.size
set_option maxHeartbeats 1000000 in
theorem markIntS_any (v : Value) (base : Nat) (xs : List Int) (k : Int) (w : World) (h : Own w base v xs) (hl : xs.length ≤ 10000000) (hk0 : 0 ≤ k) (hk1 : k ≤ 100000000) :
    Calls Try.prog 21 #[v, .int .i64 k] w (Marked base v xs.length k w) := by
  by_cases h0 : xs.length = 0
  · obtain rfl : xs = [] := List.eq_nil_of_length_eq_zero h0
    obtain ⟨A, c, rfl, _⟩ := h.slice
    have Hh := Lib.hid h
    clear h h0
    go_enter Try.func21, Try.ntmps21
    go_wp2
    go_loop [1, 5] (fun kk i => kk = .int .i64 k ∧ i = .int .i64 0) (fun _ _ => 0)
    case atStart => exact ⟨rfl, rfl⟩
    case round =>
      obtain ⟨rfl, rfl⟩ := hrel
      go_wp2
      go_ret
      exact ⟨by simp, by simpa [marks] using Hh.out, World.grownBy.refl _ _, rfl⟩
  · obtain ⟨g, cap, rfl, hbg, hgl⟩ := h.form (by omega)
    have Hh := Lib.hid h
    clear h
    go_enter Try.func21, Try.ntmps21
    go_wp2
    go_loopw [1, 5] (fun kk i wr => ∃ j : Nat, j ≤ xs.length ∧ i = .int .i64 j ∧ kk = .int .i64 (k + j) ∧ Own wr base (.slice (some ⟨g, 0, none⟩) xs.length cap) (marks k j ++ xs.drop j) ∧ w.grownBy wr (some g) ∧ Hid (wr.heap.size = w.heap.size)) (fun _ i _ => xs.length - (intOf i).toNat)
    case atStart => exact ⟨0, Nat.zero_le _, rfl, by simp, by simpa [marks] using Hh.out, World.grownBy.refl _ _, Lib.hid rfl⟩
    case round =>
      obtain ⟨j, hj, rfl, rfl, hO, hG, hS⟩ := hrel
      have hlen : (marks k j ++ xs.drop j).length = xs.length := by simp [marks]; omega
      by_cases hlt : j < xs.length
      · have hcw := hO.cell hlen.symm (j := j) (by omega)
        have hfw := hO.frozen hlen.symm j
        have hp := hO.put hlen.symm j (k + j)
        rw [marks_set k j xs hlt] at hp
        have HP := Lib.hid hp
        clear hp hO hlen
        generalize (List.getD (marks k j ++ xs.drop j) j 0) = y at *
        go_wp2
        go_roundw
        case rel => exact ⟨j + 1, by omega, by go_num, by go_num, HP.out.1, gtrans hG HP.out.2, Lib.hid (by simpa [World.setCell] using hS.out)⟩
        case measure => simp [intOf]; omega
      · have hj' : j = xs.length := by omega
        have HO := Lib.hid hO
        clear hO hlen
        go_wp2
        go_ret
        subst hj'
        exact ⟨rfl, by simpa using HO.out, hG, hS.out⟩
set_option maxHeartbeats 1000000 in
theorem heldIntS_any (A : Option Addr) (c B n : Nat) (k : Int) (w : World) (h : Rds .i64 w B A (marks k n)) (hl : n ≤ 10000000) (hk0 : 0 ≤ k) (hk1 : k ≤ 100000000) :
    Calls Try.prog 22 #[.slice A n c, .int .i64 k] w fun e w' => e = .returned (.int .i64 (k + n)) ∧ w = w' := by
  have Hh := Lib.hid h
  clear h
  go_enter Try.func22, Try.ntmps22
  go_wp2
  go_loop [1, 5] (fun kk i => ∃ j : Nat, j ≤ n ∧ i = .int .i64 j ∧ kk = .int .i64 (k + j)) (fun _ i => n - (intOf i).toNat)
  case atStart => exact ⟨0, Nat.zero_le _, rfl, by simp⟩
  case round =>
    obtain ⟨j, hj, rfl, rfl⟩ := hrel
    by_cases hlt : j < n
    · obtain ⟨b, off, rfl, _, hc⟩ := Hh.out.cells_ (j := j) (by rw [marks_len]; exact hlt)
      have h1 := hc j (by rw [marks_len]; exact hlt)
      rw [marks_get k n j hlt] at h1
      clear hc
      go_wp2
      go_round
      case rel => exact ⟨j + 1, by omega, by go_num, by go_num⟩
      case measure => simp [intOf]; omega
    · have hj' : j = n := by omega
      go_wp2
      go_ret
      subst hj'
      exact ⟨rfl, rfl⟩
def allB (lo hi : Int) (xs : List Int) : Bool := decide (∀ x ∈ xs, lo ≤ x ∧ x ≤ hi)
theorem allB_no {lo hi : Int} {xs : List Int} {k : Nat} (hk : k < xs.length) (h : ¬ (lo ≤ xs.getD k 0 ∧ xs.getD k 0 ≤ hi)) : allB lo hi xs = false := by
  apply decide_eq_false
  intro ha
  have := ha (xs[k]) (List.getElem_mem hk)
  simp [hk] at h
  omega
theorem allB_yes {lo hi : Int} {xs : List Int} (h : ∀ j, j < xs.length → lo ≤ xs.getD j 0 ∧ xs.getD j 0 ≤ hi) : allB lo hi xs = true := by
  apply decide_eq_true
  intro x hx
  obtain ⟨j, hj, rfl⟩ := List.getElem_of_mem hx
  simpa [hj] using h j hj
set_option maxHeartbeats 1000000 in
theorem sAllIn_any (A : Option Addr) (c B : Nat) (xs : List Int) (lo hi : Int) (w : World) (h : Rds .i64 w B A xs) (hl : xs.length ≤ 10000000) :
    Calls Try.prog 38 #[.slice A xs.length c, .int .i64 lo, .int .i64 hi] w fun e w' => e = .returned (.bool (allB lo hi xs)) ∧ w = w' := by
  have Hh := Lib.hid h
  clear h
  go_enter Try.func38, Try.ntmps38
  go_wp2
  go_loop [7] (fun i => ∃ k : Nat, k ≤ xs.length ∧ i = .int .i64 k ∧ Hid (∀ j, j < k → lo ≤ xs.getD j 0 ∧ xs.getD j 0 ≤ hi)) (fun i => xs.length - (intOf i).toNat)
  case atStart => exact ⟨0, Nat.zero_le _, rfl, Lib.hid (fun j hj => by omega)⟩
  case round =>
    obtain ⟨k, hk, rfl, hT⟩ := hrel
    by_cases hlt : k < xs.length
    · obtain ⟨b, off, rfl, _, hc⟩ := Hh.out.cells_ hlt
      have h1 := hc k hlt
      have HN := Lib.hid (allB_no (lo := lo) (hi := hi) hlt)
      have HT : Hid (lo ≤ xs.getD k 0 → xs.getD k 0 ≤ hi → ∀ j, j < k + 1 → lo ≤ xs.getD j 0 ∧ xs.getD j 0 ≤ hi) := Lib.hid (fun h1 h2 j hj => by
        by_cases e : j = k
        · subst e; exact ⟨h1, h2⟩
        · exact hT.out j (by omega))
      clear hc
      generalize xs.getD k 0 = x at *
      by_cases hx1 : lo ≤ x
      · by_cases hx2 : x ≤ hi
        · have HT' := Lib.hid (HT.out hx1 hx2)
          clear HT
          go_wp2
          go_round
          case rel => exact ⟨k + 1, by omega, by go_num, HT'⟩
          case measure => simp [intOf]; omega
        · go_wp2
          go_ret
          exact ⟨ret_bool (HN.out (by omega)).symm, rfl⟩
      · go_wp2
        go_ret
        exact ⟨ret_bool (HN.out (by omega)).symm, rfl⟩
    · have HF := Lib.hid (allB_yes (lo := lo) (hi := hi) (xs := xs) (fun j hj => hT.out j (by omega)))
      go_wp2
      go_ret
      exact ⟨ret_bool HF.out.symm, rfl⟩
set_option maxHeartbeats 1000000 in
theorem areBytes_any (A : Option Addr) (c B : Nat) (xs : List Int) (w : World) (h : Rds .i64 w B A xs) (hl : xs.length ≤ 10000000) :
    Calls Try.prog 40 #[.slice A xs.length c] w fun e w' => e = .returned (.bool (allB 0 255 xs)) ∧ w = w' := by
  have Hh := Lib.hid h
  clear h
  go_enter Try.func40, Try.ntmps40
  go_wp2
  go_loop [7] (fun i => ∃ k : Nat, k ≤ xs.length ∧ i = .int .i64 k ∧ Hid (∀ j, j < k → 0 ≤ xs.getD j 0 ∧ xs.getD j 0 ≤ 255)) (fun i => xs.length - (intOf i).toNat)
  case atStart => exact ⟨0, Nat.zero_le _, rfl, Lib.hid (fun j hj => by omega)⟩
  case round =>
    obtain ⟨k, hk, rfl, hT⟩ := hrel
    by_cases hlt : k < xs.length
    · obtain ⟨b, off, rfl, _, hc⟩ := Hh.out.cells_ hlt
      have h1 := hc k hlt
      have HN := Lib.hid (allB_no (lo := 0) (hi := 255) hlt)
      have HT : Hid (0 ≤ xs.getD k 0 → xs.getD k 0 ≤ 255 → ∀ j, j < k + 1 → 0 ≤ xs.getD j 0 ∧ xs.getD j 0 ≤ 255) := Lib.hid (fun h1 h2 j hj => by
        by_cases e : j = k
        · subst e; exact ⟨h1, h2⟩
        · exact hT.out j (by omega))
      clear hc
      generalize xs.getD k 0 = x at *
      by_cases hx1 : 0 ≤ x
      · by_cases hx2 : x ≤ 255
        · have HT' := Lib.hid (HT.out hx1 hx2)
          clear HT
          go_wp2
          go_round
          case rel => exact ⟨k + 1, by omega, by go_num, HT'⟩
          case measure => simp [intOf]; omega
        · go_wp2
          go_ret
          exact ⟨ret_bool (HN.out (by omega)).symm, rfl⟩
      · go_wp2
        go_ret
        exact ⟨ret_bool (HN.out (by omega)).symm, rfl⟩
    · have HF := Lib.hid (allB_yes (lo := 0) (hi := 255) (xs := xs) (fun j hj => hT.out j (by omega)))
      go_wp2
      go_ret
      exact ⟨ret_bool HF.out.symm, rfl⟩
/-- 'append' onto a row of the call's own, whatever the source. -/
theorem wp_app {w : World} {o : Oper} {a : Act} {K : Act → World → Prop} {Q : Exit → Act → World → Prop} (s x : Operand)
    (ho : o.op = .call { callee := .builtin .append, args := #[s, x], argTypes := #[23, 23] })
    (base : Nat) (v : Value) (xs : List Int) (hs : a.eval s = v) (hown : Own w base v xs)
    (A : Option Addr) (m c B : Nat) (ys : List Int) (hx : a.eval x = .slice A m c) (hm : m = ys.length) (hr : Rds .i64 w B A ys) (hl : xs.length + ys.length ≤ 10000000) (hbase : base ≤ w.heap.size)
    (h : ∀ v' w', Own w' base v' (xs ++ ys) → w.grownBy w' v.ownBlock → K (a.put o.dst v') w') : o.wp Try.prog a w K Q := by
  obtain ⟨i, hi, hz, hsz, hb⟩ := info_parts info_int
  subst hm
  rcases A with _ | ad
  · have hy : ys = [] := by
      rcases hr with h | ⟨b, off, h, _⟩
      · exact h
      · cases h
    subst hy
    have hrun : (Builtin.append_ #[23, 23] o.type #[v, .slice none 0 c]).run Try.prog w = .ok v w := by
      rcases hown.2 with ⟨rfl, h0⟩ | ⟨g, cap, cur, rfl, _, _, hnc, _⟩
      · simp [Builtin.append_, run_underlying Try.underlying23, sizeOf, typeInfo, hi, Builtin.lenOf, Builtin.firstCells]
      · simp [Builtin.append_, run_underlying Try.underlying23, sizeOf, typeInfo, hi, Builtin.lenOf, Builtin.firstCells, hnc, storeCells]
    unfold Oper.wp
    simp [execOp, ho, resolve, invoke, builtin, hs, hx, hrun, Result.andThen]
    exact h v w (by simpa using hown) (World.grownBy.refl _ _)
  · refine wp_append_own w s x 23 ho base 3 i (.int .i64 0) 1 8 Try.underlying23 hi hz hsz hb rfl (by omega) v xs.length (xs.map (.int .i64)) hs hown ad ys.length c (ys.map (.int .i64)) hx (by simp) ?_ (ints_oneCell _ _)
      (by unfold maxLen; omega) (by omega) hbase ?_
    · intro j u hu
      rcases hr with rfl | ⟨b, off, h1, _, hc⟩
      · simp at hu
      · have h1 := Option.some.inj h1
        subst h1
        have hj : j < ys.length := by
          rcases Nat.lt_or_ge j ys.length with h | h
          · exact h
          · simp [List.getElem?_eq_none h] at hu
        have hcj := hc j hj
        have e : (⟨b, off, none⟩ : Addr).add j = ⟨b, off + j, none⟩ := add_spot rfl j
        rw [e, hcj]
        simp [hj] at hu ⊢
        exact hu
    · intro v' w' ho' hg _
      exact h v' w' (by unfold Own; simpa using ho') hg
theorem wpList_app {w : World} {ops : Array Oper} {rest : List Oper} {o : Oper} {a : Act} {Q : Exit → Act → World → Prop} (hgd : o.guard = none) (s x : Operand)
    (ho : o.op = .call { callee := .builtin .append, args := #[s, x], argTypes := #[23, 23] })
    (base : Nat) (v : Value) (xs : List Int) (hs : a.eval s = v) (hown : Own w base v xs)
    (A : Option Addr) (m c B : Nat) (ys : List Int) (hx : a.eval x = .slice A m c) (hm : m = ys.length) (hr : Rds .i64 w B A ys) (hl : xs.length + ys.length ≤ 10000000) (hbase : base ≤ w.heap.size)
    (h : ∀ v' w', Own w' base v' (xs ++ ys) → w.grownBy w' v.ownBlock → wpList Try.prog ops Q rest (a.put o.dst v') w') : wpList Try.prog ops Q (o :: rest) a w :=
  wpList_plain hgd fun _ hK => wp_app s x ho base v xs hs hown A m c B ys hx hm hr hl hbase fun v' w' h1 h2 => hK _ _ (h v' w' h1 h2)
theorem step_app {w : World} {ops : Array Oper} {o : Oper} {a : Act} {K : Act → World → Prop} {Q : Exit → Act → World → Prop} {E : Prop} (hgd : o.guard = none) (s x : Operand)
    (ho : o.op = .call { callee := .builtin .append, args := #[s, x], argTypes := #[23, 23] })
    (base : Nat) (v : Value) (xs : List Int) (hs : a.eval s = v) (hown : Own w base v xs)
    (A : Option Addr) (m c B : Nat) (ys : List Int) (hx : a.eval x = .slice A m c) (hm : m = ys.length) (hr : Rds .i64 w B A ys) (hl : xs.length + ys.length ≤ 10000000) (hbase : base ≤ w.heap.size)
    (h : ∀ v' w', Own w' base v' (xs ++ ys) → w.grownBy w' v.ownBlock → K (a.put o.dst v') w') : if Region.wanted o (yielded ops a.tmps) = true then Oper.wp Try.prog o a w K Q else E := by
  have hw : Region.wanted o (yielded ops a.tmps) = true := by simp [Region.wanted, hgd]
  rw [if_pos hw]
  exact wp_app s x ho base v xs hs hown A m c B ys hx hm hr hl hbase h
/-- What a new block with one number reads as. -/
theorem rds_one (w : World) (n : Int) : Rds .i64 (w.alloc (.cells #[.int .i64 n] 3)) (w.heap.size + 1) (some ⟨w.heap.size, 0, none⟩) [n] := .inr ⟨_, _, rfl, by omega, fun j hj => by
  have hj0 : j = 0 := by simp at hj; omega
  subst hj0
  rw [cell_of_row _ _ _ _ _ _ (heap_alloc_new w _)]
  rfl⟩
theorem Own.alloc {w : World} {base : Nat} {v : Value} {xs : List Int} (h : Own w base v xs) (o : Obj) : Own (w.alloc o) base v xs := World.ownsRow.alloc h o
theorem own_none (w : World) : Own (w.alloc (.cells #[] 3)) w.heap.size (.slice (some ⟨w.heap.size, 0, none⟩) 0 0) [] :=
  World.ownsRow_made w #[] 0 (Nat.le_refl _) (Nat.zero_le _) (by simp)
set_option maxHeartbeats 1000000 in
theorem copyInts_any (A : Option Addr) (c : Nat) (xs : List Int) (w : World) (h : Rds .i64 w w.heap.size A xs) (hl : xs.length ≤ 2000000) :
    Calls Try.prog 55 #[.slice A xs.length c] w (Made xs w) := by
  have H1 := Lib.hid (own_none w)
  have H2 := Lib.hid (h.alloc (Nat.le_refl _) (.cells #[] 3))
  clear h
  go_enter Try.func55, Try.ntmps55
  go_wp2_with (at_builtin; refine wpList_app rfl (.tmp 3) (.tmp 4) rfl w.heap.size (.slice (some ⟨w.heap.size, 0, none⟩) 0 0) [] rfl H1.out A xs.length c w.heap.size xs rfl rfl H2.out (by simp; omega) (by simp) ?_; intro v w1 hown hgrow)
  go_ret
  exact ⟨_, rfl, by simpa using hown, ((Below.refl _ _).alloc (Nat.le_refl _) _).grown hgrow (by simp) (by simp [Value.ownBlock])⟩
end Go.Proofs.Ytolifmgkkkclkaa
