/- FitB, BoxR, BndM, Area, BoxL, ImgMk: one text of several. -/
import Derived.Test.YtlmpkanlfhjijaaLists
import Derived.Test.YtlmpkanlfhjijaaOwnT
import Derived.Test.YtlmpkanlfhjijaaReg2
import Derived.Test.YtlmpkanlfhjijaaReg3
import Derived.Deep.QuietTactic
import Derived.BigQuiet
import Derived.Test.YtlmpkanlfhjijaaPntM
import Derived.Test.YtlmpkanlfhjijaaLSt
import Derived.Test.YtlmpkanlfhjijaaRnM
namespace Go.Proofs.Ytlmpkanlfhjijaa
open Go.RowKit
set_option linter.unusedSimpArgs false
set_option linter.unusedVariables false
set_option maxRecDepth 20000

set_option maxHeartbeats 1000000 in
theorem sFt_any (n lo hi : Int) (w : World) : Calls Try.prog 43 #[.int .i64 n, .int .i64 lo, .int .i64 hi] w fun e w' => e = .returned (.bool (decide (lo ≤ n ∧ n ≤ hi))) ∧ w = w' := by
  by_cases h1 : lo ≤ n <;> by_cases h2 : n ≤ hi
  all_goals
    go_enter Try.func43, Try.ntmps43
    go_wp2
    go_ret
    exact ⟨ret_bool (by simp [h1, h2] <;> omega), rfl⟩
set_option maxHeartbeats 1000000 in
theorem iFt_any (n lo hi : Int) (w : World) : Calls Try.prog 79 #[.int .i64 n, .int .i64 lo, .int .i64 hi] w fun e w' => e = .returned (.bool (decide (lo ≤ n ∧ n ≤ hi))) ∧ w = w' := by
  by_cases h1 : lo ≤ n <;> by_cases h2 : n ≤ hi
  all_goals
    go_enter Try.func79, Try.ntmps79
    go_wp2
    go_ret
    exact ⟨ret_bool (by simp [h1, h2] <;> omega), rfl⟩
/-- Whether a box fits. -/
def ftB (bx by_ bw bh W H : Int) : Bool := decide (0 ≤ bx ∧ bx ≤ W - 1) && (decide (1 ≤ bw ∧ bw ≤ W - bx) && (decide (0 ≤ by_ ∧ by_ ≤ H - 1) && decide (1 ≤ bh ∧ bh ≤ H - by_)))
set_option maxHeartbeats 8000000 in
theorem ft_any (bx by_ bw bh W H : Int) (hW : 0 ≤ W ∧ W ≤ 1000) (hH : 0 ≤ H ∧ H ≤ 1000) (w : World) :
    Calls Try.prog 51 #[.agg #[.int .i64 bx, .int .i64 by_, .int .i64 bw, .int .i64 bh], .int .i64 W, .int .i64 H] w fun e w' => e = .returned (.bool (ftB bx by_ bw bh W H)) ∧ Below w.heap.size w w' := by
  have HB := Lib.hid ((Below.refl w.heap.size w).alloc (Nat.le_refl _) (.cells #[.int .i64 bx, .int .i64 by_, .int .i64 bw, .int .i64 bh] 42))
  obtain ⟨hW0, hW1⟩ := hW
  obtain ⟨hH0, hH1⟩ := hH
  have HV : Hid (ftB bx by_ bw bh W H = (decide (0 ≤ bx ∧ bx ≤ W - 1) && (decide (1 ≤ bw ∧ bw ≤ W - bx) && (decide (0 ≤ by_ ∧ by_ ≤ H - 1) && decide (1 ≤ bh ∧ bh ≤ H - by_))))) := Lib.hid rfl
  cases hx : decide (0 ≤ bx ∧ bx ≤ W - 1)
  · have Ex := Lib.hid hx
    clear hx
    have HF : Hid (ftB bx by_ bw bh W H = false) := Lib.hid (by rw [HV.out]; simp only [Ex.out]; simp)
    clear HV
    go_enter Try.func51, Try.ntmps51
    go_wp2_with fail
    refine (iFt_any bx 0 (W - 1) _).mono ?_
    rintro e w' ⟨rfl, rfl⟩
    rw [Ex.out]
    go_wp2
    go_ret
    exact ⟨ret_bool HF.out.symm, HB.out⟩
  · have Ex := Lib.hid hx
    obtain ⟨xx0, xx1⟩ := of_decide_eq_true hx
    clear hx
    cases hw : decide (1 ≤ bw ∧ bw ≤ W - bx)
    · have Ew := Lib.hid hw
      clear hw
      have HF : Hid (ftB bx by_ bw bh W H = false) := Lib.hid (by rw [HV.out]; simp only [Ex.out, Ew.out]; simp)
      clear HV
      go_enter Try.func51, Try.ntmps51
      go_wp2_with fail
      refine (iFt_any bx 0 (W - 1) _).mono ?_
      rintro e w' ⟨rfl, rfl⟩
      rw [Ex.out]
      go_wp2_with fail
      refine (iFt_any bw 1 (W - bx) _).mono ?_
      rintro e w' ⟨rfl, rfl⟩
      rw [Ew.out]
      go_wp2
      go_ret
      exact ⟨ret_bool HF.out.symm, HB.out⟩
    · have Ew := Lib.hid hw
      obtain ⟨ww0, ww1⟩ := of_decide_eq_true hw
      clear hw
      cases hy : decide (0 ≤ by_ ∧ by_ ≤ H - 1)
      · have Ey := Lib.hid hy
        clear hy
        have HF : Hid (ftB bx by_ bw bh W H = false) := Lib.hid (by rw [HV.out]; simp only [Ex.out, Ew.out, Ey.out]; simp)
        clear HV
        go_enter Try.func51, Try.ntmps51
        go_wp2_with fail
        refine (iFt_any bx 0 (W - 1) _).mono ?_
        rintro e w' ⟨rfl, rfl⟩
        rw [Ex.out]
        go_wp2_with fail
        refine (iFt_any bw 1 (W - bx) _).mono ?_
        rintro e w' ⟨rfl, rfl⟩
        rw [Ew.out]
        go_wp2_with fail
        refine (iFt_any by_ 0 (H - 1) _).mono ?_
        rintro e w' ⟨rfl, rfl⟩
        rw [Ey.out]
        go_wp2
        go_ret
        exact ⟨ret_bool HF.out.symm, HB.out⟩
      · have Ey := Lib.hid hy
        obtain ⟨yy0, yy1⟩ := of_decide_eq_true hy
        clear hy
        cases hh : decide (1 ≤ bh ∧ bh ≤ H - by_)
        · have Eh := Lib.hid hh
          clear hh
          have HF : Hid (ftB bx by_ bw bh W H = false) := Lib.hid (by rw [HV.out]; simp only [Ex.out, Ew.out, Ey.out, Eh.out]; simp)
          clear HV
          go_enter Try.func51, Try.ntmps51
          go_wp2_with fail
          refine (iFt_any bx 0 (W - 1) _).mono ?_
          rintro e w' ⟨rfl, rfl⟩
          rw [Ex.out]
          go_wp2_with fail
          refine (iFt_any bw 1 (W - bx) _).mono ?_
          rintro e w' ⟨rfl, rfl⟩
          rw [Ew.out]
          go_wp2_with fail
          refine (iFt_any by_ 0 (H - 1) _).mono ?_
          rintro e w' ⟨rfl, rfl⟩
          rw [Ey.out]
          go_wp2_with fail
          refine (iFt_any bh 1 (H - by_) _).mono ?_
          rintro e w' ⟨rfl, rfl⟩
          rw [Eh.out]
          go_wp2
          go_ret
          exact ⟨ret_bool HF.out.symm, HB.out⟩
        · have Eh := Lib.hid hh
          obtain ⟨hh0, hh1⟩ := of_decide_eq_true hh
          clear hh
          have HF : Hid (ftB bx by_ bw bh W H = true) := Lib.hid (by rw [HV.out]; simp only [Ex.out, Ew.out, Ey.out, Eh.out]; simp)
          clear HV
          go_enter Try.func51, Try.ntmps51
          go_wp2_with fail
          refine (iFt_any bx 0 (W - 1) _).mono ?_
          rintro e w' ⟨rfl, rfl⟩
          rw [Ex.out]
          go_wp2_with fail
          refine (iFt_any bw 1 (W - bx) _).mono ?_
          rintro e w' ⟨rfl, rfl⟩
          rw [Ew.out]
          go_wp2_with fail
          refine (iFt_any by_ 0 (H - 1) _).mono ?_
          rintro e w' ⟨rfl, rfl⟩
          rw [Ey.out]
          go_wp2_with fail
          refine (iFt_any bh 1 (H - by_) _).mono ?_
          rintro e w' ⟨rfl, rfl⟩
          rw [Eh.out]
          go_wp2
          go_ret
          exact ⟨ret_bool HF.out.symm, HB.out⟩
end Go.Proofs.Ytlmpkanlfhjijaa
namespace Go.Proofs.Ytlmpkanlfhjijaa
open Go.RowKit
set_option linter.unusedSimpArgs false
set_option linter.unusedVariables false
set_option maxRecDepth 20000

/-- The first k rows of a box. -/
def brow (x y bw : Int) : Nat → List Int
  | 0 => []
  | k + 1 => brow x y bw k ++ [y + k, x, x + bw]
theorem brow_len (x y bw : Int) : ∀ k, (brow x y bw k).length = k * 3
  | 0 => rfl
  | k + 1 => by unfold brow; rw [List.length_append, brow_len x y bw k]; simp; omega
def brN (x y bw bh : Int) : Nat := if ftB x y bw bh 16 16 = true then bh.toNat else 0
def brL (x y bw bh : Int) : List Int := brow x y bw (brN x y bw bh)
def BoxRuns (x y bw bh : Int) (w : World) (e : Ending) (w' : World) : Prop :=
  ∃ v, e = .returned (.tuple #[v, .bool (ftB x y bw bh 16 16)]) ∧ OwnT 82 3 w' w.heap.size v (brN x y bw bh) (brL x y bw bh) ∧ Below w.heap.size w w'
theorem ftB_bd {x y bw bh : Int} (h : ftB x y bw bh 16 16 = true) : (0 ≤ x ∧ x ≤ 15) ∧ (1 ≤ bw ∧ x + bw ≤ 16) ∧ (0 ≤ y ∧ y ≤ 15) ∧ (1 ≤ bh ∧ y + bh ≤ 16) := by
  simp only [ftB, Bool.and_eq_true, decide_eq_true_eq] at h
  obtain ⟨⟨a, b⟩, ⟨c, d⟩, ⟨e, f⟩, g, k⟩ := h
  exact ⟨⟨a, by omega⟩, ⟨c, by omega⟩, ⟨e, by omega⟩, g, by omega⟩
theorem boxRuns_no {x y bw bh : Int} {w w' : World} (h : ftB x y bw bh 16 16 = false) (hb : Below w.heap.size w w') : BoxRuns x y bw bh w (.returned (.tuple #[.slice none 0 0, .bool false])) w' :=
  ⟨_, by rw [h], by unfold brL brN; rw [h]; exact OwnT.nil _ _ _ _, hb⟩
theorem brN_le (x y bw bh : Int) : brN x y bw bh ≤ 16 := by
  unfold brN
  split
  · next h => have := ftB_bd h; omega
  · omega
theorem brN_yes {x y bw bh : Int} (h : ftB x y bw bh 16 16 = true) : brN x y bw bh = bh.toNat := if_pos h
set_option maxHeartbeats 8000000 in
theorem i_BoxRegion (x y bw bh : Int) (w : World) : Calls Try.prog 18 #[.agg #[.int .i64 x, .int .i64 y, .int .i64 bw, .int .i64 bh]] w (BoxRuns x y bw bh w) := by
  have HbA : Hid (Below w.heap.size w (w.alloc (.cells #[.int .i64 x, .int .i64 y, .int .i64 bw, .int .i64 bh] 42))) := Lib.hid ((Below.refl _ _).alloc (Nat.le_refl _) _)
  have HgA : Hid ((w.alloc (.cells #[.int .i64 x, .int .i64 y, .int .i64 bw, .int .i64 bh] 42)).heap[w.heap.size]? = some (.cells #[.int .i64 x, .int .i64 y, .int .i64 bw, .int .i64 bh] 42 (0, 0))) := Lib.hid (heap_alloc_new w _)
  have HsA : Hid (w.heap.size < (w.alloc (.cells #[.int .i64 x, .int .i64 y, .int .i64 bw, .int .i64 bh] 42)).heap.size) := Lib.hid (by simp)
  cases hf : ftB x y bw bh 16 16
  · have HN := Lib.hid hf
    clear hf
    go_enter Try.func18, Try.ntmps18
    go_wp2_with fail
    generalize w.alloc (.cells #[.int .i64 x, .int .i64 y, .int .i64 bw, .int .i64 bh] 42) = u at *
    refine (ft_any x y bw bh 16 16 (by omega) (by omega) u).mono ?_
    rintro e w1 ⟨rfl, hb1⟩
    rw [HN.out]
    have HB := Lib.hid (HbA.out.trans (hb1.mono HbA.out.size))
    go_wp2
    go_ret2
    exact boxRuns_no HN.out HB.out
  · have hok := Lib.hid hf
    obtain ⟨⟨x0, x1⟩, ⟨b0, b1⟩, ⟨y0, y1⟩, h0, h1⟩ := ftB_bd hf
    clear hf
    go_enter Try.func18, Try.ntmps18
    go_wp2_with fail
    generalize w.alloc (.cells #[.int .i64 x, .int .i64 y, .int .i64 bw, .int .i64 bh] 42) = u at *
    refine (ft_any x y bw bh 16 16 (by omega) (by omega) u).mono ?_
    rintro e w1 ⟨rfl, hb1⟩
    rw [hok.out]
    have hg1 := (hb1.block w.heap.size HsA.out).trans HgA.out
    have q0 : w1.cell? ⟨w.heap.size, 0, none⟩ = some (.int .i64 x) := by rw [cell_of_row _ _ _ _ _ _ hg1]; rfl
    have q1 : w1.cell? ⟨w.heap.size, 1, none⟩ = some (.int .i64 y) := by rw [cell_of_row _ _ _ _ _ _ hg1]; rfl
    have q2 : w1.cell? ⟨w.heap.size, 2, none⟩ = some (.int .i64 bw) := by rw [cell_of_row _ _ _ _ _ _ hg1]; rfl
    have q3 : w1.cell? ⟨w.heap.size, 3, none⟩ = some (.int .i64 bh) := by rw [cell_of_row _ _ _ _ _ _ hg1]; rfl
    have HB1 := Lib.hid hb1
    clear hg1 hb1
    go_wp2
    clear q0 q1 q2 q3
    go_loopw [11, 4] (fun i l wr => ∃ j : Nat, (j : Int) ≤ bh ∧ i = .int .i64 j ∧ Hid (OwnT 82 3 wr u.heap.size l j (brow x y bw j)) ∧ Below u.heap.size u wr) (fun i _ _ => (bh - intOf i).toNat)
    case atStart => exact ⟨0, by omega, rfl, Lib.hid (OwnT.nil _ _ _ _), HB1.out⟩
    case round =>
      obtain ⟨j, hj, rfl, hO, hbel⟩ := hrel
      obtain ⟨A1, c1, rfl, hc1⟩ := hO.out.slice
      have hgr := (hbel.block w.heap.size HsA.out).trans HgA.out
      have q0 : wr.cell? ⟨w.heap.size, 0, none⟩ = some (.int .i64 x) := by rw [cell_of_row _ _ _ _ _ _ hgr]; rfl
      have q1 : wr.cell? ⟨w.heap.size, 1, none⟩ = some (.int .i64 y) := by rw [cell_of_row _ _ _ _ _ _ hgr]; rfl
      have q2 : wr.cell? ⟨w.heap.size, 2, none⟩ = some (.int .i64 bw) := by rw [cell_of_row _ _ _ _ _ _ hgr]; rfl
      have q3 : wr.cell? ⟨w.heap.size, 3, none⟩ = some (.int .i64 bh) := by rw [cell_of_row _ _ _ _ _ _ hgr]; rfl
      clear hgr
      by_cases hlt : (j : Int) < bh
      · have hlt2 : (j : Int) < bh := by omega
        have HC : Hid (∀ q : Nat, q < [y + (j : Int), x, x + bw].length → (wr.alloc (.cells #[.int .i64 (y + j), .int .i64 x, .int .i64 (x + bw)] 82)).cell? ⟨wr.heap.size, q, none⟩ = some (.int .i64 ([y + (j : Int), x, x + bw].getD q 0))) := Lib.hid (fun q hq => by
          rw [cell_of_row _ _ _ _ _ _ (heap_alloc_new wr _)]
          match q, hq with
          | 0, _ => rfl
          | 1, _ => rfl
          | 2, _ => rfl)
        have HO := Lib.hid (hO.out.alloc (.cells #[.int .i64 (y + j), .int .i64 x, .int .i64 (x + bw)] 82))
        have HLt := Lib.hid hO.out.lt
        have HA := Lib.hid (hbel.alloc hbel.size (.cells #[.int .i64 (y + j), .int .i64 x, .int .i64 (x + bw)] 82))
        have HsB : Hid (u.heap.size ≤ wr.heap.size) := Lib.hid hbel.size
        clear hO hbel
        go_wp2_with (at_builtin; refine wpList_appRun rfl (.tmp 14) (.tmp 27) rfl u.heap.size (.slice A1 j c1) j (brow x y bw j) rfl HO.out wr.heap.size 1 1 [y + (j : Int), x, x + bw] rfl (by simp) HC.out (by omega) (by have := HsB.out; simp; omega) ?_; intro v2 w2 hO2 hG2)
        have hb2 : Below u.heap.size u w2 := HA.out.grown hG2 HA.out.size (fun k hk => (HLt.out k hk).1)
        have HO2 : Hid (OwnT 82 3 w2 u.heap.size v2 (j + 1) (brow x y bw (j + 1))) := Lib.hid hO2
        clear hO2 hG2 q0 q1 q2 q3
        go_wp2
        go_roundw
        case rel => exact ⟨j + 1, by omega, by go_num, HO2, hb2⟩
        case measure => simp [intOf]; omega
      · have hlt2 : ¬ ((j : Int) < bh) := by omega
        have HE : Hid (j = brN x y bw bh) := Lib.hid (by rw [brN_yes hok.out]; omega)
        have HB := Lib.hid (HbA.out.trans (hbel.mono HbA.out.size))
        clear hbel
        go_wp2
        go_ret2
        refine ⟨.slice A1 j c1, by rw [hok.out]; rfl, ?_, HB.out⟩
        have h := hO.out
        unfold brL
        rw [← HE.out]
        exact h.base_le (by have := HsA.out; omega)
end Go.Proofs.Ytlmpkanlfhjijaa
namespace Go.Proofs.Ytlmpkanlfhjijaa
open Go.RowKit
set_option linter.unusedSimpArgs false
set_option linter.unusedVariables false
set_option maxRecDepth 20000

def lo (xs : List Int) : Nat → Int
  | 0 => gF xs 0
  | k + 1 => min (lo xs k) (gF xs k)
def hi (xs : List Int) : Nat → Int
  | 0 => gT xs 0
  | k + 1 => max (hi xs k) (gT xs k)
theorem reg_bd {xs : List Int} {n k : Nat} (h : reg xs n) (hk : k < n) : (0 ≤ gY xs k ∧ gY xs k ≤ 15) ∧ (0 ≤ gF xs k ∧ gF xs k ≤ 15) ∧ (1 ≤ gT xs k ∧ gT xs k ≤ 16) := by
  obtain ⟨a, b, c⟩ := vrunB_bd (regAt_parts (h k hk)).1
  exact ⟨a, b, by omega, by omega⟩
theorem lohi_bd {xs : List Int} {n : Nat} (h : reg xs n) (hn : 0 < n) : ∀ k, k ≤ n → (0 ≤ lo xs k ∧ lo xs k ≤ 15) ∧ (1 ≤ hi xs k ∧ hi xs k ≤ 16)
  | 0, _ => by have := reg_bd h hn; exact ⟨this.2.1, this.2.2⟩
  | k + 1, hk => by
    have ih := lohi_bd h hn k (by omega)
    have := reg_bd h (show k < n by omega)
    unfold lo hi; omega
def bok (xs : List Int) (n : Nat) : Bool := decide (0 < n) && regB xs n
def bX (xs : List Int) (n : Nat) : Int := if bok xs n = true then lo xs n else 0
def bY (xs : List Int) (n : Nat) : Int := if bok xs n = true then gY xs 0 else 0
def bW (xs : List Int) (n : Nat) : Int := if bok xs n = true then hi xs n - lo xs n else 0
def bH (xs : List Int) (n : Nat) : Int := if bok xs n = true then gY xs (n - 1) - gY xs 0 + 1 else 0
theorem b_no {xs : List Int} {n : Nat} (h : bok xs n = false) : bX xs n = 0 ∧ bY xs n = 0 ∧ bW xs n = 0 ∧ bH xs n = 0 := by
  unfold bX bY bW bH; rw [h]; exact ⟨rfl, rfl, rfl, rfl⟩
theorem b_yes {xs : List Int} {n : Nat} (h : bok xs n = true) : bX xs n = lo xs n ∧ bY xs n = gY xs 0 ∧ bW xs n = hi xs n - lo xs n ∧ bH xs n = gY xs (n - 1) - gY xs 0 + 1 := by
  unfold bX bY bW bH; rw [h]; exact ⟨rfl, rfl, rfl, rfl⟩
abbrev boxV (a b c d : Int) : Value := .agg #[.int .i64 a, .int .i64 b, .int .i64 c, .int .i64 d]
theorem min_l {a b : Int} (h : a ≤ b) : min a b = a := by omega
theorem min_r {a b : Int} (h : ¬ a ≤ b) : min a b = b := by omega
theorem max_l {a b : Int} (h : b ≤ a) : max a b = a := by omega
theorem max_r {a b : Int} (h : ¬ b ≤ a) : max a b = b := by omega
end Go.Proofs.Ytlmpkanlfhjijaa
namespace Go.Proofs.Ytlmpkanlfhjijaa
open Go.RowKit
set_option linter.unusedSimpArgs false
set_option linter.unusedVariables false
set_option maxRecDepth 20000

def area (xs : List Int) : Nat → Int
  | 0 => 0
  | k + 1 => area xs k + (gT xs k - gF xs k)
theorem area_bd {xs : List Int} {n : Nat} (h : reg xs n) : ∀ k, k ≤ n → 0 ≤ area xs k ∧ area xs k ≤ 16 * k
  | 0, _ => by simp [area]
  | k + 1, hk => by
    have ih := area_bd h k (by omega)
    obtain ⟨_, hf, ht⟩ := vrunB_bd (regAt_parts (h k (by omega))).1
    unfold area
    omega
def areaV (xs : List Int) (n : Nat) : Int := if regB xs n = true then area xs n else -1
set_option maxHeartbeats 8000000 in
theorem i_AreaOf (A : Option Addr) (n c B : Nat) (xs : List Int) (w : World) (hx : xs.length = 3 * n) (h : Rds .i64 w B A xs) (hB : B ≤ w.heap.size) (hl : n ≤ 2000000) :
    Calls Try.prog 19 #[.slice A n c] w fun e w' => e = .returned (.int .i64 (areaV xs n)) ∧ Below w.heap.size w w' := by
  have HV := Lib.hid (i_ValidRegion A n c B xs w hx h hB hl)
  have Hh0 := Lib.hid h
  have HX := Lib.hid hx
  clear h hx
  cases hr : regB xs n
  · have HN : Hid (areaV xs n = -1) := Lib.hid (by unfold areaV; rw [hr]; rfl)
    go_enter Try.func19, Try.ntmps19
    go_wp2_with fail
    refine HV.out.mono ?_
    rintro e w1 ⟨rfl, hb1⟩
    rw [hr]
    go_wp2
    go_ret
    exact ⟨ret_int HN.out.symm, hb1⟩
  · have HN : Hid (areaV xs n = area xs n) := Lib.hid (by unfold areaV; rw [hr]; rfl)
    have HR := Lib.hid (regB_of hr)
    go_enter Try.func19, Try.ntmps19
    go_wp2_with fail
    refine HV.out.mono ?_
    rintro e w1 ⟨rfl, hb1⟩
    rw [hr]
    clear hr
    go_wp2
    go_loopw [11, 3] (fun i s wr => ∃ k : Nat, k ≤ n ∧ i = .int .i64 k ∧ s = .int .i64 (area xs k) ∧ Below w.heap.size w wr) (fun i _ _ => n - (intOf i).toNat)
    case atStart => exact ⟨0, Nat.zero_le _, rfl, rfl, hb1⟩
    case round =>
      obtain ⟨k, hk, rfl, rfl, hbel⟩ := hrel
      obtain ⟨ar0, ar1⟩ := area_bd HR.out k hk
      by_cases hlt : k < n
      · obtain ⟨t0, t1, t2⟩ := trio hlt HX.out
        obtain ⟨b, off, rfl, hb, hc⟩ := Hh0.out.cells_ t0
        have HS : Hid (area xs (k + 1) = area xs k + (gT xs k - gF xs k)) := Lib.hid rfl
        obtain ⟨_, hf2, ht2⟩ := vrunB_bd (regAt_parts (HR.out k hlt)).1
        have Hbel := Lib.hid hbel
        have hold : ∀ (o : Nat) (v : Option Value), w.cell? ⟨b, o, none⟩ = v → wr.cell? ⟨b, o, none⟩ = v := fun o v hv => (hbel.cell (p := ⟨b, o, none⟩) (by show b < _; omega)).trans hv
        have hc0 := hold _ _ (hc _ t0)
        have hc1 : wr.cell? ⟨b, off + k * 3 + 1, none⟩ = _ := hold _ _ (hc _ t1)
        have hc2 : wr.cell? ⟨b, off + k * 3 + 2, none⟩ = _ := hold _ _ (hc _ t2)
        have Hold := Lib.hid hold
        have Hc := Lib.hid hc
        have Hy : Hid (gY xs k = xs.getD (k * 3) 0) := Lib.hid rfl
        have Hf : Hid (gF xs k = xs.getD (k * 3 + 1) 0) := Lib.hid rfl
        have Ht : Hid (gT xs k = xs.getD (k * 3 + 2) 0) := Lib.hid rfl
        clear hc hold
        generalize xs.getD (k * 3) 0 = y at *
        generalize xs.getD (k * 3 + 1) 0 = f at *
        generalize xs.getD (k * 3 + 2) 0 = t at *
        have Hbu := Lib.hid (hbel.alloc hbel.size (.cells #[.int .i64 y, .int .i64 f, .int .i64 t] 82))
        have Hg : Hid ((wr.alloc (.cells #[.int .i64 y, .int .i64 f, .int .i64 t] 82)).heap[wr.heap.size]? = some (.cells #[.int .i64 y, .int .i64 f, .int .i64 t] 82 (0, 0))) := Lib.hid (heap_alloc_new wr _)
        have Hsz : Hid (b < w.heap.size ∧ w.heap.size ≤ wr.heap.size ∧ wr.heap.size < (wr.alloc (.cells #[.int .i64 y, .int .i64 f, .int .i64 t] 82)).heap.size) := Lib.hid ⟨by omega, hbel.size, by simp⟩
        have Hkeep : Hid (∀ (o : Nat) (v : Option Value), w.cell? ⟨b, o, none⟩ = v → (wr.alloc (.cells #[.int .i64 y, .int .i64 f, .int .i64 t] 82)).cell? ⟨b, o, none⟩ = v) := Lib.hid (fun o v hv => (Hbu.out.cell (p := ⟨b, o, none⟩) (by show b < _; omega)).trans hv)
        clear hbel Hold
        rw [Hf.out, Ht.out] at HS
        rw [Hf.out] at hf2 ht2
        rw [Ht.out] at ht2
        generalize area xs k = S at *
        clear hb1
        go_wp2
        go_roundw
        case rel => exact ⟨k + 1, by omega, by go_num, by rw [HS.out] <;> go_num, Hbu.out⟩
        case measure => simp [intOf]; omega
      · have hk' : k = n := by omega
        have HY : Hid (areaV xs n = area xs k) := Lib.hid (by rw [hk']; exact HN.out)
        clear hk'
        go_wp2
        go_ret
        exact ⟨ret_int HY.out.symm, hbel⟩
end Go.Proofs.Ytlmpkanlfhjijaa
namespace Go.Proofs.Ytlmpkanlfhjijaa
open Go.RowKit
set_option linter.unusedSimpArgs false
set_option linter.unusedVariables false
set_option maxRecDepth 20000

theorem brow_get (x y bw : Int) : ∀ (k j : Nat), j < k → (brow x y bw k).getD (j * 3) 0 = y + j ∧ (brow x y bw k).getD (j * 3 + 1) 0 = x ∧ (brow x y bw k).getD (j * 3 + 2) 0 = x + bw
  | 0, j, h => by omega
  | k + 1, j, h => by
    have hl := brow_len x y bw k
    by_cases e : j = k
    · subst e
      unfold brow
      simp only [List.getD_eq_getElem?_getD]
      rw [List.getElem?_append_right (by omega), List.getElem?_append_right (by omega), List.getElem?_append_right (by omega), hl]
      rw [show j * 3 - j * 3 = 0 by omega, show j * 3 + 1 - j * 3 = 1 by omega, show j * 3 + 2 - j * 3 = 2 by omega]
      exact ⟨rfl, rfl, rfl⟩
    · have ih := brow_get x y bw k j (by omega)
      unfold brow
      simp only [List.getD_eq_getElem?_getD] at ih ⊢
      rw [List.getElem?_append_left (by omega), List.getElem?_append_left (by omega), List.getElem?_append_left (by omega)]
      exact ih
section
variable {x y bw : Int} {N : Nat}
theorem brow_Y {j : Nat} (h : j < N) : gY (brow x y bw N) j = y + j := (brow_get x y bw N j h).1
theorem brow_F {j : Nat} (h : j < N) : gF (brow x y bw N) j = x := (brow_get x y bw N j h).2.1
theorem brow_T {j : Nat} (h : j < N) : gT (brow x y bw N) j = x + bw := (brow_get x y bw N j h).2.2
theorem brow_reg (x0 : 0 ≤ x) (x1 : x ≤ 15) (b0 : 1 ≤ bw) (b1 : x + bw ≤ 16) (y0 : 0 ≤ y) (h1 : y + N ≤ 16) : reg (brow x y bw N) N := by
  intro j hj
  refine regA_yes ?_ fun h0 => ?_
  · rw [brow_Y hj, brow_F hj, brow_T hj]
    simp only [vrunB, Bool.and_eq_true, decide_eq_true_eq]
    omega
  · rw [brow_Y hj, brow_F hj, brow_Y (show j - 1 < N by omega), brow_T (show j - 1 < N by omega)]
    exact decide_eq_true (by omega)
theorem brow_lo (hN : 0 < N) : ∀ k, k ≤ N → lo (brow x y bw N) k = x
  | 0, _ => brow_F hN
  | k + 1, h => by unfold lo; rw [brow_lo hN k (by omega), brow_F (show k < N by omega)]; omega
theorem brow_hi (hN : 0 < N) : ∀ k, k ≤ N → hi (brow x y bw N) k = x + bw
  | 0, _ => brow_T hN
  | k + 1, h => by unfold hi; rw [brow_hi hN k (by omega), brow_T (show k < N by omega)]; omega
theorem brow_area : ∀ k : Nat, k ≤ N → area (brow x y bw N) k = bw * k
  | 0, _ => by simp [area]
  | k + 1, h => by
    unfold area
    rw [brow_area k (by omega), brow_F (show k < N by omega), brow_T (show k < N by omega)]
    have : bw * ((k + 1 : Nat) : Int) = bw * k + bw := by rw [Int.natCast_add, Int.mul_add]; simp
    omega
end
/-- What the law of BoxRegion needs of a box that fits. -/
theorem box_law {x y bw bh : Int} (h : ftB x y bw bh 16 16 = true) :
    regB (brL x y bw bh) (brN x y bw bh) = true ∧ bok (brL x y bw bh) (brN x y bw bh) = true ∧ bX (brL x y bw bh) (brN x y bw bh) = x ∧ bY (brL x y bw bh) (brN x y bw bh) = y ∧
    bW (brL x y bw bh) (brN x y bw bh) = bw ∧ bH (brL x y bw bh) (brN x y bw bh) = bh ∧ areaV (brL x y bw bh) (brN x y bw bh) = bw * bh ∧ 0 ≤ bw * bh ∧ bw * bh ≤ 256 := by
  obtain ⟨⟨x0, x1⟩, ⟨b0, b1⟩, ⟨y0, y1⟩, h0, h1⟩ := ftB_bd h
  obtain ⟨N, hN⟩ : ∃ N : Nat, bh = N := ⟨bh.toNat, by omega⟩
  have en : brN x y bw bh = N := by rw [brN_yes h]; omega
  unfold brL
  rw [en]
  subst hN
  have hr := brow_reg (x := x) (y := y) (bw := bw) (N := N) x0 x1 b0 b1 y0 h1
  have hrb := regB_yes hr
  have hn0 : 0 < N := by omega
  have hb : bok (brow x y bw N) N = true := by unfold bok; rw [hrb, decide_eq_true hn0]; rfl
  obtain ⟨e1, e2, e3, e4⟩ := b_yes hb
  have ea : areaV (brow x y bw N) N = bw * N := by unfold areaV; rw [hrb, if_pos rfl]; exact brow_area N (Nat.le_refl _)
  have m0 : 0 ≤ bw * (N : Int) := Int.mul_nonneg (by omega) (by omega)
  have m1 : bw * (N : Int) ≤ 16 * (N : Int) := Int.mul_le_mul_of_nonneg_right (by omega) (by omega)
  refine ⟨hrb, hb, ?_, ?_, ?_, ?_, ea, m0, by omega⟩
  · rw [e1]; exact brow_lo hn0 N (Nat.le_refl _)
  · rw [e2, brow_Y hn0]; simp
  · rw [e3, brow_hi hn0 N (Nat.le_refl _), brow_lo hn0 N (Nat.le_refl _)]; omega
  · rw [e4, brow_Y (show N - 1 < N by omega), brow_Y hn0]; omega
set_option maxHeartbeats 4000000 in
theorem equalRuns_same (A A' : Option Addr) (n c c' : Nat) (xs : List Int) (B B' : Nat) (w : World) (hx : xs.length = 3 * n) (h : Rds .i64 w B A xs) (h' : Rds .i64 w B' A' xs) (hl : n ≤ 2000000) :
    Calls Try.prog 23 #[.slice A n c, .slice A' n c'] w fun e w' => e = .returned (.bool true) ∧ ∃ m, w' = w.drewN m := by
  have Hh := Lib.hid h
  have Hh' := Lib.hid h'
  have HX := Lib.hid hx
  clear h h' hx
  go_enter Try.func23, Try.ntmps23
  go_wp2
  go_loopw [5] (fun i wr => ∃ k : Nat, k ≤ n ∧ i = .int .i64 k ∧ ∃ m, wr = w.drewN m) (fun i _ => n - (intOf i).toNat)
  case atStart => exact ⟨0, Nat.zero_le _, rfl, 0, rfl⟩
  case round =>
    obtain ⟨k, hk, rfl, m, rfl⟩ := hrel
    by_cases hlt : k < n
    · obtain ⟨t0, t1, t2⟩ := trio hlt HX.out
      obtain ⟨b, off, rfl, hb, hc⟩ := Hh.out.cells_ t0
      obtain ⟨b', off', rfl, hb', hc'⟩ := Hh'.out.cells_ t0
      have hc0 := hc _ t0
      have hc1 : w.cell? ⟨b, off + k * 3 + 1, none⟩ = _ := hc _ t1
      have hc2 : w.cell? ⟨b, off + k * 3 + 2, none⟩ = _ := hc _ t2
      have hd0 := hc' _ t0
      have hd1 : w.cell? ⟨b', off' + k * 3 + 1, none⟩ = _ := hc' _ t1
      have hd2 : w.cell? ⟨b', off' + k * 3 + 2, none⟩ = _ := hc' _ t2
      clear hc hc'
      generalize xs.getD (k * 3) 0 = x at *
      generalize xs.getD (k * 3 + 1) 0 = y at *
      generalize xs.getD (k * 3 + 2) 0 = z at *
      go_wp2
      go_quiet (fail)
      go_wp2
      go_roundw
      case rel => exact ⟨k + 1, by omega, by go_num, _, rfl⟩
      case measure => simp [intOf]; omega
    · have hk' : k = n := by omega
      have Hk := Lib.hid hk'
      clear hk'
      go_wp2
      go_ret
      exact ⟨rfl, _, rfl⟩
end Go.Proofs.Ytlmpkanlfhjijaa
namespace Go.Proofs.Ytlmpkanlfhjijaa
open Go.RowKit
set_option linter.unusedSimpArgs false
set_option linter.unusedVariables false

theorem msk_to {W H P : Nat} {xs ys rs : List Int} {n : Nat} (hl : ys.length = W * H * P) (h : ∀ x y p, x < W → y < H → p < P → rh rs x y n = false → px W P xs x y p = px W P ys x y p) : mskL W H P xs ys rs n = ys := by
  refine (img_eq hl fun x y p hx hy hp => ?_).symm
  unfold pntF
  split
  · rfl
  · rename_i hn
    exact (h x y p hx hy hp (by simpa using hn)).symm
theorem rh_whole {x y : Nat} (hx : x < 16) (hy : y < 16) : rh (brL 0 0 16 16) x y (brN 0 0 16 16) = true := by
  have e : brN 0 0 16 16 = 16 := by decide +kernel
  unfold brL
  rw [e]
  refine rh_hit (j := y) hy ?_
  rw [brow_Y hy, brow_F hy, brow_T hy]
  simp only [runB, Bool.and_eq_true, decide_eq_true_eq]
  omega
theorem whole_reg : regB (brL 0 0 16 16) (brN 0 0 16 16) = true := (box_law (by decide +kernel)).1
/-- Masking by the whole grid, and back. -/
theorem msk_law {W H P W' H' P' : Int} {xs ys rs : List Int} {n : Nat} (h : mskOk W H P xs W' H' P' ys rs n = true) :
    (W = W' ∧ H = H' ∧ P = P') ∧ mskOk W H P xs W' H' P' ys (brL 0 0 16 16) (brN 0 0 16 16) = true ∧ mskL W.toNat H.toNat P.toNat xs ys (brL 0 0 16 16) (brN 0 0 16 16) = ys ∧
    mskOk W' H' P' ys W H P (mskL W.toNat H.toNat P.toNat xs ys rs n) rs n = true ∧ mskL W'.toNat H'.toNat P'.toNat ys (mskL W.toNat H.toNat P.toNat xs ys rs n) rs n = ys ∧ (mskL W.toNat H.toNat P.toNat xs ys rs n).length ≤ 1024 := by
  unfold mskOk at h
  rw [Bool.and_eq_true] at h
  obtain ⟨hc, hr⟩ := h
  have hc' := hc
  unfold cmpB at hc'
  rw [Bool.and_eq_true, Bool.and_eq_true] at hc'
  have hv := hc'.2.1
  obtain ⟨w, h, p, rfl, rfl, rfl, rfl, rfl, rfl, ⟨w0, w1⟩, ⟨h0, h1⟩, ⟨p0, p1⟩, hl, hl', hb, hb'⟩ := cmpB_nat hc
  simp only [Int.toNat_natCast]
  have hF : ∀ x y q, x < w → y < h → q < p → 0 ≤ pntF rs n (px w p ys) (px w p xs) x y q ∧ pntF rs n (px w p ys) (px w p xs) x y q ≤ 255 := fun x y q hx hy hq => by
    have a := pxc_bytes hl hb x y q hx hy hq
    have b := pxc_bytes hl' (fun j hj => hb' j (by omega)) x y q hx hy hq
    rw [img_pxc (H := h) hq] at a b
    unfold pntF
    by_cases ht : rh rs x y n = true
    · rw [if_pos ht]; exact b
    · rw [if_neg ht]; exact a
  have hvu : vim w h p (mskL w h p xs ys rs n) = true := vim_img w0 w1 h0 h1 p0 p1 hF
  have e1 : mskOk w h p xs w h p ys (brL 0 0 16 16) (brN 0 0 16 16) = true := by unfold mskOk; rw [hc, whole_reg]; rfl
  have e3 : mskOk w h p ys w h p (mskL w h p xs ys rs n) rs n = true := by
    unfold mskOk cmpB; rw [hv, hvu, hr]; simp
  refine ⟨⟨trivial, trivial, trivial⟩, e1, ?_, e3, ?_, ?_⟩
  · exact msk_to hl' (fun x y q hx hy hq hn => by rw [rh_whole (by omega) (by omega)] at hn; exact absurd hn (by simp))
  · refine (img_eq hl' fun x y q hx hy hq => ?_).symm
    unfold pntF
    split
    · rename_i ht
      unfold mskL
      rw [img_px _ hx hy hq]
      unfold pntF
      rw [if_pos ht]
    · rfl
  · exact img_bd _ w1 h1 p1
end Go.Proofs.Ytlmpkanlfhjijaa
