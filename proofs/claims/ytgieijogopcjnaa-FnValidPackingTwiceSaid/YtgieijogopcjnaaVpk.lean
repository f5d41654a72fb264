/- Contracts of ValidPacking, in the program and in the model. -/
import Derived.Test.YtgieijogopcjnaaVpkM
import Derived.Test.YtgieijogopcjnaaLists
import Derived.Shelf.Abstract
import Derived.StillTailTactics
namespace Go.Proofs.Ytgieijogopcjnaa
open Go.RowKit
set_option linter.unusedSimpArgs false
set_option linter.unusedVariables false
set_option maxRecDepth 20000

theorem com_no1 {a0 a1 a2 a3 b0 b1 b2 b3 : Int} (h : ¬ a0 < b0 + b2) : comB a0 a1 a2 a3 b0 b1 b2 b3 = false := by unfold comB; rw [decide_eq_false h]; rfl
theorem com_no2 {a0 a1 a2 a3 b0 b1 b2 b3 : Int} (h : ¬ b0 < a0 + a2) : comB a0 a1 a2 a3 b0 b1 b2 b3 = false := by unfold comB; rw [decide_eq_false h]; simp
theorem com_no3 {a0 a1 a2 a3 b0 b1 b2 b3 : Int} (h : ¬ a1 < b1 + b3) : comB a0 a1 a2 a3 b0 b1 b2 b3 = false := by unfold comB; rw [decide_eq_false h]; simp
theorem com_no4 {a0 a1 a2 a3 b0 b1 b2 b3 : Int} (h : ¬ b1 < a1 + a3) : comB a0 a1 a2 a3 b0 b1 b2 b3 = false := by unfold comB; rw [decide_eq_false h]; simp
theorem com_yes {a0 a1 a2 a3 b0 b1 b2 b3 : Int} (h1 : a0 < b0 + b2) (h2 : b0 < a0 + a2) (h3 : a1 < b1 + b3) (h4 : b1 < a1 + a3) : comB a0 a1 a2 a3 b0 b1 b2 b3 = true := by
  unfold comB; rw [decide_eq_true h1, decide_eq_true h2, decide_eq_true h3, decide_eq_true h4]; rfl
set_option maxHeartbeats 4000000 in
theorem hc_any (a0 a1 a2 a3 b0 b1 b2 b3 : Int) (w : World) (e1 : IntKind.i64.wrap (b0 + b2) = b0 + b2) (e2 : IntKind.i64.wrap (a0 + a2) = a0 + a2) (e3 : IntKind.i64.wrap (b1 + b3) = b1 + b3) (e4 : IntKind.i64.wrap (a1 + a3) = a1 + a3) :
    Calls Try.prog 31 #[.agg #[.int .i64 a0, .int .i64 a1, .int .i64 a2, .int .i64 a3], .agg #[.int .i64 b0, .int .i64 b1, .int .i64 b2, .int .i64 b3]] w fun e w' => e = .returned (.bool (comB a0 a1 a2 a3 b0 b1 b2 b3)) ∧ Below w.heap.size w w' := by
  have HB := Lib.hid (((Below.refl w.heap.size w).alloc (Nat.le_refl _) (.cells #[.int .i64 a0, .int .i64 a1, .int .i64 a2, .int .i64 a3] 29)).alloc (by simp) (.cells #[.int .i64 b0, .int .i64 b1, .int .i64 b2, .int .i64 b3] 29))
  have HV : ∃ v, Hid (v = comB a0 a1 a2 a3 b0 b1 b2 b3) := ⟨_, Lib.hid rfl⟩
  obtain ⟨v, HV⟩ := HV
  rw [← HV.out]
  by_cases h1 : a0 < b0 + b2
  · by_cases h2 : b0 < a0 + a2
    · by_cases h3 : a1 < b1 + b3
      · by_cases h4 : b1 < a1 + a3
        · have HT := Lib.hid (HV.out.trans (com_yes h1 h2 h3 h4))
          go_enter Try.func31, Try.ntmps31
          go_wp2
          go_ret
          exact ⟨ret_bool (by rw [HT.out] <;> first | rfl | (simp; done) | exact decide_eq_true h4), HB.out⟩
        · have HT := Lib.hid (HV.out.trans (com_no4 h4))
          go_enter Try.func31, Try.ntmps31
          go_wp2
          go_ret
          exact ⟨ret_bool (by rw [HT.out] <;> first | rfl | (simp; done) | exact decide_eq_false h4), HB.out⟩
      · have HT := Lib.hid (HV.out.trans (com_no3 h3))
        go_enter Try.func31, Try.ntmps31
        go_wp2
        go_ret
        exact ⟨ret_bool (by rw [HT.out] <;> first | rfl | (simp; done)), HB.out⟩
    · have HT := Lib.hid (HV.out.trans (com_no2 h2))
      go_enter Try.func31, Try.ntmps31
      go_wp2
      go_ret
      exact ⟨ret_bool (by rw [HT.out] <;> first | rfl | (simp; done)), HB.out⟩
  · have HT := Lib.hid (HV.out.trans (com_no1 h1))
    go_enter Try.func31, Try.ntmps31
    go_wp2
    go_ret
    exact ⟨ret_bool (by rw [HT.out] <;> first | rfl | (simp; done)), HB.out⟩
set_option maxHeartbeats 4000000 in
theorem ap_any (b0 b1 b2 b3 a0 a1 a2 a3 : Int) (w : World) (e1 : IntKind.i64.wrap (b0 + b2) = b0 + b2) (e2 : IntKind.i64.wrap (a0 + a2) = a0 + a2) (e3 : IntKind.i64.wrap (b1 + b3) = b1 + b3) (e4 : IntKind.i64.wrap (a1 + a3) = a1 + a3) :
    Calls Try.prog 33 #[.agg #[.int .i64 b0, .int .i64 b1, .int .i64 b2, .int .i64 b3], .agg #[.int .i64 a0, .int .i64 a1, .int .i64 a2, .int .i64 a3]] w fun e w' => e = .returned (.bool (!comB a0 a1 a2 a3 b0 b1 b2 b3)) ∧ Below w.heap.size w w' := by
  have HB := Lib.hid (((Below.refl w.heap.size w).alloc (Nat.le_refl _) (.cells #[.int .i64 b0, .int .i64 b1, .int .i64 b2, .int .i64 b3] 29)).alloc (by simp) (.cells #[.int .i64 a0, .int .i64 a1, .int .i64 a2, .int .i64 a3] 29))
  have HV : ∃ v, Hid (v = comB a0 a1 a2 a3 b0 b1 b2 b3) := ⟨_, Lib.hid rfl⟩
  obtain ⟨v, HV⟩ := HV
  rw [← HV.out]
  by_cases h1 : b0 + b2 ≤ a0
  · have HT := Lib.hid (HV.out.trans (com_no1 (by omega)))
    go_enter Try.func33, Try.ntmps33
    go_wp2
    go_ret
    exact ⟨ret_bool (by rw [HT.out] <;> first | rfl | (simp; done)), HB.out⟩
  · by_cases h2 : a0 + a2 ≤ b0
    · have HT := Lib.hid (HV.out.trans (com_no2 (by omega)))
      go_enter Try.func33, Try.ntmps33
      go_wp2
      go_ret
      exact ⟨ret_bool (by rw [HT.out] <;> first | rfl | (simp; done)), HB.out⟩
    · by_cases h3 : b1 + b3 ≤ a1
      · have HT := Lib.hid (HV.out.trans (com_no3 (by omega)))
        go_enter Try.func33, Try.ntmps33
        go_wp2
        go_ret
        exact ⟨ret_bool (by rw [HT.out] <;> first | rfl | (simp; done)), HB.out⟩
      · by_cases h4 : a1 + a3 ≤ b1
        · have HT := Lib.hid (HV.out.trans (com_no4 (by omega)))
          go_enter Try.func33, Try.ntmps33
          go_wp2
          go_ret
          exact ⟨ret_bool (by rw [HT.out] <;> first | rfl | (simp; done) | exact (decide_eq_true h4).symm | exact decide_eq_true h4), HB.out⟩
        · have HT := Lib.hid (HV.out.trans (com_yes (by omega) (by omega) (by omega) (by omega)))
          go_enter Try.func33, Try.ntmps33
          go_wp2
          go_ret
          exact ⟨ret_bool (by rw [HT.out] <;> first | rfl | (simp; done) | exact (decide_eq_false h4).symm | exact decide_eq_false h4), HB.out⟩
/-- What a box that fits says of its sums. -/
theorem ft_wrap {b0 b1 b2 b3 W H : Int} (h : ftB b0 b1 b2 b3 W H = true) (hW : W ≤ 9223372036854775807) (hH : H ≤ 9223372036854775807) : IntKind.i64.wrap (b0 + b2) = b0 + b2 ∧ IntKind.i64.wrap (b1 + b3) = b1 + b3 := by
  have := ftB_bd' h
  exact ⟨IntWalk.i64_in _ (by omega), IntWalk.i64_in _ (by omega)⟩
set_option maxHeartbeats 4000000 in
theorem vp1_any (c0 c1 c2 c3 b0 b1 b2 b3 : Int) (p : Nat) (w : World) (hp : w.cell? ⟨p, 0, none⟩ = some (.int .i64 b0) ∧ w.cell? ⟨p, 1, none⟩ = some (.int .i64 b1) ∧ w.cell? ⟨p, 2, none⟩ = some (.int .i64 b2) ∧ w.cell? ⟨p, 3, none⟩ = some (.int .i64 b3)) (lp : p < w.heap.size)
    (e1 : IntKind.i64.wrap (c0 + c2) = c0 + c2) (e2 : IntKind.i64.wrap (b0 + b2) = b0 + b2) (e3 : IntKind.i64.wrap (c1 + c3) = c1 + c3) (e4 : IntKind.i64.wrap (b1 + b3) = b1 + b3) :
    Calls Try.prog 30 #[.agg #[.int .i64 c0, .int .i64 c1, .int .i64 c2, .int .i64 c3], .pointer (some ⟨p, 0, none⟩)] w fun e w' => e = .returned (.bool (comB b0 b1 b2 b3 c0 c1 c2 c3)) ∧ Below w.heap.size w w' := by
  have HB := Lib.hid ((Below.refl w.heap.size w).alloc (Nat.le_refl _) (.cells #[.int .i64 c0, .int .i64 c1, .int .i64 c2, .int .i64 c3] 29))
  obtain ⟨p0, p1, p2, p3⟩ := hp
  have H := Lib.hid (fun u => hc_any b0 b1 b2 b3 c0 c1 c2 c3 u e1 e2 e3 e4)
  clear e1 e2 e3 e4
  go_enter Try.func30, Try.ntmps30
  go_wp2_with fail
  refine (H.out _).mono ?_
  rintro e w' ⟨rfl, hb⟩
  have HE := Lib.hid (HB.out.trans (hb.mono HB.out.size))
  clear hb p0 p1 p2 p3
  go_wp2
  go_ret
  exact ⟨rfl, HE.out⟩
/-- The place of a box with a common pixel, -1 for none. -/
def FoundV (b : Bool) (w : World) (e : Ending) (w' : World) : Prop := ∃ r : Int, e = .returned (.int .i64 r) ∧ decide (r ≥ 0) = b ∧ Below w.heap.size w w'
set_option maxHeartbeats 4000000 in
theorem vpidx_any (A : Option Addr) (n m c : Nat) (xs : List Int) (k : Nat) (p : Nat) (w : World) (hx : xs.length = 4 * n) (hm : m ≤ n) (h : Rds .i64 w w.heap.size A xs) (hl : n ≤ 2000000)
    (hw : ∀ j, j < m → IntKind.i64.wrap (q0 xs j + q2 xs j) = q0 xs j + q2 xs j ∧ IntKind.i64.wrap (q1 xs j + q3 xs j) = q1 xs j + q3 xs j) (hk : IntKind.i64.wrap (q0 xs k + q2 xs k) = q0 xs k + q2 xs k ∧ IntKind.i64.wrap (q1 xs k + q3 xs k) = q1 xs k + q3 xs k)
    (hp : w.cell? ⟨p, 0, none⟩ = some (.int .i64 (q0 xs k)) ∧ w.cell? ⟨p, 1, none⟩ = some (.int .i64 (q1 xs k)) ∧ w.cell? ⟨p, 2, none⟩ = some (.int .i64 (q2 xs k)) ∧ w.cell? ⟨p, 3, none⟩ = some (.int .i64 (q3 xs k))) (lp : p < w.heap.size) :
    Calls Try.prog 43 #[.slice A m c, .func (.func 30) #[] #[.pointer (some ⟨p, 0, none⟩)]] w (FoundV (hitB xs k m) w) := by
  have Hh := Lib.hid h
  have HX := Lib.hid hx
  have HW := Lib.hid hw
  have HK := Lib.hid hk
  have HP := Lib.hid hp
  have eg : ∀ args w, (callFunc 30 args).run Try.prog w = .ok (.enter 30 args) w := enters_of Try.func30 (by kernel_rfl) rfl
  clear h hx hw hk hp
  go_enter Try.func43, Try.ntmps43
  go_wp2
  go_loopw [8] (fun i wr => ∃ j : Nat, j ≤ m ∧ i = .int .i64 j ∧ Hid (hitB xs k j = false) ∧ Below w.heap.size w wr) (fun i _ => m - (intOf i).toNat)
  case atStart => exact ⟨0, Nat.zero_le _, rfl, Lib.hid rfl, Below.refl _ _⟩
  case round =>
    obtain ⟨j, hj, rfl, hT, hbel⟩ := hrel
    by_cases hlt : j < m
    · obtain ⟨t0, t1, t2, t3⟩ := quad4 (show j < n by omega) HX.out
      obtain ⟨b, off, rfl, hb, hc⟩ := Hh.out.cells_ t0
      have hc0 : wr.cell? ⟨b, off + j * 4, none⟩ = some (.int .i64 (q0 xs j)) := (hbel.cell (p := ⟨b, off + j * 4, none⟩) hb).trans (hc _ t0)
      have hc1 : wr.cell? ⟨b, off + j * 4 + 1, none⟩ = some (.int .i64 (q1 xs j)) := (hbel.cell (p := ⟨b, off + j * 4 + 1, none⟩) hb).trans (hc _ t1)
      have hc2 : wr.cell? ⟨b, off + j * 4 + 2, none⟩ = some (.int .i64 (q2 xs j)) := (hbel.cell (p := ⟨b, off + j * 4 + 2, none⟩) hb).trans (hc _ t2)
      have hc3 : wr.cell? ⟨b, off + j * 4 + 3, none⟩ = some (.int .i64 (q3 xs j)) := (hbel.cell (p := ⟨b, off + j * 4 + 3, none⟩) hb).trans (hc _ t3)
      have HP1 := Lib.hid (show wr.cell? ⟨p, 0, none⟩ = some (.int .i64 (q0 xs k)) ∧ wr.cell? ⟨p, 1, none⟩ = some (.int .i64 (q1 xs k)) ∧ wr.cell? ⟨p, 2, none⟩ = some (.int .i64 (q2 xs k)) ∧ wr.cell? ⟨p, 3, none⟩ = some (.int .i64 (q3 xs k)) from ⟨(hbel.cell (p := ⟨p, 0, none⟩) lp).trans HP.out.1, (hbel.cell (p := ⟨p, 1, none⟩) lp).trans HP.out.2.1, (hbel.cell (p := ⟨p, 2, none⟩) lp).trans HP.out.2.2.1, (hbel.cell (p := ⟨p, 3, none⟩) lp).trans HP.out.2.2.2⟩)
      have HC := Lib.hid (vp1_any (q0 xs j) (q1 xs j) (q2 xs j) (q3 xs j) (q0 xs k) (q1 xs k) (q2 xs k) (q3 xs k) p wr HP1.out (by have := hbel.size; omega) (HW.out j hlt).1 HK.out.1 (HW.out j hlt).2 HK.out.2)
      have HY : Hid (comB (q0 xs k) (q1 xs k) (q2 xs k) (q3 xs k) (q0 xs j) (q1 xs j) (q2 xs j) (q3 xs j) = true → hitB xs k m = true) := Lib.hid (hit_yes hlt)
      have HN : Hid (comB (q0 xs k) (q1 xs k) (q2 xs k) (q3 xs k) (q0 xs j) (q1 xs j) (q2 xs j) (q3 xs j) = false → hitB xs k (j + 1) = false) := Lib.hid (hit_next hT.out)
      clear hc HP1
      generalize q0 xs j = y0 at *
      generalize q1 xs j = y1 at *
      generalize q2 xs j = y2 at *
      generalize q3 xs j = y3 at *
      cases hv : comB (q0 xs k) (q1 xs k) (q2 xs k) (q3 xs k) y0 y1 y2 y3
      · have HN' := Lib.hid (HN.out hv)
        go_wp2_with fail
        refine HC.out.mono ?_
        rintro e w2 ⟨rfl, hB2⟩
        rw [hv]
        have hb2 := hbel.trans (hB2.mono hbel.size)
        clear hB2 hbel
        go_wp2
        go_roundw
        case rel => exact ⟨j + 1, by omega, by go_num, HN', hb2⟩
        case measure => simp [intOf]; omega
      · have HY' := Lib.hid (HY.out hv)
        go_wp2_with fail
        refine HC.out.mono ?_
        rintro e w2 ⟨rfl, hB2⟩
        rw [hv]
        have hb2 := hbel.trans (hB2.mono hbel.size)
        clear hB2 hbel
        go_wp2
        go_ret
        exact ⟨j, rfl, by rw [HY'.out]; exact decide_eq_true (by omega), hb2⟩
    · have hk' : j = m := by omega
      have HN : Hid (hitB xs k m = false) := Lib.hid (by rw [← hk']; exact hT.out)
      clear hk'
      go_wp2
      go_ret
      exact ⟨-1, rfl, by rw [HN.out]; rfl, hbel⟩
set_option maxHeartbeats 4000000 in
theorem vpcon_any (A : Option Addr) (n m c : Nat) (xs : List Int) (k : Nat) (p : Nat) (w : World) (hx : xs.length = 4 * n) (hm : m ≤ n) (h : Rds .i64 w w.heap.size A xs) (hl : n ≤ 2000000)
    (hw : ∀ j, j < m → IntKind.i64.wrap (q0 xs j + q2 xs j) = q0 xs j + q2 xs j ∧ IntKind.i64.wrap (q1 xs j + q3 xs j) = q1 xs j + q3 xs j) (hk : IntKind.i64.wrap (q0 xs k + q2 xs k) = q0 xs k + q2 xs k ∧ IntKind.i64.wrap (q1 xs k + q3 xs k) = q1 xs k + q3 xs k)
    (hp : w.cell? ⟨p, 0, none⟩ = some (.int .i64 (q0 xs k)) ∧ w.cell? ⟨p, 1, none⟩ = some (.int .i64 (q1 xs k)) ∧ w.cell? ⟨p, 2, none⟩ = some (.int .i64 (q2 xs k)) ∧ w.cell? ⟨p, 3, none⟩ = some (.int .i64 (q3 xs k))) (lp : p < w.heap.size) :
    Calls Try.prog 29 #[.slice A m c, .func (.func 30) #[] #[.pointer (some ⟨p, 0, none⟩)]] w fun e w' => e = .returned (.bool (hitB xs k m)) ∧ Below w.heap.size w w' := by
  have H := Lib.hid (vpidx_any A n m c xs k p w hx hm h hl hw hk hp lp)
  clear h hw hk hp
  go_enter Try.func29, Try.ntmps29
  go_wp2_with fail
  refine H.out.mono ?_
  rintro e w' ⟨r, rfl, hd, hb⟩
  have HD := Lib.hid hd
  clear hd
  go_wp2
  go_ret
  exact ⟨ret_bool HD.out, hb⟩
set_option maxHeartbeats 8000000 in
theorem i_ValidPacking (A : Option Addr) (n c B : Nat) (xs : List Int) (W H : Int) (w : World) (hx : xs.length = 4 * n) (hnc : n ≤ c) (h : Rds .i64 w B A xs) (hB : B ≤ w.heap.size) (hl : n ≤ 2000000) :
    Calls Try.prog 10 #[.slice A n c, .int .i64 W, .int .i64 H] w fun e w' => e = .returned (.bool (vpk W H n xs)) ∧ Below w.heap.size w w' := by
  have Hh := Lib.hid h
  have HX := Lib.hid hx
  clear h hx
  have HV : Hid (vpk W H n xs = (decide (1 ≤ W ∧ W ≤ 64) && (decide (0 ≤ H ∧ H ≤ 192) && (decide ((n : Int) ≤ 12) && okKs W H xs n)))) := Lib.hid rfl
  cases h1 : decide (1 ≤ W ∧ W ≤ 64)
  · have HF : Hid (vpk W H n xs = false) := Lib.hid (by rw [HV.out, h1]; rfl)
    have H1 := Lib.hid h1
    clear HV h1
    go_enter Try.func10, Try.ntmps10
    go_wp2_with fail
    refine (iFt_any W 1 64 _).mono ?_
    rintro e w' ⟨rfl, rfl⟩
    rw [H1.out]
    go_wp2
    go_ret
    exact ⟨ret_bool HF.out.symm, Below.refl _ _⟩
  · have H1 := Lib.hid h1
    cases h2 : decide (0 ≤ H ∧ H ≤ 192)
    · have HF : Hid (vpk W H n xs = false) := Lib.hid (by rw [HV.out, h1, h2]; rfl)
      have H2 := Lib.hid h2
      clear HV h1 h2
      go_enter Try.func10, Try.ntmps10
      go_wp2_with fail
      refine (iFt_any W 1 64 _).mono ?_
      rintro e w' ⟨rfl, rfl⟩
      rw [H1.out]
      go_wp2_with fail
      refine (iFt_any H 0 192 _).mono ?_
      rintro e w' ⟨rfl, rfl⟩
      rw [H2.out]
      go_wp2
      go_ret
      exact ⟨ret_bool HF.out.symm, Below.refl _ _⟩
    · have H2 := Lib.hid h2
      by_cases hn : (n : Int) ≤ 12
      · have HF : Hid (vpk W H n xs = okKs W H xs n) := Lib.hid (by rw [HV.out, h1, h2, decide_eq_true hn]; rfl)
        have hWb := of_decide_eq_true h1
        have hHb := of_decide_eq_true h2
        have HWb := Lib.hid hWb
        have HHb := Lib.hid hHb
        have hn12 : ¬ (12 : Int) < (n : Int) := by omega
        clear HV h1 h2 hWb hHb
        go_enter Try.func10, Try.ntmps10
        go_wp2_with fail
        refine (iFt_any W 1 64 _).mono ?_
        rintro e w' ⟨rfl, rfl⟩
        rw [H1.out]
        go_wp2_with fail
        refine (iFt_any H 0 192 _).mono ?_
        rintro e w' ⟨rfl, rfl⟩
        rw [H2.out]
        go_wp2
        go_loopw [24] (fun i wr => ∃ k : Nat, k ≤ n ∧ i = .int .i64 k ∧ Hid (okKs W H xs k = true) ∧ Below w.heap.size w wr) (fun i _ => n - (intOf i).toNat)
        case atStart => exact ⟨0, Nat.zero_le _, rfl, Lib.hid rfl, Below.refl _ _⟩
        case round =>
          obtain ⟨k, hk, rfl, HK, hbel⟩ := hrel
          by_cases hlt : k < n
          · obtain ⟨t0, t1, t2, t3⟩ := quad4 hlt HX.out
            obtain ⟨b, off, rfl, hb, hc⟩ := Hh.out.cells_ t0
            have hc0 : wr.cell? ⟨b, off + k * 4, none⟩ = some (.int .i64 (q0 xs k)) := (hbel.cell (p := ⟨b, off + k * 4, none⟩) (by show b < _; omega)).trans (hc _ t0)
            have hc1 : wr.cell? ⟨b, off + k * 4 + 1, none⟩ = some (.int .i64 (q1 xs k)) := (hbel.cell (p := ⟨b, off + k * 4 + 1, none⟩) (by show b < _; omega)).trans (hc _ t1)
            have hc2 : wr.cell? ⟨b, off + k * 4 + 2, none⟩ = some (.int .i64 (q2 xs k)) := (hbel.cell (p := ⟨b, off + k * 4 + 2, none⟩) (by show b < _; omega)).trans (hc _ t2)
            have hc3 : wr.cell? ⟨b, off + k * 4 + 3, none⟩ = some (.int .i64 (q3 xs k)) := (hbel.cell (p := ⟨b, off + k * 4 + 3, none⟩) (by show b < _; omega)).trans (hc _ t3)
            have HO : Hid (okK W H xs k = (ftB (q0 xs k) (q1 xs k) (q2 xs k) (q3 xs k) W H && !hitB xs k k)) := Lib.hid rfl
            have HNo : Hid (okK W H xs k = false → vpk W H n xs = false) := Lib.hid (fun e => by rw [HF.out]; exact okKs_no e hlt)
            have HYes : Hid (okK W H xs k = true → okKs W H xs (k + 1) = true) := Lib.hid (fun e => by show (okKs W H xs k && okK W H xs k) = true; rw [HK.out, e]; rfl)
            have HWk : Hid (∀ j, j < k → IntKind.i64.wrap (q0 xs j + q2 xs j) = q0 xs j + q2 xs j ∧ IntKind.i64.wrap (q1 xs j + q3 xs j) = q1 xs j + q3 xs j) := Lib.hid (fun j hj => ft_wrap (okK_ft (okKs_get HK.out j hj)) (by have := HWb.out; omega) (by have := HHb.out; omega))
            obtain ⟨u, hu⟩ : ∃ u, u = wr.alloc (.cells #[.int .i64 (q0 xs k), .int .i64 (q1 xs k), .int .i64 (q2 xs k), .int .i64 (q3 xs k)] 29) := ⟨_, rfl⟩
            have HBu : Hid (Below w.heap.size w u) := Lib.hid (by rw [hu]; exact hbel.alloc hbel.size _)
            have hg : u.heap[wr.heap.size]? = some (.cells #[.int .i64 (q0 xs k), .int .i64 (q1 xs k), .int .i64 (q2 xs k), .int .i64 (q3 xs k)] 29 (0, 0)) := by rw [hu]; exact heap_alloc_new wr _
            have HG := Lib.hid hg
            have Hsz : Hid (wr.heap.size < u.heap.size) := Lib.hid (by rw [hu]; simp)
            have HU := Lib.hid hu
            have Hk2 : Hid (k ≤ n ∧ k < n) := Lib.hid ⟨hk, hlt⟩
            clear hc hbel hg hu
            go_upto_region 6 with fail
            rw [← HU.out]
            clear hc0 hc1 hc2 hc3 HU
            have g0 : u.cell? ⟨wr.heap.size, 0, none⟩ = some (.int .i64 (q0 xs k)) := by rw [cell_of_row _ _ _ _ _ _ HG.out]; rfl
            have g1 : u.cell? ⟨wr.heap.size, 1, none⟩ = some (.int .i64 (q1 xs k)) := by rw [cell_of_row _ _ _ _ _ _ HG.out]; rfl
            have g2 : u.cell? ⟨wr.heap.size, 2, none⟩ = some (.int .i64 (q2 xs k)) := by rw [cell_of_row _ _ _ _ _ _ HG.out]; rfl
            have g3 : u.cell? ⟨wr.heap.size, 3, none⟩ = some (.int .i64 (q3 xs k)) := by rw [cell_of_row _ _ _ _ _ _ HG.out]; rfl
            go_wp2_with fail
            refine (ft_any (q0 xs k) (q1 xs k) (q2 xs k) (q3 xs k) W H (by have := HWb.out; omega) (by have := HHb.out; omega) u).mono ?_
            rintro e u2 ⟨rfl, hB2⟩
            cases hf : ftB (q0 xs k) (q1 xs k) (q2 xs k) (q3 xs k) W H
            · have HF2 : Hid (vpk W H n xs = false) := Lib.hid (HNo.out (by rw [HO.out, hf]; rfl))
              have HE := Lib.hid (HBu.out.trans (hB2.mono HBu.out.size))
              clear hf hB2 g0 g1 g2 g3
              go_wp2
              go_ret
              exact ⟨ret_bool HF2.out.symm, HE.out⟩
            · have HKw := Lib.hid (ft_wrap hf (by have := HWb.out; omega) (by have := HHb.out; omega))
              have HE := Lib.hid (HBu.out.trans (hB2.mono HBu.out.size))
              have HC := Lib.hid (vpcon_any (some ⟨b, off, none⟩) n k c xs k wr.heap.size u2 HX.out (by omega) (((Hh.out.belowTo HE.out hB).more (by have := HE.out.size; omega))) hl HWk.out HKw.out ⟨(hB2.cell (p := ⟨wr.heap.size, 0, none⟩) Hsz.out).trans g0, (hB2.cell (p := ⟨wr.heap.size, 1, none⟩) Hsz.out).trans g1, (hB2.cell (p := ⟨wr.heap.size, 2, none⟩) Hsz.out).trans g2, (hB2.cell (p := ⟨wr.heap.size, 3, none⟩) Hsz.out).trans g3⟩ (by have := Hsz.out; have := hB2.size; omega))
              have HO2 : Hid (okK W H xs k = !hitB xs k k) := Lib.hid (by rw [HO.out, hf]; rfl)
              have kc : k ≤ c := by omega
              have kc2 : (k : Int) ≤ (c : Int) := by omega
              clear hf hB2 g0 g1 g2 g3
              go_wp2_with fail
              refine HC.out.mono ?_
              rintro e u3 ⟨rfl, hB3⟩
              have HE3 := Lib.hid (HE.out.trans (hB3.mono HE.out.size))
              clear hB3
              cases hh : hitB xs k k
              · have HY2 : Hid (okKs W H xs (k + 1) = true) := Lib.hid (HYes.out (by rw [HO2.out, hh]; rfl))
                clear hh
                go_wp2
                go_roundw
                case rel => exact ⟨k + 1, by omega, by go_num, HY2, HE3.out⟩
                case measure => simp [intOf]; omega
              · have HF2 : Hid (vpk W H n xs = false) := Lib.hid (HNo.out (by rw [HO2.out, hh]; rfl))
                clear hh
                go_wp2
                go_ret
                exact ⟨ret_bool HF2.out.symm, HE3.out⟩
          · have hk' : k = n := by omega
            have HS : Hid (vpk W H n xs = true) := Lib.hid (by rw [HF.out, ← hk']; exact HK.out)
            clear hk'
            go_wp2
            go_ret
            exact ⟨ret_bool HS.out.symm, hbel⟩
      · have HF : Hid (vpk W H n xs = false) := Lib.hid (by rw [HV.out, h1, h2, decide_eq_false hn]; rfl)
        have hn12 : (12 : Int) < (n : Int) := by omega
        clear HV h1 h2
        go_enter Try.func10, Try.ntmps10
        go_wp2_with fail
        refine (iFt_any W 1 64 _).mono ?_
        rintro e w' ⟨rfl, rfl⟩
        rw [H1.out]
        go_wp2_with fail
        refine (iFt_any H 0 192 _).mono ?_
        rintro e w' ⟨rfl, rfl⟩
        rw [H2.out]
        go_wp2
        go_ret
        exact ⟨ret_bool HF.out.symm, Below.refl _ _⟩
theorem wf64 {a : Int} (h : (Lit.int .i64 a).wf = true) : -9223372036854775808 ≤ a ∧ a ≤ 9223372036854775807 := by
  simp only [Lit.wf, Bool.and_eq_true, decide_eq_true_eq] at h
  exact h
theorem fs_no1 {b0 b1 b2 b3 W H : Int} (h : decide (1 ≤ b2 ∧ b2 ≤ W) = false) : ftB b0 b1 b2 b3 W H = false := by rw [← fs_ft]; unfold fsB; rw [h]; rfl
theorem fs_no2 {b0 b1 b2 b3 W H : Int} (h : decide (1 ≤ b3 ∧ b3 ≤ H) = false) : ftB b0 b1 b2 b3 W H = false := by rw [← fs_ft]; unfold fsB; rw [h]; simp
theorem fs_no3 {b0 b1 b2 b3 W H : Int} (h : decide (0 ≤ b0 ∧ b0 ≤ W - b2) = false) : ftB b0 b1 b2 b3 W H = false := by rw [← fs_ft]; unfold fsB; rw [h]; simp
theorem fs_no4 {b0 b1 b2 b3 W H : Int} (h : decide (0 ≤ b1 ∧ b1 ≤ H - b3) = false) : ftB b0 b1 b2 b3 W H = false := by rw [← fs_ft]; unfold fsB; rw [h]; simp
theorem fs_yes {b0 b1 b2 b3 W H : Int} (h1 : decide (1 ≤ b2 ∧ b2 ≤ W) = true) (h2 : decide (1 ≤ b3 ∧ b3 ≤ H) = true) (h3 : decide (0 ≤ b0 ∧ b0 ≤ W - b2) = true) (h4 : decide (0 ≤ b1 ∧ b1 ≤ H - b3) = true) : ftB b0 b1 b2 b3 W H = true := by
  rw [← fs_ft]; unfold fsB; rw [h1, h2, h3, h4]; rfl
set_option maxHeartbeats 8000000 in
theorem s_ValidPacking (A : Option Addr) (n c B : Nat) (xs : List Int) (W H : Int) (w : World) (hWf : (Lit.int .i64 W).wf = true) (hHf : (Lit.int .i64 H).wf = true) (hx : xs.length = 4 * n) (h : Rds .i64 w B A xs) (hB : B ≤ w.heap.size) (hl : n ≤ 2000000) :
    Calls Try.prog 11 #[.slice A n c, .int .i64 W, .int .i64 H] w fun e w' => e = .returned (.bool (vpk W H n xs)) ∧ Below w.heap.size w w' := by
  have Hh := Lib.hid h
  have HX := Lib.hid hx
  have HWb := Lib.hid (wf64 hWf)
  have HHb := Lib.hid (wf64 hHf)
  clear h hx hWf hHf
  go_enter Try.func11, Try.ntmps11
  go_wp2
  go_loopw [7] (fun i wr => ∃ k : Nat, k ≤ n ∧ i = .int .i64 k ∧ Hid (okKs W H xs k = true) ∧ Below w.heap.size w wr) (fun i _ => n - (intOf i).toNat)
  case atStart => exact ⟨0, Nat.zero_le _, rfl, Lib.hid rfl, Below.refl _ _⟩
  case round =>
    obtain ⟨k, hk, rfl, HK, hbel⟩ := hrel
    by_cases hlt : k < n
    · obtain ⟨t0, t1, t2, t3⟩ := quad4 hlt HX.out
      obtain ⟨b, off, hA, hb, hc⟩ := Hh.out.cells_ t0
      subst hA
      have hc0 : wr.cell? ⟨b, off + k * 4, none⟩ = some (.int .i64 (q0 xs k)) := (hbel.cell (p := ⟨b, off + k * 4, none⟩) (by show b < _; omega)).trans (hc _ t0)
      have hc1 : wr.cell? ⟨b, off + k * 4 + 1, none⟩ = some (.int .i64 (q1 xs k)) := (hbel.cell (p := ⟨b, off + k * 4 + 1, none⟩) (by show b < _; omega)).trans (hc _ t1)
      have hc2 : wr.cell? ⟨b, off + k * 4 + 2, none⟩ = some (.int .i64 (q2 xs k)) := (hbel.cell (p := ⟨b, off + k * 4 + 2, none⟩) (by show b < _; omega)).trans (hc _ t2)
      have hc3 : wr.cell? ⟨b, off + k * 4 + 3, none⟩ = some (.int .i64 (q3 xs k)) := (hbel.cell (p := ⟨b, off + k * 4 + 3, none⟩) (by show b < _; omega)).trans (hc _ t3)
      have HCC := Lib.hid hc
      have HNo : Hid (okK W H xs k = false → vpk W H n xs = false) := Lib.hid (fun e => vpk_no (okKs_no e hlt))
      have HYes : Hid (okK W H xs k = true → okKs W H xs (k + 1) = true) := Lib.hid (fun e => by show (okKs W H xs k && okK W H xs k) = true; rw [HK.out, e]; rfl)
      have HO : Hid (okK W H xs k = (ftB (q0 xs k) (q1 xs k) (q2 xs k) (q3 xs k) W H && !hitB xs k k)) := Lib.hid rfl
      have HWk : Hid (∀ j, j < k → IntKind.i64.wrap (q0 xs j + q2 xs j) = q0 xs j + q2 xs j ∧ IntKind.i64.wrap (q1 xs j + q3 xs j) = q1 xs j + q3 xs j) := Lib.hid (fun j hj => ft_wrap (okK_ft (okKs_get HK.out j hj)) HWb.out.2 HHb.out.2)
      obtain ⟨u, hu⟩ : ∃ u, u = wr.alloc (.cells #[.int .i64 (q0 xs k), .int .i64 (q1 xs k), .int .i64 (q2 xs k), .int .i64 (q3 xs k)] 29) := ⟨_, rfl⟩
      have HBu : Hid (Below w.heap.size w u) := Lib.hid (by rw [hu]; exact hbel.alloc hbel.size _)
      have hg : u.heap[wr.heap.size]? = some (.cells #[.int .i64 (q0 xs k), .int .i64 (q1 xs k), .int .i64 (q2 xs k), .int .i64 (q3 xs k)] 29 (0, 0)) := by rw [hu]; exact heap_alloc_new wr _
      have HG := Lib.hid hg
      obtain ⟨p, hp⟩ : ∃ p, p = wr.heap.size := ⟨_, rfl⟩
      have Hsz : Hid (p < u.heap.size ∧ w.heap.size ≤ p) := Lib.hid (by rw [hu, hp]; exact ⟨by simp, hbel.size⟩)
      rw [← hp] at HG
      have HU := Lib.hid hu
      clear hc hbel hg hu
      go_upto_region 5 with fail
      rw [← HU.out, ← hp]
      clear hc0 hc1 hc2 hc3 HU hp
      have g0 : u.cell? ⟨p, 0, none⟩ = some (.int .i64 (q0 xs k)) := by rw [cell_of_row _ _ _ _ _ _ HG.out]; rfl
      have g1 : u.cell? ⟨p, 1, none⟩ = some (.int .i64 (q1 xs k)) := by rw [cell_of_row _ _ _ _ _ _ HG.out]; rfl
      have g2 : u.cell? ⟨p, 2, none⟩ = some (.int .i64 (q2 xs k)) := by rw [cell_of_row _ _ _ _ _ _ HG.out]; rfl
      have g3 : u.cell? ⟨p, 3, none⟩ = some (.int .i64 (q3 xs k)) := by rw [cell_of_row _ _ _ _ _ _ HG.out]; rfl
      have HQ : Hid (q0 xs k = q0 xs k ∧ q1 xs k = q1 xs k ∧ q2 xs k = q2 xs k ∧ q3 xs k = q3 xs k) := Lib.hid ⟨rfl, rfl, rfl, rfl⟩
      cases h1 : decide (1 ≤ q2 xs k ∧ q2 xs k ≤ W)
      · have HF : Hid (vpk W H n xs = false) := Lib.hid (HNo.out (by rw [HO.out, fs_no1 h1]; rfl))
        have H1 := Lib.hid h1
        clear h1
        go_wp2_with fail
        refine (sFt_any (q2 xs k) 1 W _).mono ?_
        rintro e w' ⟨rfl, rfl⟩
        rw [H1.out]
        go_wp2
        go_ret
        exact ⟨ret_bool HF.out.symm, HBu.out⟩
      · have H1 := Lib.hid h1
        have hb1 := of_decide_eq_true h1
        have rw1 : IntKind.i64.wrap (W - q2 xs k) = W - q2 xs k := IntWalk.i64_in _ (by have := HWb.out; omega)
        clear h1
        cases h2 : decide (1 ≤ q3 xs k ∧ q3 xs k ≤ H)
        · have HF : Hid (vpk W H n xs = false) := Lib.hid (HNo.out (by rw [HO.out, fs_no2 h2]; rfl))
          have H2 := Lib.hid h2
          clear h2 hb1
          go_wp2_with fail
          refine (sFt_any (q2 xs k) 1 W _).mono ?_
          rintro e w' ⟨rfl, rfl⟩
          rw [H1.out]
          go_wp2_with fail
          refine (sFt_any (q3 xs k) 1 H _).mono ?_
          rintro e w' ⟨rfl, rfl⟩
          rw [H2.out]
          go_wp2
          go_ret
          exact ⟨ret_bool HF.out.symm, HBu.out⟩
        · have H2 := Lib.hid h2
          have hb2 := of_decide_eq_true h2
          have rw2 : IntKind.i64.wrap (H - q3 xs k) = H - q3 xs k := IntWalk.i64_in _ (by have := HHb.out; omega)
          clear h2 hb1 hb2
          cases h3 : decide (0 ≤ q0 xs k ∧ q0 xs k ≤ W - q2 xs k)
          · have HF : Hid (vpk W H n xs = false) := Lib.hid (HNo.out (by rw [HO.out, fs_no3 h3]; rfl))
            have H3 := Lib.hid h3
            clear h3
            go_wp2_with fail
            refine (sFt_any (q2 xs k) 1 W _).mono ?_
            rintro e w' ⟨rfl, rfl⟩
            rw [H1.out]
            go_wp2_with fail
            refine (sFt_any (q3 xs k) 1 H _).mono ?_
            rintro e w' ⟨rfl, rfl⟩
            rw [H2.out]
            go_wp2_with fail
            refine (sFt_any (q0 xs k) 0 (W - q2 xs k) _).mono ?_
            rintro e w' ⟨rfl, rfl⟩
            rw [H3.out]
            go_wp2
            go_ret
            exact ⟨ret_bool HF.out.symm, HBu.out⟩
          · have H3 := Lib.hid h3
            clear h3
            cases h4 : decide (0 ≤ q1 xs k ∧ q1 xs k ≤ H - q3 xs k)
            · have HF : Hid (vpk W H n xs = false) := Lib.hid (HNo.out (by rw [HO.out, fs_no4 h4]; rfl))
              have H4 := Lib.hid h4
              clear h4
              go_wp2_with fail
              refine (sFt_any (q2 xs k) 1 W _).mono ?_
              rintro e w' ⟨rfl, rfl⟩
              rw [H1.out]
              go_wp2_with fail
              refine (sFt_any (q3 xs k) 1 H _).mono ?_
              rintro e w' ⟨rfl, rfl⟩
              rw [H2.out]
              go_wp2_with fail
              refine (sFt_any (q0 xs k) 0 (W - q2 xs k) _).mono ?_
              rintro e w' ⟨rfl, rfl⟩
              rw [H3.out]
              go_wp2_with fail
              refine (sFt_any (q1 xs k) 0 (H - q3 xs k) _).mono ?_
              rintro e w' ⟨rfl, rfl⟩
              rw [H4.out]
              go_wp2
              go_ret
              exact ⟨ret_bool HF.out.symm, HBu.out⟩
            · have H4 := Lib.hid h4
              have hft := fs_yes H1.out H2.out H3.out h4
              have HKw := Lib.hid (ft_wrap hft HWb.out.2 HHb.out.2)
              have HO2 : Hid (okK W H xs k = !hitB xs k k) := Lib.hid (by rw [HO.out, hft]; rfl)
              clear h4 hft
              go_wp2_with fail
              refine (sFt_any (q2 xs k) 1 W _).mono ?_
              rintro e w' ⟨rfl, rfl⟩
              rw [H1.out]
              go_wp2_with fail
              refine (sFt_any (q3 xs k) 1 H _).mono ?_
              rintro e w' ⟨rfl, rfl⟩
              rw [H2.out]
              go_wp2_with fail
              refine (sFt_any (q0 xs k) 0 (W - q2 xs k) _).mono ?_
              rintro e w' ⟨rfl, rfl⟩
              rw [H3.out]
              go_wp2_with fail
              refine (sFt_any (q1 xs k) 0 (H - q3 xs k) _).mono ?_
              rintro e w' ⟨rfl, rfl⟩
              rw [H4.out]
              go_wp2
              clear g0 g1 g2 g3 rw1 rw2 H1 H2 H3 H4
              have HI : Hid (Below u.heap.size u u) := Lib.hid (Below.refl _ _)
              go_loopw [9] (fun i wv => ∃ j : Nat, j ≤ k ∧ i = .int .i64 j ∧ Hid (hitB xs k j = false) ∧ Hid (Below u.heap.size u wv)) (fun i _ => k - (intOf i).toNat)
              case atStart => exact ⟨0, Nat.zero_le _, rfl, Lib.hid rfl, HI⟩
              case round =>
                clear HI
                rename World => wv
                obtain ⟨j, hj, rfl, hT, hbv⟩ := hrel
                by_cases hjk : j < k
                · obtain ⟨s0, s1, s2, s3⟩ := quad4 (show j < n by omega) HX.out
                  have hbw := HBu.out.trans (hbv.out.mono HBu.out.size)
                  have hd0 : wv.cell? ⟨b, off + j * 4, none⟩ = some (.int .i64 (q0 xs j)) := (hbw.cell (p := ⟨b, off + j * 4, none⟩) (by show b < _; omega)).trans (HCC.out _ s0)
                  have hd1 : wv.cell? ⟨b, off + j * 4 + 1, none⟩ = some (.int .i64 (q1 xs j)) := (hbw.cell (p := ⟨b, off + j * 4 + 1, none⟩) (by show b < _; omega)).trans (HCC.out _ s1)
                  have hd2 : wv.cell? ⟨b, off + j * 4 + 2, none⟩ = some (.int .i64 (q2 xs j)) := (hbw.cell (p := ⟨b, off + j * 4 + 2, none⟩) (by show b < _; omega)).trans (HCC.out _ s2)
                  have hd3 : wv.cell? ⟨b, off + j * 4 + 3, none⟩ = some (.int .i64 (q3 xs j)) := (hbw.cell (p := ⟨b, off + j * 4 + 3, none⟩) (by show b < _; omega)).trans (HCC.out _ s3)
                  have hgv := (hbv.out.block p Hsz.out.1).trans HG.out
                  have g0 : wv.cell? ⟨p, 0, none⟩ = some (.int .i64 (q0 xs k)) := by rw [cell_of_row _ _ _ _ _ _ hgv]; rfl
                  have g1 : wv.cell? ⟨p, 1, none⟩ = some (.int .i64 (q1 xs k)) := by rw [cell_of_row _ _ _ _ _ _ hgv]; rfl
                  have g2 : wv.cell? ⟨p, 2, none⟩ = some (.int .i64 (q2 xs k)) := by rw [cell_of_row _ _ _ _ _ _ hgv]; rfl
                  have g3 : wv.cell? ⟨p, 3, none⟩ = some (.int .i64 (q3 xs k)) := by rw [cell_of_row _ _ _ _ _ _ hgv]; rfl
                  have HY2 : Hid (comB (q0 xs k) (q1 xs k) (q2 xs k) (q3 xs k) (q0 xs j) (q1 xs j) (q2 xs j) (q3 xs j) = true → vpk W H n xs = false) := Lib.hid (fun e => HNo.out (by rw [HO2.out, hit_yes hjk e]; rfl))
                  have HN2 : Hid (comB (q0 xs k) (q1 xs k) (q2 xs k) (q3 xs k) (q0 xs j) (q1 xs j) (q2 xs j) (q3 xs j) = false → hitB xs k (j + 1) = false) := Lib.hid (hit_next hT.out)
                  have HAP := Lib.hid (fun u => ap_any (q0 xs j) (q1 xs j) (q2 xs j) (q3 xs j) (q0 xs k) (q1 xs k) (q2 xs k) (q3 xs k) u (HWk.out j hjk).1 HKw.out.1 (HWk.out j hjk).2 HKw.out.2)
                  clear hgv
                  have hjn : j < n := by omega
                  have hjn2 : (j : Int) < (n : Int) := by omega
                  go_wp2
                  go_still_tail 5, (by kernel_rfl)
                  change wpList _ _ _ _ _ wv.drew
                  have hbd := Lib.hid hbv.out.drew
                  have hbwd := Lib.hid hbw.drew
                  clear hbv hbw hd0 hd1 hd2 hd3 g0 g1 g2 g3
                  generalize wv.drew = w2 at *
                  go_wp2_with fail
                  refine (HAP.out w2).mono ?_
                  rintro e w3 ⟨rfl, hB3⟩
                  have hb3 := Lib.hid (hbd.out.trans (hB3.mono hbd.out.size))
                  have hb4 := Lib.hid (hbwd.out.trans (hB3.mono hbwd.out.size))
                  clear hbd hbwd hB3 HAP
                  cases hv : comB (q0 xs k) (q1 xs k) (q2 xs k) (q3 xs k) (q0 xs j) (q1 xs j) (q2 xs j) (q3 xs j)
                  · have HN3 := Lib.hid (HN2.out hv)
                    clear hv
                    go_wp2
                    go_roundw
                    case rel => exact ⟨j + 1, by omega, by go_num, HN3, hb3⟩
                    case measure => simp [intOf]; omega
                  · have HF := Lib.hid (HY2.out hv)
                    clear hv
                    go_wp2
                    go_ret
                    exact ⟨ret_bool HF.out.symm, hb4.out⟩
                · have hjk' : j = k := by omega
                  have HS : Hid (okKs W H xs (k + 1) = true) := Lib.hid (HYes.out (by rw [HO2.out, ← hjk', show hitB xs j j = false from by have := hT.out; rw [← hjk'] at this; exact this]; rfl))
                  have hbw := Lib.hid (HBu.out.trans (hbv.out.mono HBu.out.size))
                  clear hjk'
                  go_wp2
                  go_roundw
                  case rel => exact ⟨k + 1, by omega, by go_num, HS, hbw.out⟩
                  case measure => simp [intOf]; omega
    · have hk' : k = n := by omega
      have HS : Hid (okKs W H xs n = true) := Lib.hid (by rw [← hk']; exact HK.out)
      clear hk'
      cases h1 : decide (1 ≤ W ∧ W ≤ 64)
      · have HF : Hid (vpk W H n xs = false) := Lib.hid (by unfold vpk; rw [h1]; rfl)
        have H1 := Lib.hid h1
        clear h1
        go_wp2_with fail
        refine (sFt_any W 1 64 _).mono ?_
        rintro e w' ⟨rfl, rfl⟩
        rw [H1.out]
        go_wp2
        go_ret
        exact ⟨ret_bool HF.out.symm, hbel⟩
      · have H1 := Lib.hid h1
        cases h2 : decide (0 ≤ H ∧ H ≤ 192)
        · have HF : Hid (vpk W H n xs = false) := Lib.hid (by unfold vpk; rw [h1, h2]; rfl)
          have H2 := Lib.hid h2
          clear h1 h2
          go_wp2_with fail
          refine (sFt_any W 1 64 _).mono ?_
          rintro e w' ⟨rfl, rfl⟩
          rw [H1.out]
          go_wp2_with fail
          refine (sFt_any H 0 192 _).mono ?_
          rintro e w' ⟨rfl, rfl⟩
          rw [H2.out]
          go_wp2
          go_ret
          exact ⟨ret_bool HF.out.symm, hbel⟩
        · have H2 := Lib.hid h2
          have HF : Hid (vpk W H n xs = decide ((n : Int) ≤ 12)) := Lib.hid (by unfold vpk; rw [h1, h2, HS.out]; simp)
          clear h1 h2
          go_wp2_with fail
          refine (sFt_any W 1 64 _).mono ?_
          rintro e w' ⟨rfl, rfl⟩
          rw [H1.out]
          go_wp2_with fail
          refine (sFt_any H 0 192 _).mono ?_
          rintro e w' ⟨rfl, rfl⟩
          rw [H2.out]
          by_cases hn : (n : Int) ≤ 12
          · go_wp2
            go_ret
            exact ⟨ret_bool (by rw [HF.out, decide_eq_true hn] <;> rfl), hbel⟩
          · go_wp2
            go_ret
            exact ⟨ret_bool (by rw [HF.out, decide_eq_false (show ¬ (n : Int) ≤ 12 by omega)] <;> rfl), hbel⟩
end Go.Proofs.Ytgieijogopcjnaa
