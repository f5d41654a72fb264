/- Contracts of BlendNumber, in the model and in the program. -/
import Derived.Test.YtakloadpmpffdaaBlnM
import Derived.Test.YtakloadpmpffdaaDiv
import Derived.Test.YtakloadpmpffdaaLists
import Derived.Shelf.Abstract
import Derived.Laws.EntriesVeiled
namespace Go.Proofs.Ytakloadpmpffdaa
open Go.RowKit
set_option linter.unusedSimpArgs false
set_option linter.unusedVariables false
set_option maxRecDepth 20000

set_option maxHeartbeats 1000000 in
theorem sBr_any (n lo hi : Int) (w : World) : Calls Try.prog 26 #[.int .i64 n, .int .i64 lo, .int .i64 hi] w fun e w' => e = .returned (.bool (decide (lo ≤ n ∧ n ≤ hi))) ∧ w = w' := by
  by_cases h1 : lo ≤ n <;> by_cases h2 : n ≤ hi
  all_goals
    go_enter Try.func26, Try.ntmps26
    go_wp2
    go_ret
    exact ⟨ret_bool (by simp [h1, h2] <;> omega), rfl⟩
set_option maxHeartbeats 1000000 in
theorem iBr_any (n lo hi : Int) (w : World) : Calls Try.prog 24 #[.int .i64 n, .int .i64 lo, .int .i64 hi] w fun e w' => e = .returned (.bool (decide (lo ≤ n ∧ n ≤ hi))) ∧ w = w' := by
  by_cases h1 : lo ≤ n <;> by_cases h2 : n ≤ hi
  all_goals
    go_enter Try.func24, Try.ntmps24
    go_wp2
    go_ret
    exact ⟨ret_bool (by simp [h1, h2] <;> omega), rfl⟩
theorem iByt_any (n : Int) (w : World) : Calls Try.prog 24 #[.int .i64 n, .int .i64 0, .int .i64 255] w fun e w' => e = .returned (.bool (byt n)) ∧ w = w' := iBr_any n 0 255 w
/-- What a mixer of mode k must do. -/
def Mixes (g : Nat) (k : Int) : Prop := ∀ (a b : Int) (w : World), (0 ≤ a ∧ a ≤ 255) → (0 ≤ b ∧ b ≤ 255) →
  Calls Try.prog g #[.int .i64 a, .int .i64 b] w fun e w' => e = .returned (.int .i64 (mixv k a b)) ∧ w = w'
set_option maxHeartbeats 1000000 in
theorem mNormal_any : Mixes 34 0 := by
  intro a b w ha hb
  go_enter Try.func34, Try.ntmps34
  go_wp2
  go_ret
  exact ⟨ret_int (mix_0 a b).symm, rfl⟩
set_option maxHeartbeats 1000000 in
theorem mMul_any : Mixes 35 1 := by
  rintro a b w ⟨a0, a1⟩ ⟨b0, b1⟩
  obtain ⟨p0, p1, p2, p3⟩ := mul_bd a0 a1 b0 b1
  have H := Lib.hid (mix_1 a b)
  go_enter Try.func35, Try.ntmps35
  go_wp2_with fail
  refine (iNst_any (a * b) 255 _ (by omega) (by omega) (by omega) (by omega)).mono ?_
  rintro e w' ⟨rfl, rfl⟩
  go_wp2
  go_ret
  exact ⟨ret_int (by rw [H.out]), rfl⟩
set_option maxHeartbeats 1000000 in
theorem mScr_any : Mixes 36 2 := by
  rintro a b w ⟨a0, a1⟩ ⟨b0, b1⟩
  have hb := mix_bd 1 (a := 255 - a) (b := 255 - b) (by omega) (by omega) (by omega) (by omega)
  have H := Lib.hid (mix_inv a b)
  go_enter Try.func36, Try.ntmps36
  go_wp2_with fail
  refine (mMul_any (255 - a) (255 - b) _ ⟨by omega, by omega⟩ ⟨by omega, by omega⟩).mono ?_
  rintro e w' ⟨rfl, rfl⟩
  go_wp2
  go_ret
  exact ⟨ret_int (by rw [H.out]), rfl⟩
set_option maxHeartbeats 1000000 in
theorem mDark_any : Mixes 37 3 := by
  rintro a b w ⟨a0, a1⟩ ⟨b0, b1⟩
  have H := Lib.hid (mix_3 a b)
  by_cases h : a ≤ b
  all_goals
    go_enter Try.func37, Try.ntmps37
    go_wp2
    go_ret
    exact ⟨ret_int (by rw [H.out]; omega), rfl⟩
set_option maxHeartbeats 1000000 in
theorem mLight_any : Mixes 38 4 := by
  rintro a b w ⟨a0, a1⟩ ⟨b0, b1⟩
  have H := Lib.hid (mix_4 a b)
  by_cases h : a ≤ b
  all_goals
    go_enter Try.func38, Try.ntmps38
    go_wp2
    all_goals
      go_ret
      exact ⟨ret_int (by rw [H.out]; omega), rfl⟩
/-- The number of the mixer of a mode. -/
def mfn (k : Int) : Nat := if k = 0 then 34 else if k = 1 then 35 else if k = 2 then 36 else if k = 3 then 37 else 38
theorem modes {k : Int} (h0 : 0 ≤ k) (h4 : k ≤ 4) : k = 0 ∨ k = 1 ∨ k = 2 ∨ k = 3 ∨ k = 4 := by omega
theorem mfn_mixes {k : Int} (h0 : 0 ≤ k) (h4 : k ≤ 4) : Mixes (mfn k) k := by
  rcases modes h0 h4 with rfl | rfl | rfl | rfl | rfl
  · exact mNormal_any
  · exact mMul_any
  · exact mScr_any
  · exact mDark_any
  · exact mLight_any
theorem mfn_enters {k : Int} (h0 : 0 ≤ k) (h4 : k ≤ 4) : ∀ args w, (callFunc (mfn k) args).run Try.prog w = .ok (.enter (mfn k) args) w := by
  rcases modes h0 h4 with rfl | rfl | rfl | rfl | rfl
  · exact enters_of Try.func34 (by kernel_rfl) rfl
  · exact enters_of Try.func35 (by kernel_rfl) rfl
  · exact enters_of Try.func36 (by kernel_rfl) rfl
  · exact enters_of Try.func37 (by kernel_rfl) rfl
  · exact enters_of Try.func38 (by kernel_rfl) rfl
set_option maxHeartbeats 2000000 in
theorem mof_yes (k : Int) (w : World) (h0 : 0 ≤ k) (h4 : k ≤ 4) :
    Calls Try.prog 23 #[.int .i64 k] w fun e w' => e = .returned (.tuple #[.func (.func (mfn k)) #[] #[], .bool true]) ∧ Below w.heap.size w w' := by
  rcases modes h0 h4 with rfl | rfl | rfl | rfl | rfl
  all_goals
    go_enter Try.func23, Try.ntmps23
    go_wp2_with fail
    refine (iBr_any _ _ _ _).mono ?_
    rintro e w' ⟨rfl, rfl⟩
    go_wp2
    go_ret2
    exact ⟨rfl, (Below.refl _ _).alloc (Nat.le_refl _) _⟩
set_option maxHeartbeats 2000000 in
theorem mof_no (k : Int) (w : World) (h : decide (0 ≤ k ∧ k ≤ 4) = false) :
    Calls Try.prog 23 #[.int .i64 k] w fun e w' => e = .returned (.tuple #[.nilFunc, .bool false]) ∧ Below w.heap.size w w' := by
  go_enter Try.func23, Try.ntmps23
  go_wp2_with fail
  refine (iBr_any _ _ _ _).mono ?_
  rintro e w' ⟨rfl, rfl⟩
  rw [h]
  go_wp2
  go_ret2
  exact ⟨rfl, (Below.refl _ _).alloc (Nat.le_refl _) _⟩
theorem blO_no1 {m a b al : Int} (h : decide (0 ≤ m ∧ m ≤ 4) = false) : bln m a b al = -1 := bln_no (by simp only [blO, h, Bool.false_and])
theorem blO_no2 {m a b al : Int} (h : byt a = false) : bln m a b al = -1 := bln_no (by simp only [blO, h, Bool.false_and, Bool.and_false])
theorem blO_no3 {m a b al : Int} (h : byt b = false) : bln m a b al = -1 := bln_no (by simp only [blO, h, Bool.false_and, Bool.and_false])
theorem blO_no4 {m a b al : Int} (h : byt al = false) : bln m a b al = -1 := bln_no (by simp only [blO, h, Bool.and_false])
theorem blO_yes {m a b al : Int} (h0 : 0 ≤ m) (h1 : m ≤ 4) (h2 : byt a = true) (h3 : byt b = true) (h4 : byt al = true) : bln m a b al = blv m a b al := bln_yes (by
  simp only [blO, h2, h3, h4, Bool.and_true, decide_eq_true_eq]; exact ⟨h0, h1⟩)
set_option maxHeartbeats 4000000 in
theorem i_BlendNumber (m a b al : Int) (w : World) :
    Calls Try.prog 10 #[.int .i64 m, .int .i64 a, .int .i64 b, .int .i64 al] w fun e w' => e = .returned (.int .i64 (bln m a b al)) ∧ Below w.heap.size w w' := by
  by_cases hm : 0 ≤ m ∧ m ≤ 4
  · obtain ⟨h0, h4⟩ := hm
    cases ha : byt a
    · have H := Lib.hid (blO_no2 (m := m) (b := b) (al := al) ha)
      go_enter Try.func10, Try.ntmps10
      go_wp2_with fail
      refine (mof_yes m w h0 h4).mono ?_
      rintro e w1 ⟨rfl, hB1⟩
      go_wp2_with fail
      refine (iByt_any _ _).mono ?_
      rintro e w' ⟨rfl, rfl⟩
      rw [ha]
      go_wp2
      go_ret
      exact ⟨ret_int H.out.symm, hB1⟩
    · cases hb : byt b
      · have H := Lib.hid (blO_no3 (m := m) (a := a) (al := al) hb)
        go_enter Try.func10, Try.ntmps10
        go_wp2_with fail
        refine (mof_yes m w h0 h4).mono ?_
        rintro e w1 ⟨rfl, hB1⟩
        go_wp2_with fail
        refine (iByt_any _ _).mono ?_
        rintro e w' ⟨rfl, rfl⟩
        rw [ha]
        go_wp2_with fail
        refine (iByt_any _ _).mono ?_
        rintro e w' ⟨rfl, rfl⟩
        rw [hb]
        go_wp2
        go_ret
        exact ⟨ret_int H.out.symm, hB1⟩
      · cases hl : byt al
        · have H := Lib.hid (blO_no4 (m := m) (a := a) (b := b) hl)
          go_enter Try.func10, Try.ntmps10
          go_wp2_with fail
          refine (mof_yes m w h0 h4).mono ?_
          rintro e w1 ⟨rfl, hB1⟩
          go_wp2_with fail
          refine (iByt_any _ _).mono ?_
          rintro e w' ⟨rfl, rfl⟩
          rw [ha]
          go_wp2_with fail
          refine (iByt_any _ _).mono ?_
          rintro e w' ⟨rfl, rfl⟩
          rw [hb]
          go_wp2_with fail
          refine (iByt_any _ _).mono ?_
          rintro e w' ⟨rfl, rfl⟩
          rw [hl]
          go_wp2
          go_ret
          exact ⟨ret_int H.out.symm, hB1⟩
        · have H := Lib.hid (blO_yes h0 h4 ha hb hl)
          have HP := Lib.hid (mfn_mixes h0 h4)
          have eg := mfn_enters h0 h4
          obtain ⟨a0, a1⟩ := byt_bd ha
          obtain ⟨b0, b1⟩ := byt_bd hb
          obtain ⟨l0, l1⟩ := byt_bd hl
          obtain ⟨M0, M1⟩ := mix_bd m a0 a1 b0 b1
          obtain ⟨⟨p0, p1⟩, q0, q1⟩ := cover_bd M0 M1 a0 a1 l0 l1
          have HV : Hid (blv m a b al = (2 * (al * mixv m a b + (255 - al) * a) + 255) / (2 * 255)) := Lib.hid rfl
          go_enter Try.func10, Try.ntmps10
          go_wp2_with fail
          refine (mof_yes m w h0 h4).mono ?_
          rintro e w1 ⟨rfl, hB1⟩
          generalize mfn m = g at *
          go_wp2_with fail
          refine (iByt_any _ _).mono ?_
          rintro e w' ⟨rfl, rfl⟩
          rw [ha]
          go_wp2_with fail
          refine (iByt_any _ _).mono ?_
          rintro e w' ⟨rfl, rfl⟩
          rw [hb]
          go_wp2_with fail
          refine (iByt_any _ _).mono ?_
          rintro e w' ⟨rfl, rfl⟩
          rw [hl]
          go_wp2_with fail
          refine (HP.out _ _ _ ⟨a0, a1⟩ ⟨b0, b1⟩).mono ?_
          rintro e w' ⟨rfl, rfl⟩
          generalize mixv m a b = M at *
          go_wp2_with fail
          refine (iNst_any (al * M + (255 - al) * a) 255 _ (by omega) (by omega) (by omega) (by omega)).mono ?_
          rintro e w' ⟨rfl, rfl⟩
          rw [← HV.out, ← H.out]
          go_wp2
          go_ret
          exact ⟨rfl, hB1⟩
  · have hd : decide (0 ≤ m ∧ m ≤ 4) = false := decide_eq_false hm
    have H := Lib.hid (blO_no1 (a := a) (b := b) (al := al) hd)
    clear hm
    go_enter Try.func10, Try.ntmps10
    go_wp2_with fail
    refine (mof_no m w hd).mono ?_
    rintro e w1 ⟨rfl, hB1⟩
    go_wp2
    go_ret
    exact ⟨ret_int H.out.symm, hB1⟩
/-! The model. -/
set_option maxHeartbeats 2000000 in
theorem sMix_any (m a b : Int) (w : World) (h0 : 0 ≤ m) (h4 : m ≤ 4) (a0 : 0 ≤ a) (a1 : a ≤ 255) (b0 : 0 ≤ b) (b1 : b ≤ 255) :
    Calls Try.prog 40 #[.int .i64 m, .int .i64 a, .int .i64 b] w fun e w' => e = .returned (.int .i64 (mixv m a b)) ∧ w = w' := by
  rcases modes h0 h4 with rfl | rfl | rfl | rfl | rfl
  · have H := Lib.hid (mix_0 a b)
    go_enter Try.func40, Try.ntmps40
    go_wp2
    go_ret
    exact ⟨ret_int (by rw [H.out]), rfl⟩
  · have H := Lib.hid (mix_1 a b)
    obtain ⟨p0, p1, p2, p3⟩ := mul_bd a0 a1 b0 b1
    have e : 2 * a * b = 2 * (a * b) := Int.mul_assoc _ _ _
    have q0 : 0 ≤ 2 * a * b := by omega
    have q1 : 2 * a * b ≤ 130050 := by omega
    have E := Lib.hid e
    clear e
    go_enter Try.func40, Try.ntmps40
    go_wp2
    go_ret
    exact ⟨ret_int (by rw [H.out, E.out]), rfl⟩
  · have H := Lib.hid (mix_2 a b)
    obtain ⟨p0, p1, p2, p3⟩ := mul_bd (a := 255 - a) (b := 255 - b) (by omega) (by omega) (by omega) (by omega)
    have e : 2 * (255 - a) * (255 - b) = 2 * ((255 - a) * (255 - b)) := Int.mul_assoc _ _ _
    have q0 : 0 ≤ 2 * (255 - a) * (255 - b) := by omega
    have q1 : 2 * (255 - a) * (255 - b) ≤ 130050 := by omega
    have E := Lib.hid e
    clear e
    go_enter Try.func40, Try.ntmps40
    go_wp2
    go_ret
    exact ⟨ret_int (by rw [H.out, E.out]), rfl⟩
  · have H := Lib.hid (mix_3 a b)
    by_cases h : a ≤ b
    all_goals
      go_enter Try.func40, Try.ntmps40
      go_wp2
      go_ret
      exact ⟨ret_int (by rw [H.out]; omega), rfl⟩
  · have H := Lib.hid (mix_4 a b)
    by_cases h : a ≤ b
    all_goals
      go_enter Try.func40, Try.ntmps40
      go_wp2
      all_goals
        go_ret
        exact ⟨ret_int (by rw [H.out]; omega), rfl⟩
set_option maxHeartbeats 2000000 in
theorem sBlend_any (m a b al : Int) (w : World) (h0 : 0 ≤ m) (h4 : m ≤ 4) (a0 : 0 ≤ a) (a1 : a ≤ 255) (b0 : 0 ≤ b) (b1 : b ≤ 255) (l0 : 0 ≤ al) (l1 : al ≤ 255) :
    Calls Try.prog 28 #[.int .i64 m, .int .i64 a, .int .i64 b, .int .i64 al] w fun e w' => e = .returned (.int .i64 (blv m a b al)) ∧ w = w' := by
  obtain ⟨M0, M1⟩ := mix_bd m a0 a1 b0 b1
  obtain ⟨⟨p0, p1⟩, q0, q1⟩ := cover_bd M0 M1 a0 a1 l0 l1
  have HV : Hid (blv m a b al = (2 * (al * mixv m a b + (255 - al) * a) + 255) / 510) := Lib.hid rfl
  go_enter Try.func28, Try.ntmps28
  go_wp2_with fail
  refine (sMix_any m a b _ h0 h4 a0 a1 b0 b1).mono ?_
  rintro e w' ⟨rfl, rfl⟩
  generalize mixv m a b = M at *
  go_wp2
  go_ret
  exact ⟨ret_int HV.out.symm, rfl⟩
theorem allB_abc {a b c : Int} : allB 0 255 [a, b, c] = (byt a && (byt b && byt c)) := by
  rw [Bool.eq_iff_iff]; simp [allB, byt]
theorem blO_all {m a b al : Int} : blO m a b al = (decide (0 ≤ m ∧ m ≤ 4) && allB 0 255 [a, b, al]) := by rw [allB_abc]; rfl
theorem rds_three (w : World) (a b c : Int) : Rds .i64 (w.alloc (.cells #[.int .i64 a, .int .i64 b, .int .i64 c] 3)) (w.heap.size + 1) (some ⟨w.heap.size, 0, none⟩) [a, b, c] := .inr ⟨_, _, rfl, by omega, fun j hj => by
  rw [cell_of_row _ _ _ _ _ _ (heap_alloc_new w _)]
  match j, hj with
  | 0, _ => rfl
  | 1, _ => rfl
  | 2, _ => rfl⟩
set_option maxHeartbeats 4000000 in
theorem s_BlendNumber (m a b al : Int) (w : World) :
    Calls Try.prog 11 #[.int .i64 m, .int .i64 a, .int .i64 b, .int .i64 al] w fun e w' => e = .returned (.int .i64 (bln m a b al)) ∧ Below w.heap.size w w' := by
  by_cases hm : 0 ≤ m ∧ m ≤ 4
  · obtain ⟨h0, h4⟩ := hm
    have hd : decide (0 ≤ m ∧ m ≤ 4) = true := decide_eq_true ⟨h0, h4⟩
    have R3 := Lib.hid (rds_three w a b al)
    cases ha : allB 0 255 [a, b, al]
    · have H : Hid (bln m a b al = -1) := Lib.hid (bln_no (by rw [blO_all, ha, Bool.and_false]))
      go_enter Try.func11, Try.ntmps11
      go_wp2_with fail
      refine (sBr_any _ _ _ _).mono ?_
      rintro e w' ⟨rfl, rfl⟩
      rw [hd]
      go_wp2_with fail
      refine (sAllIn_any _ 3 _ [a, b, al] 0 255 _ R3.out (by simp)).mono ?_
      rintro e w' ⟨rfl, rfl⟩
      rw [ha]
      go_wp2
      go_ret
      exact ⟨ret_int H.out.symm, (Below.refl _ _).alloc (Nat.le_refl _) _⟩
    · have ho : blO m a b al = true := by rw [blO_all, ha, hd]; rfl
      obtain ⟨_, ⟨a0, a1⟩, ⟨b0, b1⟩, l0, l1⟩ := blO_parts ho
      have H := Lib.hid (bln_yes ho)
      clear ho
      go_enter Try.func11, Try.ntmps11
      go_wp2_with fail
      refine (sBr_any _ _ _ _).mono ?_
      rintro e w' ⟨rfl, rfl⟩
      rw [hd]
      go_wp2_with fail
      refine (sAllIn_any _ 3 _ [a, b, al] 0 255 _ R3.out (by simp)).mono ?_
      rintro e w' ⟨rfl, rfl⟩
      rw [ha]
      go_wp2_with fail
      refine (sBlend_any m a b al _ h0 h4 a0 a1 b0 b1 l0 l1).mono ?_
      rintro e w' ⟨rfl, rfl⟩
      rw [← H.out]
      go_wp2
      go_ret
      exact ⟨rfl, (Below.refl _ _).alloc (Nat.le_refl _) _⟩
  · have hd : decide (0 ≤ m ∧ m ≤ 4) = false := decide_eq_false hm
    have H := Lib.hid (blO_no1 (a := a) (b := b) (al := al) hd)
    clear hm
    go_enter Try.func11, Try.ntmps11
    go_wp2_with fail
    refine (sBr_any _ _ _ _).mono ?_
    rintro e w' ⟨rfl, rfl⟩
    rw [hd]
    go_wp2
    go_ret
    exact ⟨ret_int H.out.symm, Below.refl _ _⟩
theorem bch {w w1 w2 : World} (h : Below w.heap.size w w1) (h2 : Below w1.heap.size w1 w2) : Below w.heap.size w w2 := h.trans (h2.mono h.size)
/-- What the laws of BlendNumber need of a number that is not -1. -/
theorem bln_law {m a b al : Int} (h : ¬ bln m a b al < 0) :
    (0 ≤ m ∧ m ≤ 4) ∧ (0 ≤ a ∧ a ≤ 255) ∧ (0 ≤ b ∧ b ≤ 255) ∧ (0 ≤ al ∧ al ≤ 255) ∧ (0 ≤ mixv m a b ∧ mixv m a b ≤ 255) ∧ bln m a b 255 = mixv m a b ∧ bln m a b 0 = a ∧ bln 0 a b 255 = b ∧
    ((a ≤ mixv m a b ∧ a ≤ bln m a b al ∧ bln m a b al ≤ mixv m a b) ∨ (mixv m a b ≤ a ∧ mixv m a b ≤ bln m a b al ∧ bln m a b al ≤ a)) := by
  have ho := bln_neg h
  obtain ⟨⟨h0, h4⟩, ⟨a0, a1⟩, ⟨b0, b1⟩, l0, l1⟩ := blO_parts ho
  refine ⟨⟨h0, h4⟩, ⟨a0, a1⟩, ⟨b0, b1⟩, ⟨l0, l1⟩, mix_bd m a0 a1 b0 b1, bln_full h0 h4 a0 a1 b0 b1, ?_, ?_, ?_⟩
  · rw [bln_yes (blO_of h0 h4 a0 a1 b0 b1 (by omega) (by omega)), blv_none]
  · rw [bln_full (by omega) (by omega) a0 a1 b0 b1, mix_0]
  · rw [bln_yes ho]; exact blv_between a0 a1 b0 b1 l0 l1
end Go.Proofs.Ytakloadpmpffdaa
