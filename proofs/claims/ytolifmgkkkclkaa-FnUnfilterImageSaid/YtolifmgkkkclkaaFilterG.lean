/- Contracts of the sum over a filtered row and of BestFilter, in the model and in the program. -/
import Derived.Test.YtolifmgkkkclkaaFilterE
import Derived.RegionTactic
import Derived.BigRegion
namespace Go.Proofs.Ytolifmgkkkclkaa
open Go.RowKit
set_option linter.unusedSimpArgs false
set_option linter.unusedVariables false

set_option maxHeartbeats 2000000 in
theorem iCost_any (A : Option Addr) (c B : Nat) (xs : List Int) (w : World) (hx : Rds .i64 w B A xs) (hl : xs.length ≤ 64) (hb : Byt xs) :
    Calls Try.prog 47 #[.slice A xs.length c] w fun e w' => e = .returned (.int .i64 (fcost xs)) ∧ w = w' := by
  have Hx := Lib.hid hx
  have Hb := Lib.hid hb
  clear hx hb
  go_enter Try.func47, Try.ntmps47
  go_wp2
  go_loop [3, 8] (fun s i => ∃ k : Nat, k ≤ xs.length ∧ i = .int .i64 k ∧ s = .int .i64 (fcost (xs.take k))) (fun _ i => xs.length - (intOf i).toNat)
  case atStart => exact ⟨0, Nat.zero_le _, rfl, rfl⟩
  case round =>
    obtain ⟨k, hk, rfl, rfl⟩ := hrel
    have r1 := fcost_bd Hb.out k
    by_cases hlt : k < xs.length
    · obtain ⟨b, off, rfl, _, hc⟩ := Hx.out.cells_ hlt
      have h1 := hc k hlt
      have hr := Hb.out k
      have HX := Lib.hid (fcost_take xs k hlt)
      clear hc
      generalize xs.getD k 0 = n at *
      generalize fcost (xs.take k) = x at *
      by_cases hm : n ≤ 256 - n
      · rw [show min n (256 - n) = n by omega] at HX
        go_wp2
        go_round
        case rel => exact ⟨k + 1, by omega, by go_num, by rw [HX.out] <;> go_num⟩
        case measure => simp [intOf]; omega
      · rw [show min n (256 - n) = 256 - n by omega] at HX
        go_wp2
        go_round
        case rel => exact ⟨k + 1, by omega, by go_num, by rw [HX.out] <;> go_num⟩
        case measure => simp [intOf]; omega
    · have Hk : Hid (xs.take k = xs) := Lib.hid (List.take_of_length_le (by omega))
      go_wp2
      go_ret
      exact ⟨ret_int (by rw [Hk.out]), rfl⟩
set_option maxHeartbeats 2000000 in
theorem sCost_any (A : Option Addr) (c B : Nat) (xs : List Int) (w : World) (hx : Rds .i64 w B A xs) (hl : xs.length ≤ 64) (hb : Byt xs) :
    Calls Try.prog 64 #[.slice A xs.length c] w fun e w' => e = .returned (.int .i64 (fcost xs)) ∧ ∃ n, w' = w.drewN n := by
  have Hx := Lib.hid hx
  have Hb := Lib.hid hb
  clear hx hb
  go_enter Try.func64, Try.ntmps64
  go_wp2
  go_loopw [3, 4] (fun s i wr => ∃ k : Nat, k ≤ xs.length ∧ i = .int .i64 k ∧ s = .int .i64 (fcost (xs.take k)) ∧ ∃ n, wr = w.drewN n) (fun _ i _ => xs.length - (intOf i).toNat)
  case atStart => exact ⟨0, Nat.zero_le _, rfl, rfl, 0, rfl⟩
  case round =>
    obtain ⟨k, hk, rfl, rfl, n0, rfl⟩ := hrel
    have r1 := fcost_bd Hb.out k
    by_cases hlt : k < xs.length
    · obtain ⟨b, off, rfl, _, hc⟩ := Hx.out.cells_ hlt
      have h1 := hc k hlt
      have hr := Hb.out k
      have HX := Lib.hid (fcost_take xs k hlt)
      clear hc
      generalize xs.getD k 0 = n at *
      generalize fcost (xs.take k) = x at *
      by_cases hm : n ≤ 256 - n
      · rw [show min n (256 - n) = n by omega] at HX
        go_wp2
        go_quiet (fail)
        go_wp2
        go_roundw
        case rel => exact ⟨k + 1, by omega, by go_num, by rw [HX.out] <;> go_num, _, rfl⟩
        case measure => simp [intOf]; omega
      · rw [show min n (256 - n) = 256 - n by omega] at HX
        go_wp2
        go_quiet (fail)
        go_wp2
        go_roundw
        case rel => exact ⟨k + 1, by omega, by go_num, by rw [HX.out] <;> go_num, _, rfl⟩
        case measure => simp [intOf]; omega
    · have Hk : Hid (xs.take k = xs) := Lib.hid (List.take_of_length_le (by omega))
      go_wp2
      go_ret
      exact ⟨ret_int (by rw [Hk.out]), _, rfl⟩
/-- The cost of a kind. -/
def cst (xs bs : List Int) (S : Nat) (k : Int) : Int := fcost (flt k xs bs S xs.length)
/-- The best of the kinds 0 to j. -/
def bst (xs bs : List Int) (S : Nat) : Nat → Int
  | 0 => 0
  | j + 1 => if cst xs bs S ((j : Int) + 1) < cst xs bs S (bst xs bs S j) then (j : Int) + 1 else bst xs bs S j
theorem bst_yes {xs bs : List Int} {S j : Nat} (h : cst xs bs S ((j : Int) + 1) < cst xs bs S (bst xs bs S j)) : bst xs bs S (j + 1) = (j : Int) + 1 := if_pos h
theorem bst_no {xs bs : List Int} {S j : Nat} (h : ¬ cst xs bs S ((j : Int) + 1) < cst xs bs S (bst xs bs S j)) : bst xs bs S (j + 1) = bst xs bs S j := if_neg h
theorem bst_range (xs bs : List Int) (S j : Nat) : 0 ≤ bst xs bs S j ∧ bst xs bs S j ≤ j := by
  induction j with
  | zero => simp [bst]
  | succ j ih => simp only [bst]; split <;> push_cast <;> omega
/-- What BestFilter answers. -/
def bfl (xs bs : List Int) (st : Int) : Int := if rok xs bs st = true then bst xs bs st.toNat 4 else -1
theorem bfl_range (xs bs : List Int) (st : Int) : -1 ≤ bfl xs bs st ∧ bfl xs bs st ≤ 4 := by
  unfold bfl
  split
  · have := bst_range xs bs st.toNat 4; omega
  · omega
theorem bfl_yes {xs bs : List Int} {S : Nat} (hok : rok xs bs (S : Int) = true) : bfl xs bs S = bst xs bs S 4 := by
  unfold bfl
  rw [if_pos hok]; rfl
theorem cst_bd {xs : List Int} (bs : List Int) (S : Nat) (k : Int) (h64 : xs.length ≤ 64) : 0 ≤ cst xs bs S k ∧ cst xs bs S k ≤ 100000 := by
  have h := fcost_bd (flt_byt k xs bs S xs.length) xs.length
  rw [List.take_of_length_le (by rw [flt_len]; omega)] at h
  unfold cst
  omega
set_option maxHeartbeats 8000000 in
theorem i_BestFilter (A A' : Option Addr) (c c' : Nat) (xs bs : List Int) (st : Int) (w : World) (hx : Rds .i64 w w.heap.size A xs) (hb : Rds .i64 w w.heap.size A' bs) (hl : xs.length ≤ 10000000) (hl' : bs.length ≤ 10000000) :
    Calls Try.prog 28 #[.slice A xs.length c, .slice A' bs.length c', .int .i64 st] w fun e w' => e = .returned (.int .i64 (bfl xs bs st)) ∧ Below w.heap.size w w' := by
  have Hx := Lib.hid hx
  have Hb := Lib.hid hb
  clear hx hb
  cases hok : rok xs bs st
  · have HR : Hid (bfl xs bs st = -1) := Lib.hid (if_neg (by rw [hok]; simp))
    go_enter Try.func28, Try.ntmps28
    go_wp2_with fail
    refine (iRows_any A A' c c' _ _ xs bs st w Hx.out Hb.out hl hl').mono ?_
    rintro e w' ⟨rfl, rfl⟩
    go_wp2
    go_ret
    exact ⟨ret_int HR.out.symm, Below.refl _ _⟩
  · obtain ⟨S, rfl, hS1, hS4, h64, hlen, hbx, hbb⟩ := rok_parts hok
    have HR := Lib.hid (bfl_yes hok)
    have HF := Lib.hid (fun k h0 h4 => fil_yes (k := k) h0 h4 hok)
    have HL := Lib.hid (fun k => flt_len k xs bs S xs.length)
    clear hlen hbx hbb
    go_enter Try.func28, Try.ntmps28
    go_wp2_with fail
    refine (iRows_any A A' c c' _ _ xs bs S w Hx.out Hb.out hl hl').mono ?_
    rintro e w' ⟨rfl, rfl⟩
    go_wp2_with fail
    refine (i_FilterRow 0 A A' c c' xs bs S w Hx.out Hb.out hl hl').mono ?_
    rintro e w1 ⟨v, rfl, hO, hB⟩
    rw [HF.out 0 (by omega) (by omega)] at hO
    obtain ⟨A1, c1, rfl, _⟩ := hO.slice
    go_wp2_with fail
    refine (iCost_any A1 c1 _ (flt 0 xs bs S xs.length) w1 hO.rds.2 (by rw [HL.out]; exact h64) (flt_byt 0 xs bs S xs.length)).mono ?_
    rintro e w' ⟨rfl, rfl⟩
    have HC : Hid (fcost (flt 0 xs bs S xs.length) = cst xs bs S (bst xs bs S 0)) := Lib.hid rfl
    have HB := Lib.hid hB
    clear hO hB hok
    go_wp2
    go_loopw [7, 8, 9] (fun b l k wr => ∃ j : Nat, j ≤ 4 ∧ k = .int .i64 ((j : Int) + 1) ∧ b = .int .i64 (bst xs bs S j) ∧ l = .int .i64 (cst xs bs S (bst xs bs S j)) ∧ Below w.heap.size w wr) (fun _ _ k _ => 5 - (intOf k).toNat)
    case atStart => exact ⟨0, by omega, rfl, rfl, by rw [HC.out], HB.out⟩
    case round =>
      obtain ⟨j, hj, rfl, rfl, rfl, hbel⟩ := hrel
      have hr := bst_range xs bs S j
      by_cases hlt : j < 4
      · have hsz := hbel.size
        have HRx := Lib.hid ((Hx.out.below hbel).more hsz)
        have HRb := Lib.hid ((Hb.out.below hbel).more hsz)
        go_wp2_with fail
        refine (i_FilterRow ((j : Int) + 1) A A' c c' xs bs S wr HRx.out HRb.out hl hl').mono ?_
        rintro e w2 ⟨v, rfl, hO, hB⟩
        rw [HF.out _ (by omega) (by omega)] at hO
        obtain ⟨A2, c2, rfl, _⟩ := hO.slice
        go_wp2_with fail
        refine (iCost_any A2 c2 _ (flt ((j : Int) + 1) xs bs S xs.length) w2 hO.rds.2 (by rw [HL.out]; exact h64) (flt_byt _ xs bs S xs.length)).mono ?_
        rintro e w' ⟨rfl, rfl⟩
        have HB2 := Lib.hid (hbel.trans (hB.mono hsz))
        have HC2 : Hid (fcost (flt ((j : Int) + 1) xs bs S xs.length) = cst xs bs S ((j : Int) + 1)) := Lib.hid rfl
        rw [HC2.out]
        have hc1 := cst_bd bs S ((j : Int) + 1) h64
        have hc2 := cst_bd bs S (bst xs bs S j) h64
        clear hO hB
        by_cases hcmp : cst xs bs S ((j : Int) + 1) < cst xs bs S (bst xs bs S j)
        · have HS := Lib.hid (bst_yes hcmp)
          go_wp2
          go_roundw
          case rel => exact ⟨j + 1, by omega, by go_num, by rw [HS.out], by rw [HS.out], HB2.out⟩
          case measure => simp [intOf]; omega
        · have HS := Lib.hid (bst_no hcmp)
          go_wp2
          go_roundw
          case rel => exact ⟨j + 1, by omega, by go_num, by rw [HS.out], by rw [HS.out], HB2.out⟩
          case measure => simp [intOf]; omega
      · have hj4 : j = 4 := by omega
        subst hj4
        go_wp2
        go_ret
        exact ⟨ret_int HR.out.symm, hbel⟩
set_option maxHeartbeats 8000000 in
theorem s_bestFilter (A A' : Option Addr) (c c' : Nat) (xs bs : List Int) (S : Nat) (w : World) (hx : Rds .i64 w w.heap.size A xs) (hb : Rds .i64 w w.heap.size A' bs) (h64 : xs.length ≤ 64) (hlen : bs.length = xs.length) (hS1 : 1 ≤ S) (hS4 : S ≤ 4) (hbx : Byt xs) (hbb : Byt bs) :
    Calls Try.prog 52 #[.slice A xs.length c, .slice A' bs.length c', .int .i64 S] w fun e w' => e = .returned (.int .i64 (bst xs bs S 4)) ∧ Below w.heap.size w w' := by
  have Hx := Lib.hid hx
  have Hb := Lib.hid hb
  have Hlen := Lib.hid hlen
  have HL := Lib.hid (fun k => flt_len k xs bs S xs.length)
  clear hx hb hlen
  go_enter Try.func52, Try.ntmps52
  go_wp2
  go_loopw [7, 8] (fun b k wr => ∃ j : Nat, j ≤ 4 ∧ k = .int .i64 ((j : Int) + 1) ∧ b = .int .i64 (bst xs bs S j) ∧ Below w.heap.size w wr) (fun _ k _ => 5 - (intOf k).toNat)
  case atStart => exact ⟨0, by omega, rfl, rfl, Below.refl _ _⟩
  case round =>
    obtain ⟨j, hj, rfl, rfl, hbel⟩ := hrel
    have hr := bst_range xs bs S j
    by_cases hlt : j < 4
    · have hsz := hbel.size
      have HRx := Lib.hid ((Hx.out.below hbel).more hsz)
      have HRb := Lib.hid ((Hb.out.below hbel).more hsz)
      go_wp2_with fail
      refine (s_filterRow ((j : Int) + 1) A A' c c' xs bs S wr HRx.out HRb.out h64 Hlen.out hS1 hS4 hbx hbb).mono ?_
      rintro e w2 ⟨v, rfl, hO, hB⟩
      obtain ⟨A2, c2, rfl, _⟩ := hO.slice
      go_wp2_with fail
      refine (sCost_any A2 c2 _ (flt ((j : Int) + 1) xs bs S xs.length) w2 hO.rds.2 (by rw [HL.out]; exact h64) (flt_byt _ xs bs S xs.length)).mono ?_
      rintro e w' ⟨rfl, n2, rfl⟩
      have hb2 : Below w.heap.size w (w2.drewN n2) := below_dn (hbel.trans (hB.mono hsz)) n2
      clear hO hB
      generalize w2.drewN n2 = w3 at *
      have hsz3 := hb2.size
      have HRx3 := Lib.hid ((Hx.out.below hb2).more hsz3)
      have HRb3 := Lib.hid ((Hb.out.below hb2).more hsz3)
      go_wp2_with fail
      refine (s_filterRow (bst xs bs S j) A A' c c' xs bs S w3 HRx3.out HRb3.out h64 Hlen.out hS1 hS4 hbx hbb).mono ?_
      rintro e w4 ⟨v, rfl, hO, hB⟩
      obtain ⟨A4, c4, rfl, _⟩ := hO.slice
      go_wp2_with fail
      refine (sCost_any A4 c4 _ (flt (bst xs bs S j) xs bs S xs.length) w4 hO.rds.2 (by rw [HL.out]; exact h64) (flt_byt _ xs bs S xs.length)).mono ?_
      rintro e w' ⟨rfl, n4, rfl⟩
      have HB2 : Hid (Below w.heap.size w (w4.drewN n4)) := Lib.hid (below_dn (hb2.trans (hB.mono hsz3)) n4)
      have HC1 : Hid (fcost (flt ((j : Int) + 1) xs bs S xs.length) = cst xs bs S ((j : Int) + 1)) := Lib.hid rfl
      have HC2 : Hid (fcost (flt (bst xs bs S j) xs bs S xs.length) = cst xs bs S (bst xs bs S j)) := Lib.hid rfl
      rw [HC1.out, HC2.out]
      have hc1 := cst_bd bs S ((j : Int) + 1) h64
      have hc2 := cst_bd bs S (bst xs bs S j) h64
      clear hO hB
      by_cases hcmp : cst xs bs S ((j : Int) + 1) < cst xs bs S (bst xs bs S j)
      · have HS := Lib.hid (bst_yes hcmp)
        go_wp2
        go_roundw
        case rel => exact ⟨j + 1, by omega, by go_num, by rw [HS.out], HB2.out⟩
        case measure => simp [intOf]; omega
      · have HS := Lib.hid (bst_no hcmp)
        go_wp2
        go_roundw
        case rel => exact ⟨j + 1, by omega, by go_num, by rw [HS.out], HB2.out⟩
        case measure => simp [intOf]; omega
    · have hj4 : j = 4 := by omega
      subst hj4
      go_wp2
      go_ret
      exact ⟨rfl, hbel⟩
end Go.Proofs.Ytolifmgkkkclkaa
