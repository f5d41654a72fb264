/- Contracts of UnfilterRow, in the program and in the model. -/
import Derived.Test.YtolifmgkkkclkaaFilterE
namespace Go.Proofs.Ytolifmgkkkclkaa
open Go.RowKit
set_option linter.unusedSimpArgs false
set_option linter.unusedVariables false

theorem byt_app {xs : List Int} (h : Byt xs) (n : Nat) : Byt (xs ++ zeros n) := by
  apply byt_of
  intro x hx
  rcases List.mem_append.1 hx with h' | h'
  · exact of_byt h x h'
  · have := List.eq_of_mem_replicate h'; omega
theorem unf_succ (k : Int) (xs bs : List Int) (s n : Nat) : unf k xs bs s (n + 1) = unf k xs bs s n ++ [(xs.getD n 0 + gs k (unf k xs bs s n) bs s n) % 256] := rfl
/-- What UnfilterRow answers. -/
def ufil (k : Int) (xs bs : List Int) (st : Int) : List Int := if 0 ≤ k ∧ k ≤ 4 ∧ rok xs bs st = true then unf k xs bs st.toNat xs.length else []
theorem ufil_len (k : Int) (xs bs : List Int) (st : Int) : (ufil k xs bs st).length ≤ 64 := by
  unfold ufil
  split
  · next h => rw [unf_len]; exact (of_decide_eq_true h.2.2).1
  · simp
theorem ufil_yes {k : Int} {xs bs : List Int} {S : Nat} (h0 : 0 ≤ k) (h4 : k ≤ 4) (hok : rok xs bs (S : Int) = true) : ufil k xs bs S = unf k xs bs S xs.length := by
  unfold ufil
  rw [if_pos ⟨h0, h4, hok⟩]; rfl
theorem ufil_nok {k : Int} {xs bs : List Int} {st : Int} (hok : rok xs bs st = false) : ufil k xs bs st = [] := if_neg (fun h => by rw [h.2.2] at hok; cases hok)
theorem ufil_nk {k : Int} {xs bs : List Int} {st : Int} (h : ¬ (0 ≤ k ∧ k ≤ 4)) : ufil k xs bs st = [] := if_neg (fun h' => h ⟨h'.1, h'.2.1⟩)
set_option maxHeartbeats 8000000 in
theorem i_UnfilterRow (k : Int) (A A' : Option Addr) (c c' : Nat) (xs bs : List Int) (st : Int) (w : World) (hx : Rds .i64 w w.heap.size A xs) (hb : Rds .i64 w w.heap.size A' bs) (hl : xs.length ≤ 10000000) (hl' : bs.length ≤ 10000000) :
    Calls Try.prog 33 #[.int .i64 k, .slice A xs.length c, .slice A' bs.length c', .int .i64 st] w (Made (ufil k xs bs st) w) := by
  have Hx := Lib.hid hx
  have Hb := Lib.hid hb
  clear hx hb
  by_cases hk : 0 ≤ k ∧ k ≤ 4
  · obtain ⟨h0, h4⟩ := hk
    cases hok : rok xs bs st
    · have HF := Lib.hid (ufil_nok (k := k) hok)
      go_enter Try.func33, Try.ntmps33
      go_wp2_with fail
      refine (pof_yes k w h0 h4).mono ?_
      rintro e w1 ⟨rfl, hB1⟩
      go_wp2_with fail
      refine (iRows_any A A' c c' _ _ xs bs st w1 (Hx.out.below hB1) (Hb.out.below hB1) hl hl').mono ?_
      rintro e w' ⟨rfl, rfl⟩
      go_wp2
      go_ret
      exact Made.nil hB1 HF.out
    · obtain ⟨S, rfl, hS1, hS4, h64, hlen, hbx, hbb⟩ := rok_parts hok
      have HF := Lib.hid (ufil_yes h0 h4 hok)
      have HP := Lib.hid (pfn_predicts h0 h4)
      have eg := pfn_enters h0 h4
      have Hbx := Lib.hid hbx
      have Hbb := Lib.hid hbb
      have hlb : bs.length ≤ xs.length := by omega
      have hlb' : xs.length ≤ bs.length := by omega
      have hmk := fun W => make_ints xs.length (by omega) W
      clear hbx hbb hlen
      go_enter Try.func33, Try.ntmps33
      go_wp2_with fail
      refine (pof_yes k w h0 h4).mono ?_
      rintro e w1 ⟨rfl, hB1⟩
      generalize pfn k = g at *
      go_wp2_with fail
      refine (iRows_any A A' c c' _ _ xs bs S w1 (Hx.out.below hB1) (Hb.out.below hB1) hl hl').mono ?_
      rintro e w' ⟨rfl, rfl⟩
      have hsz := hB1.size
      have HX1 := Lib.hid (Hx.out.below hB1)
      have HB1 := Lib.hid (Hb.out.below hB1)
      have H0 := Lib.hid (Blk.new w1 (zeros xs.length))
      go_wp2
      clear hok hmk
      go_loopw [33] (fun i wr => ∃ j : Nat, j ≤ xs.length ∧ i = .int .i64 j ∧ Blk wr w1.heap.size (unf k xs bs S j ++ zeros (xs.length - j)) ∧ Below w1.heap.size w1 wr) (fun i _ => xs.length - (intOf i).toNat)
      case atStart => exact ⟨0, Nat.zero_le _, rfl, by simpa [unf] using H0.out, (Below.refl _ _).alloc (Nat.le_refl _) _⟩
      case round =>
        obtain ⟨j, hj, rfl, hB, hbel⟩ := hrel
        by_cases hlt : j < xs.length
        · have HRx := Lib.hid (HX1.out.belowTo hbel hsz)
          have HRb := Lib.hid (HB1.out.belowTo hbel hsz)
          obtain ⟨b, off, rfl, hb1, hc⟩ := HRx.out.cells_ hlt
          have hcj := hc j hlt
          obtain ⟨ys, hys⟩ : ∃ ys, ys = unf k xs bs S j ++ zeros (xs.length - j) := ⟨_, rfl⟩
          have hyl : ys.length = xs.length := by rw [hys]; simp [zeros, unf_len]; omega
          have HGY : Hid (gs k (unf k xs bs S j) bs S j = gs k ys bs S j) := Lib.hid (gs_congr k bs hS1 (fun i hi => by rw [hys]; simp only [List.getD_eq_getElem?_getD]; rw [List.getElem?_append_left (by rw [unf_len]; exact hi)]))
          have hbY : Byt ys := by rw [hys]; exact byt_app (unf_byt k xs bs S j) _
          have hput := hB.put j ((xs.getD j 0 + gs k ys bs S j) % 256)
          rw [set_next _ _ _ _ (by omega) (unf_len k xs bs S j).symm, ← HGY.out, ← unf_succ, HGY.out, show xs.length - j - 1 = xs.length - (j + 1) by omega] at hput
          rw [← hys] at hB
          have hcw := hB.cell (i := j) (by omega)
          have hfw := hB.frozen j
          have hRy : Rds .i64 wr wr.heap.size (some ⟨w1.heap.size, 0, none⟩) ys := .inr ⟨_, 0, rfl, hB.lt, fun i hi => by rw [Nat.zero_add]; exact hB.cell hi⟩
          have cN := iNeigh_any (some ⟨w1.heap.size, 0, none⟩) A' xs.length c' ys bs S j _ _ wr hRy HRb.out (by omega) (by omega) hS1 hS4 (by omega) (by omega)
          rw [hyl] at cN
          have HcN := Lib.hid cN
          have HN := Lib.hid hput
          have HBel := Lib.hid (fun n => (below_dn hbel n).setCell (p := ⟨w1.heap.size, j, none⟩) (Nat.le_refl _) (.int .i64 ((xs.getD j 0 + gs k ys bs S j) % 256)))
          have hr := Hbx.out j
          have hgr := gs_range k hbY Hbb.out S j
          have HG : Hid (pred k (back ys S j) (bs.getD j 0) (back bs S j) = gs k ys bs S j) := Lib.hid rfl
          have HbY := Lib.hid hbY
          clear hc hB hput hbel cN hys hyl hRy hbY HGY
          generalize xs.getD j 0 = x at hcj hr HN HBel
          generalize ys.getD j 0 = z at hcw
          go_wp2_with fail
          refine HcN.out.mono ?_
          rintro e w' ⟨rfl, n, rfl⟩
          go_wp2_with fail
          refine (HP.out _ _ _ _ (back_range HbY.out S j) (Hbb.out j) (back_range Hbb.out S j)).mono ?_
          rintro e w' ⟨rfl, rfl⟩
          rw [HG.out]
          generalize gs k ys bs S j = y at *
          go_wp2_with fail
          refine (iWrap_any _ _).mono ?_
          rintro e w' ⟨rfl, rfl⟩
          go_wp2
          go_roundw
          case rel => exact ⟨j + 1, by omega, by go_num, HN.out, HBel.out n⟩
          case measure => simp [intOf]; omega
        · have hj' : j = xs.length := by omega
          have HO := Lib.hid (hB.own (Nat.le_refl _) (by simp [zeros, unf_len]; unfold maxLen; omega))
          have Hbel := Lib.hid (hB1.trans (hbel.mono hsz))
          clear hB hbel
          go_wp2
          go_ret
          have e : unf k xs bs S j ++ zeros (xs.length - j) = ufil k xs bs S := by rw [HF.out]; subst hj'; simp [zeros]
          have h := HO.out
          rw [e] at h
          have hlf : (ufil k xs bs S).length = xs.length := by rw [HF.out, unf_len]
          rw [hlf] at h
          exact ⟨_, rfl, h.base_le hsz, Hbel.out⟩
  · have hd : decide (0 ≤ k ∧ k ≤ 4) = false := decide_eq_false hk
    have HF := Lib.hid (ufil_nk (xs := xs) (bs := bs) (st := st) hk)
    clear hk
    go_enter Try.func33, Try.ntmps33
    go_wp2_with fail
    refine (pof_no k w hd).mono ?_
    rintro e w1 ⟨rfl, hB1⟩
    go_wp2
    go_ret
    exact Made.nil hB1 HF.out
set_option maxHeartbeats 8000000 in
theorem s_unfilterRow (k : Int) (A A' : Option Addr) (c c' : Nat) (xs bs : List Int) (S : Nat) (w : World) (hx : Rds .i64 w w.heap.size A xs) (hb : Rds .i64 w w.heap.size A' bs) (h64 : xs.length ≤ 64) (hlen : bs.length = xs.length) (hS1 : 1 ≤ S) (hS4 : S ≤ 4) (hbx : Byt xs) (hbb : Byt bs) :
    Calls Try.prog 58 #[.int .i64 k, .slice A xs.length c, .slice A' bs.length c', .int .i64 S] w (Made (unf k xs bs S xs.length) w) := by
  have Hx := Lib.hid hx
  have Hb := Lib.hid hb
  have Hbx := Lib.hid hbx
  have Hbb := Lib.hid hbb
  have hlb : bs.length ≤ xs.length := by omega
  have hlb' : xs.length ≤ bs.length := by omega
  have H0 := Lib.hid (Blk.new w (zeros xs.length))
  have hmk := fun W => make_ints xs.length (by omega) W
  clear hx hb hbx hbb hlen
  go_enter Try.func58, Try.ntmps58
  go_wp2
  clear hmk
  go_loopw [10] (fun i wr => ∃ j : Nat, j ≤ xs.length ∧ i = .int .i64 j ∧ Blk wr w.heap.size (unf k xs bs S j ++ zeros (xs.length - j)) ∧ Below w.heap.size w wr) (fun i _ => xs.length - (intOf i).toNat)
  case atStart => exact ⟨0, Nat.zero_le _, rfl, by simpa [unf] using H0.out, (Below.refl _ _).alloc (Nat.le_refl _) _⟩
  case round =>
    obtain ⟨j, hj, rfl, hB, hbel⟩ := hrel
    by_cases hlt : j < xs.length
    · have HRx := Lib.hid (Hx.out.below hbel)
      have HRb := Lib.hid (Hb.out.below hbel)
      obtain ⟨b, off, rfl, hb1, hc⟩ := HRx.out.cells_ hlt
      have hcj := hc j hlt
      obtain ⟨ys, hys⟩ : ∃ ys, ys = unf k xs bs S j ++ zeros (xs.length - j) := ⟨_, rfl⟩
      have hyl : ys.length = xs.length := by rw [hys]; simp [zeros, unf_len]; omega
      have HGY : Hid (gs k (unf k xs bs S j) bs S j = gs k ys bs S j) := Lib.hid (gs_congr k bs hS1 (fun i hi => by rw [hys]; simp only [List.getD_eq_getElem?_getD]; rw [List.getElem?_append_left (by rw [unf_len]; exact hi)]))
      have hbY : Byt ys := by rw [hys]; exact byt_app (unf_byt k xs bs S j) _
      have hput := hB.put j ((xs.getD j 0 + gs k ys bs S j) % 256)
      rw [set_next _ _ _ _ (by omega) (unf_len k xs bs S j).symm, ← HGY.out, ← unf_succ, HGY.out, show xs.length - j - 1 = xs.length - (j + 1) by omega] at hput
      rw [← hys] at hB
      have hcw := hB.cell (i := j) (by omega)
      have hfw := hB.frozen j
      have hRy : Rds .i64 wr wr.heap.size (some ⟨w.heap.size, 0, none⟩) ys := .inr ⟨_, 0, rfl, hB.lt, fun i hi => by rw [Nat.zero_add]; exact hB.cell hi⟩
      have cN := sGuess_any k (some ⟨w.heap.size, 0, none⟩) A' xs.length c' ys bs S j _ _ wr.drew hRy HRb.out (by omega) (by omega) hbY Hbb.out hS1 hS4 (by omega) (by omega)
      rw [hyl] at cN
      have HcN := Lib.hid cN
      have HN := Lib.hid hput
      have HBel := Lib.hid (hbel.drew.setCell (p := ⟨w.heap.size, j, none⟩) (Nat.le_refl _) (.int .i64 ((xs.getD j 0 + gs k ys bs S j) % 256)))
      have hr := Hbx.out j
      have hgr := gs_range k hbY Hbb.out S j
      clear hc hB hput hbel cN hys hyl hRy hbY HGY
      generalize xs.getD j 0 = x at hcj hr HN HBel
      generalize ys.getD j 0 = z at hcw
      generalize gs k ys bs S j = y at *
      go_wp2
      have r1 : IntKind.i64.wrap (x + y) = x + y := IntWalk.i64_in _ (by omega)
      have r2 : (x + y).tmod 256 = (x + y) % 256 := IntWalk.rem_in _ _ (by omega)
      go_region_law ((go_simp; go_at_call 65; refine HcN.out.mono ?_; rintro e w' ⟨rfl, rfl⟩))
      all_goals
        clear r1 r2
        (try go_wp2)
        go_roundw
        case rel => exact ⟨j + 1, by omega, by go_num, HN.out, HBel.out⟩
        case measure => simp [intOf]; omega
    · have hj' : j = xs.length := by omega
      have HO := Lib.hid (hB.own (Nat.le_refl _) (by simp [zeros, unf_len]; unfold maxLen; omega))
      have Hbel := Lib.hid hbel
      clear hB hbel
      go_wp2
      go_ret
      have e : unf k xs bs S j ++ zeros (xs.length - j) = unf k xs bs S xs.length := by subst hj'; simp [zeros]
      have h := HO.out
      rw [e, unf_len] at h
      exact ⟨_, rfl, h, Hbel.out⟩
end Go.Proofs.Ytolifmgkkkclkaa
