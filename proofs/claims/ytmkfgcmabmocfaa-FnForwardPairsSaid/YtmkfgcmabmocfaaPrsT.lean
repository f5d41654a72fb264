/- Contract of BackPairs in the model. -/
import Derived.Test.YtmkfgcmabmocfaaPrsS
namespace Go.Proofs.Ytmkfgcmabmocfaa
open Go.RowKit
set_option linter.unusedSimpArgs false
set_option linter.unusedVariables false
set_option maxRecDepth 20000

theorem rds_two (w : World) (a b : Int) : Rds .i64 (w.alloc (.cells #[.int .i64 a, .int .i64 b] 3)) (w.heap.size + 1) (some ⟨w.heap.size, 0, none⟩) [a, b] := .inr ⟨_, _, rfl, by omega, fun j hj => by
  have h := heap_alloc_new w (.cells #[.int .i64 a, .int .i64 b] 3)
  rcases j with _ | _ | j
  · exact cell_of_row _ _ 0 _ _ _ h
  · exact cell_of_row _ _ 1 _ _ _ h
  · simp at hj; omega⟩
set_option maxHeartbeats 16000000 in
theorem sBw_any (A : Option Addr) (c : Nat) (xs : List Int) (w : World) (h : Rds .i64 w w.heap.size A xs) (hl64 : xs.length ≤ 64) (hin : allB (-1998) 1998 xs = true) :
    Calls Try.prog 57 #[.slice A xs.length c] w (Made (bkL xs) w) := by
  have Hh := Lib.hid h
  have HIn := Lib.hid hin
  obtain ⟨C, hC⟩ : ∃ C : Nat → Int, C = chg pfF psF xs.length (apF xs) := ⟨_, rfl⟩
  have HC := Lib.hid hC
  have HI0 : Hid (Own (w.alloc (.cells #[] 3)) w.heap.size (.slice (some ⟨w.heap.size, 0, none⟩) 0 0) (fm 0 C) ∧ Below w.heap.size w (w.alloc (.cells #[] 3))) := Lib.hid ⟨own_none w, (Below.refl _ _).alloc (Nat.le_refl _) _⟩
  obtain ⟨hf, hhf⟩ : ∃ hf : Nat, hf = (xs.length + 1) / 2 := ⟨_, rfl⟩
  have HHf := Lib.hid hhf
  have r1 : ((xs.length : Int) + 1).tdiv 2 = (hf : Int) := by rw [Int.tdiv_eq_ediv_of_nonneg (by omega)]; omega
  have r2 : ((xs.length : Int) + 1) / 2 = (hf : Int) := by omega
  have r3 : IntKind.i64.wrap (hf : Int) = (hf : Int) := IntWalk.i64_in _ (by omega)
  have hfb : hf ≤ 100 := by omega
  clear h hin hC hhf
  go_enter Try.func57, Try.ntmps57
  go_wp2
  generalize w.alloc (.cells #[] 3) = u0 at *
  go_loopw [3, 5] (fun v i wr => ∃ k : Nat, hf + k ≤ xs.length + 1 ∧ i = .int .i64 (k : Int) ∧ Hid (Own wr w.heap.size v (fm (2 * k) C) ∧ Below w.heap.size w wr) ∧ Hid (k ≤ xs.length / 2)) (fun _ i _ => xs.length - (intOf i).toNat)
  case atStart => exact ⟨0, by have := HHf.out; omega, rfl, HI0, Lib.hid (Nat.zero_le _)⟩
  case round =>
    obtain ⟨k, hk, rfl, hI, hk2⟩ := hrel
    clear HI0 r1 r2
    obtain ⟨A1, c1, rfl, hc1⟩ := hI.out.1.slice
    rw [fm_len] at hI hc1 ⊢
    have HI := Lib.hid hI.out
    clear hI
    obtain ⟨g, hg⟩ : ∃ g, g = hf + k := ⟨_, rfl⟩
    have hs1 : (hf : Int) + (k : Int) = (g : Int) := by omega
    have hs3 : IntKind.i64.wrap (g : Int) = (g : Int) := IntWalk.i64_in _ (by omega)
    have hkl : 2 * k ≤ 64 := by have := hk2.out; omega
    by_cases hlt : g < xs.length
    · have hkx : k < xs.length := by omega
      have hk22 : 2 * k + 1 < xs.length := by have := HHf.out; omega
      obtain ⟨b, off, rfl, hb, hcc⟩ := Hh.out.cells_ hlt
      have hB := HI.out.2
      have c0 := (hB.cell (p := ⟨b, off + k, none⟩) hb).trans (hcc k hkx)
      have c1' := (hB.cell (p := ⟨b, off + g, none⟩) hb).trans (hcc g hlt)
      have b0 : -1998 ≤ xs.getD k 0 ∧ xs.getD k 0 ≤ 1998 := allB_get HIn.out hkx
      have b1 : -1998 ≤ xs.getD g 0 ∧ xs.getD g 0 ≤ 1998 := allB_get HIn.out hlt
      have e0 : apF xs (2 * k) = xs.getD k 0 := by unfold apF getF plc; rw [if_pos (by omega), show 2 * k / 2 = k by omega]
      have e1 : apF xs (2 * k + 1) = xs.getD g 0 := by unfold apF getF plc; rw [if_neg (by omega), ← HHf.out, show (2 * k + 1) / 2 = k by omega, ← hg]
      have d0 : C (2 * k) = pfF (xs.getD k 0) (xs.getD g 0) := by
        rw [HC.out]; unfold chg; rw [if_pos (by omega), if_pos hk22, e0, e1]
      have d1 : C (2 * k + 1) = psF (xs.getD k 0) (xs.getD g 0) := by
        rw [HC.out]; unfold chg; rw [if_neg (by omega), show 2 * k + 1 - 1 = 2 * k by omega, e0, e1]
      generalize xs.getD k 0 = y0 at *
      generalize xs.getD g 0 = y1 at *
      obtain ⟨z0, hz0⟩ : ∃ z, z = y0 + (y1 + 1) / 2 := ⟨_, rfl⟩
      obtain ⟨z1, hz1⟩ : ∃ z, z = z0 - y1 := ⟨_, rfl⟩
      have EC : Hid (fm (2 * k) C ++ [z0, z1] = fm (2 * (k + 1)) C) := Lib.hid (by
        rw [fm_next2 (2 * k) C z0 z1 (by rw [d0, hz0]; rfl) (by rw [d1, hz1, hz0]; rfl), show 2 * (k + 1) = 2 * k + 2 by omega])
      have hzb : -10000 ≤ z0 ∧ z0 ≤ 10000 := by omega
      obtain ⟨zb0, zb1⟩ := hzb
      obtain ⟨b10, b11⟩ := b1
      obtain ⟨b00, b01⟩ := b0
      have hw0 : IntKind.i64.wrap (y1 + 1) = y1 + 1 := IntWalk.i64_in _ (by omega)
      have hw1 : IntKind.i64.wrap z0 = z0 := IntWalk.i64_in _ (by omega)
      have hw2 : IntKind.i64.wrap z1 = z1 := by rw [hz1]; exact IntWalk.i64_in _ (by omega)
      have hz0' : y0 + (y1 + 1) / 2 = z0 := hz0.symm
      have hz1' : z0 - y1 = z1 := hz1.symm
      have HO := Lib.hid (HI.out.1.alloc (.cells #[.int .i64 z0, .int .i64 z1] 3))
      have HS := Lib.hid (rds_two wr z0 z1)
      have HZ : Hid (w.heap.size ≤ (wr.alloc (.cells #[.int .i64 z0, .int .i64 z1] 3)).heap.size) := Lib.hid (by have := hB.size; simp; omega)
      have HL1 : Hid ((fm (2 * k) C).length + [z0, z1].length ≤ 10000000) := Lib.hid (by rw [fm_len]; simp; omega)
      have hkI : (k : Int) < (xs.length : Int) := by omega
      have hgI : (g : Int) < (xs.length : Int) := by omega
      have Hk : Hid (k + 1 ≤ xs.length / 2 ∧ hf + (k + 1) ≤ xs.length + 1) := Lib.hid (by omega)
      have HB := Lib.hid hB
      clear hcc d0 d1 e0 e1 hz0 hz1 hB hg hc1
      go_upto_region 7 with fail
      go_quiet ((go_at_call 97; exact Calls.quiet_of_same ((sFlr_any (y1 + 1) 2 _ (by omega) (by omega) (by omega)).mono fun _ _ h => ⟨h.1, h.2.symm⟩)))
      go_wp2_with (at_builtin; refine wpList_app rfl (.tmp 35) (.tmp 40) rfl w.heap.size (.slice A1 (2 * k) c1) (fm (2 * k) C) rfl (by exact HO.out) (some ⟨wr.heap.size, 0, none⟩) 2 2 _ [z0, z1] rfl rfl (by exact HS.out) HL1.out (by exact HZ.out) ?_; intro v3 w3 hO3 hG3)
      have hN : Own w3 w.heap.size v3 (fm (2 * (k + 1)) C) := by rw [← EC.out]; exact hO3
      have hB3 : Below w.heap.size w w3 := by
        refine Below.grown (w := ((wr.drewN nq).alloc (.cells #[.int .i64 z0, .int .i64 z1] 3))) ?_ hG3 (by exact HZ.out) (fun j hj => (HO.out.lt j hj).1)
        exact (show Below w.heap.size w (wr.drewN nq) from ⟨HB.out.os, HB.out.tape, HB.out.output, HB.out.size, HB.out.block⟩).alloc (by exact HB.out.size) _
      have HN := Lib.hid (show Own w3 w.heap.size v3 (fm (2 * (k + 1)) C) ∧ Below w.heap.size w w3 from ⟨hN, hB3⟩)
      clear hO3 hG3 hN hB3 c0 c1'
      go_roundw
      case rel => exact ⟨k + 1, Hk.out.2, by go_num, HN, Lib.hid Hk.out.1⟩
      case measure => simp [intOf]; omega
    · have hcond : ¬ ((g : Int) < (xs.length : Int)) := by omega
      have HO1 := Lib.hid HI.out.1
      have HB := Lib.hid HI.out.2
      have hkk : k = xs.length / 2 := by have := hk2.out; have := HHf.out; omega
      by_cases hodd : xs.length % 2 = 1
      · have hn : xs.length = 2 * k + 1 := by omega
        have q1 : (xs.length : Int).tmod 2 = 1 := by rw [Int.tmod_eq_emod_of_nonneg (by omega)]; omega
        have q2 : (xs.length : Int) % 2 = 1 := by omega
        have hkx : k < xs.length := by omega
        obtain ⟨b, off, rfl, hb, hcc⟩ := Hh.out.cells_ hkx
        have c0 := (HB.out.cell (p := ⟨b, off + k, none⟩) hb).trans (hcc k hkx)
        have hs4 : (hf : Int) - 1 = (k : Int) := by have := HHf.out; omega
        have hs5 : IntKind.i64.wrap (k : Int) = (k : Int) := IntWalk.i64_in _ (by omega)
        have hkI : (k : Int) < (xs.length : Int) := by omega
        have HR : Hid (fm (2 * k) C ++ [xs.getD k 0] = bkL xs) := Lib.hid (by rw [HC.out]; exact bk_odd xs k hn)
        generalize xs.getD k 0 = y at *
        have HOa := Lib.hid (HO1.out.alloc (.cells #[.int .i64 y] 3))
        have HS := Lib.hid (rds_one wr y)
        have HZ : Hid (w.heap.size ≤ (wr.alloc (.cells #[.int .i64 y] 3)).heap.size) := Lib.hid (by have := HB.out.size; simp; omega)
        clear hcc hn hkk hg hk hc1 hodd HI
        go_wp2_with (at_builtin; refine wpList_app rfl (.tmp 46) (.tmp 52) rfl w.heap.size (.slice A1 (2 * k) c1) (fm (2 * k) C) rfl HOa.out (some ⟨wr.heap.size, 0, none⟩) 1 1 _ [y] rfl rfl HS.out (by rw [fm_len]; simp; omega) HZ.out ?_; intro v3 w3 hO3 hG3)
        have HE := Lib.hid (show Own w3 w.heap.size v3 (bkL xs) by rw [← HR.out]; exact hO3)
        have HF := Lib.hid ((HB.out.alloc HB.out.size _).grown hG3 HZ.out (fun j hj => (HOa.out.lt j hj).1))
        clear hO3 hG3
        (try go_wp2)
        go_ret
        exact ⟨_, rfl, HE.out, HF.out⟩
      · have hn : xs.length = 2 * k := by omega
        have q1 : ¬ (xs.length : Int).tmod 2 = 1 := by rw [Int.tmod_eq_emod_of_nonneg (by omega)]; omega
        have q2 : ¬ (xs.length : Int) % 2 = 1 := by omega
        have HE := Lib.hid (show Own wr w.heap.size (.slice A1 (2 * k) c1) (bkL xs) by rw [← bk_even xs k hn, ← HC.out]; exact HO1.out)
        clear hn hkk hg hk hc1 hodd HI
        go_wp2
        go_ret
        exact ⟨_, rfl, HE.out, HB.out⟩
theorem MadeBkS_no {xs : List Int} {w w' : World} (h : Below w.heap.size w w') : ∃ v, (Ending.returned (.tuple #[.slice none 0 0, .bool false]) = .returned (.tuple #[v, .bool false])) ∧ Own w' w.heap.size v (cond false xs []) ∧ Below w.heap.size w w' := ⟨_, rfl, World.ownsRow_nil _ _ _ _, h⟩
set_option maxHeartbeats 4000000 in
theorem s_BackPairs (A : Option Addr) (c : Nat) (xs : List Int) (w : World) (h : Rds .i64 w w.heap.size A xs) (hl : xs.length ≤ 2000000) :
    Calls Try.prog 21 #[.slice A xs.length c] w fun e w' => ∃ v, e = .returned (.tuple #[v, .bool (bkOk xs)]) ∧ Own w' w.heap.size v (cond (bkOk xs) (bkL xs) []) ∧ Below w.heap.size w w' := by
  have Hh := Lib.hid h
  clear h
  have HV : Hid (bkOk xs = (decide ((xs.length : Int) ≤ 64) && allB (-1998) 1998 xs && prOk (bkL xs))) := Lib.hid rfl
  by_cases h64 : (xs.length : Int) ≤ 64
  · have hng : ¬ (xs.length : Int) > 64 := by omega
    cases ha : allB (-1998) 1998 xs
    · have HF : Hid (bkOk xs = false) := Lib.hid (by rw [HV.out, ha]; simp)
      have Ha := Lib.hid ha
      clear ha
      rw [HF.out]
      go_enter Try.func21, Try.ntmps21
      go_wp2_with fail
      refine (sAllIn_any A c _ xs (-1998) 1998 w Hh.out (by omega)).mono ?_
      rintro e w' ⟨rfl, rfl⟩
      rw [Ha.out]
      go_wp2
      go_ret2
      exact MadeBkS_no (xs := bkL xs) (Below.refl _ _)
    · have Ha := Lib.hid ha
      have hl64 : xs.length ≤ 64 := by omega
      have HB := Lib.hid (sBw_any A c xs w Hh.out hl64 ha)
      have HF : Hid (bkOk xs = prOk (bkL xs)) := Lib.hid (by rw [HV.out, ha, decide_eq_true h64]; rfl)
      clear ha
      rw [HF.out]
      go_enter Try.func21, Try.ntmps21
      go_wp2_with fail
      refine (sAllIn_any A c _ xs (-1998) 1998 w Hh.out (by omega)).mono ?_
      rintro e w' ⟨rfl, rfl⟩
      rw [Ha.out]
      go_wp2_with fail
      refine HB.out.mono ?_
      rintro e w1 ⟨v1, rfl, hO1, hB1⟩
      obtain ⟨A1, c1, rfl, _⟩ := hO1.slice
      have HO1 := Lib.hid hO1
      have HB1 := Lib.hid hB1
      have hbl : (bkL xs).length ≤ 64 := by rw [bkL_len]; exact hl64
      clear hO1 hB1
      go_wp2_with fail
      refine (sPrOk_any A1 c1 _ (bkL xs) w1 HO1.out.rds.2 (by omega)).mono ?_
      rintro e w' ⟨rfl, rfl⟩
      cases hp : prOk (bkL xs)
      · have Hp := Lib.hid hp
        clear hp
        go_wp2
        go_ret2
        rw [Hp.out]
        exact MadeBkS_no (xs := bkL xs) HB1.out
      · have Hp := Lib.hid hp
        clear hp
        go_wp2
        go_ret2
        rw [Hp.out]
        exact ⟨_, rfl, HO1.out, HB1.out⟩
  · have hng : (xs.length : Int) > 64 := by omega
    have HF : Hid (bkOk xs = false) := Lib.hid (by rw [HV.out, decide_eq_false h64]; rfl)
    rw [HF.out]
    go_enter Try.func21, Try.ntmps21
    go_wp2
    go_ret2
    exact MadeBkS_no (xs := bkL xs) (Below.refl _ _)
end Go.Proofs.Ytmkfgcmabmocfaa
