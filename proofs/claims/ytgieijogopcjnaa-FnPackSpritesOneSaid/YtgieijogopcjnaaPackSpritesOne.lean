/- Whatever the code: the packing of drawn sprites is what the model tells; the first of them alone lies in the corner. -/
import Derived.Test.YtgieijogopcjnaaRows
import Derived.WalkKit
import Derived.ProofKit
import Derived.OpenShut
import Derived.ShutString
import Derived.ChangeOld
import Derived.Below
import Derived.Test.YtgieijogopcjnaaPckU
import Derived.Test.YtgieijogopcjnaaDrawSpr
import Derived.Test.YtgieijogopcjnaaEqBx
import Derived.BigQuiet
import Derived.Deep.RegionHeld3
namespace Go.Proofs.Ytgieijogopcjnaa.fnPackSpritesOne
open Go.ChangeShapes Go.WideShapes Go.ChangeAt Go.RowKit
open Go.ChangeMaps (open_string shut_string)
set_option linter.unusedVariables false

theorem rds_call {u u' : World} {A : Option Addr} {xs : List Int} (h : Rds .i64 u u.heap.size A xs) (hb : Below u.heap.size u u') : Rds .i64 u' u'.heap.size A xs := (h.below hb).more hb.size
theorem rds_dn {u : World} {A : Option Addr} {xs : List Int} (h : Rds .i64 u u.heap.size A xs) (m : Nat) : Rds .i64 (u.drewN m) (u.drewN m).heap.size A xs := h.keep (fun _ _ => rfl)
theorem quad_cells (w : World) (a b c d : Int) {g : Nat} (h : w.heap[g]? = some (.cells #[.int .i64 a, .int .i64 b, .int .i64 c, .int .i64 d] 29 (0, 0))) : Rds .i64 w w.heap.size (some ⟨g, 0, none⟩) [a, b, c, d] := by
  refine .inr ⟨g, 0, rfl, heap_lt h, fun j hj => ?_⟩
  rw [cell_of_row _ _ _ _ _ _ h, Nat.zero_add]
  rcases j with _ | _ | _ | _ | j
  · rfl
  · rfl
  · rfl
  · rfl
  · simp at hj; omega
theorem one_ok {W : Int} {n : Nat} {xs : List Int} (h : spOk W n xs = true) (hn : 0 < n) : spOk W 1 (xs.take 2) = true := by
  obtain ⟨h1, h2, h3⟩ := spOk_of h
  have h4 := okSs_get h3 0 hn
  unfold spOk okSs okSs
  rw [decide_eq_true h1, Bool.true_and, Bool.true_and]
  rw [decide_eq_true (show ((1 : Nat) : Int) ≤ 12 by decide), Bool.true_and]
  unfold okS at h4 ⊢
  have e : ∀ i, i < 2 → (xs.take 2).getD i 0 = xs.getD i 0 := fun i hi => by
    rw [List.getD_eq_getElem?_getD, List.getD_eq_getElem?_getD, List.getElem?_take, if_pos hi]
  rw [show (xs.take 2).getD (0 * 2) 0 = xs.getD (0 * 2) 0 from e 0 (by omega), show (xs.take 2).getD (0 * 2 + 1) 0 = xs.getD (0 * 2 + 1) 0 from e 1 (by omega)]
  exact h4
theorem one_law {W : Int} {n : Nat} {xs : List Int} (h : spOk W n xs = true) (hn : 0 < n) : pkH W 1 (xs.take 2) = hgt xs 0 ∧ pkN W 1 (xs.take 2) = 1 ∧ pkL W 1 (xs.take 2) = [0, 0, wid xs 0, hgt xs 0] := by
  have h1 := one_ok h hn
  have e : ∀ i, i < 2 → (xs.take 2).getD i 0 = xs.getD i 0 := fun i hi => by
    rw [List.getD_eq_getElem?_getD, List.getD_eq_getElem?_getD, List.getElem?_take, if_pos hi]
  have ew : wid (xs.take 2) 0 = wid xs 0 := e 0 (by omega)
  have eh : hgt (xs.take 2) 0 = hgt xs 0 := e 1 (by omega)
  have hb := (okSs_wh (spOk_of h1).2.2 (q := 0) (by omega)).1
  have p := pk_one W (xs.take 2) hb.2
  unfold pkH pkN pkL
  rw [h1]
  show (pkAt W (xs.take 2) 1 1).h = _ ∧ 1 = 1 ∧ (pkAt W (xs.take 2) 1 1).out = _
  rw [p.1, p.2, ew, eh]
  exact ⟨rfl, rfl, rfl⟩
set_option maxHeartbeats 32000000 in
theorem walk (w : World) (a0 : Option Addr) (cap0 : Nat) (z0 : List Int) (hc0 : z0.length ≤ cap0) (w0 : Rdw .u8 w w.heap.size a0 z0) :
    Calls Try.prog 8 #[.slice a0 z0.length cap0] w fun e w' => e = .returned (.bool true) ∧ Below w.heap.size w w' := by
  have hm := w0.2.1
  unfold maxLen at hm
  by_cases hlen : 1048576 < z0.length
  · go_enter Try.func8, Try.ntmps8
    go_wp2
    go_ret
    exact ⟨rfl, Below.refl _ _⟩
  · have HD := Lib.hid (drawPck_any a0 cap0 z0 w hc0 w0)
    clear w0 hc0
    go_enter Try.func8, Try.ntmps8
    go_wp2_with fail
    refine HD.out.mono ?_
    rintro e w1 ⟨A1, n, c1, xs, W, rfl, ⟨hn13, hnc, hxl⟩, ⟨hW0, hW1⟩, hr1, hb1⟩
    have HXL := Lib.hid hxl
    obtain ⟨H, hH⟩ : ∃ H, H = pkH W n xs := ⟨_, rfl⟩
    obtain ⟨N, hN⟩ : ∃ N, N = pkN W n xs := ⟨_, rfl⟩
    obtain ⟨L, hL⟩ : ∃ L, L = pkL W n xs := ⟨_, rfl⟩
    have hlen := pk_len W n xs
    rw [← hN, ← hL] at hlen
    have HLen := Lib.hid hlen
    have hN1 : N ≤ 1000000 := hlen.1
    have HI : Hid (∀ u, Rds .i64 u u.heap.size A1 xs → Calls Try.prog 15 #[.slice A1 n c1, .int .i64 W] u fun e w' => ∃ v, e = .returned (.tuple #[v, .int .i64 H]) ∧ OwnT 29 4 w' u.heap.size v N L ∧ Below u.heap.size u w') := Lib.hid (fun u h => by rw [hH, hN, hL]; exact i_PackSprites A1 n c1 W xs u HXL.out h (by omega))
    have HS : Hid (∀ u, Rds .i64 u u.heap.size A1 xs → Calls Try.prog 13 #[.slice A1 n c1, .int .i64 W] u fun e w' => ∃ v, e = .returned (.tuple #[v, .int .i64 H]) ∧ OwnT 29 4 w' u.heap.size v N L ∧ Below u.heap.size u w') := Lib.hid (fun u h => by rw [hH, hN, hL]; exact s_PackSprites A1 n c1 W xs u HXL.out h (by omega))
    have HR1 := Lib.hid hr1
    have HB1 := Lib.hid hb1
    have HH := Lib.hid hH
    have HNn := Lib.hid hN
    have HLl := Lib.hid hL
    clear hr1 hb1 hH hN hL hxl hlen
    go_wp2_with fail
    refine (HI.out w1 HR1.out).mono ?_
    rintro e w2 ⟨v2, rfl, hO2, hB2⟩
    obtain ⟨A2, c2, rfl, hc2⟩ := hO2.slice
    have HR2 := Lib.hid (rds_call HR1.out hB2)
    have HP2 := Lib.hid hO2.rds
    have HB2 := Lib.hid (HB1.out.trans (hB2.mono HB1.out.size))
    clear hO2 hB2 HR1 HB1
    go_wp2_with fail
    refine (HS.out w2 HR2.out).mono ?_
    rintro e w3 ⟨v3, rfl, hO3, hB3⟩
    obtain ⟨A3, c3, rfl, hc3⟩ := hO3.slice
    have HR3 := Lib.hid (rds_call HR2.out hB3)
    have HP3 := Lib.hid (rds_call HP2.out hB3)
    have HW3 := Lib.hid hO3.rds
    have HB3 := Lib.hid (HB2.out.trans (hB3.mono HB2.out.size))
    clear hO3 hB3 HR2 HP2 HB2 HS
    have HEq : Hid (∀ u, Rds .i64 u u.heap.size A2 L → Rds .i64 u u.heap.size A3 L → Calls Try.prog 22 #[.slice A2 N c2, .slice A3 N c3] u fun e w' => e = .returned (.bool true) ∧ ∃ m, w' = u.drewN m) := Lib.hid (fun u h h' => equalBoxes_same A2 A3 N c2 c3 L u.heap.size u.heap.size u (by have := HLen.out.2; omega) h h' (by omega))
    go_wp2_with fail
    refine (HEq.out w3 HP3.out HW3.out).mono ?_
    rintro e w4 ⟨rfl, m4, hm4⟩
    have HR4 : Hid (Rds .i64 w4 w4.heap.size A1 xs) := Lib.hid (by rw [hm4]; exact rds_dn HR3.out m4)
    have HP4 : Hid (Rds .i64 w4 w4.heap.size A2 L) := Lib.hid (by rw [hm4]; exact rds_dn HP3.out m4)
    have HW4 : Hid (Rds .i64 w4 w4.heap.size A3 L) := Lib.hid (by rw [hm4]; exact rds_dn HW3.out m4)
    have HB4 : Hid (Below w.heap.size w w4) := Lib.hid (by rw [hm4]; exact dnP HB3.out m4)
    clear hm4 HR3 HP3 HW3 HB3
    by_cases hH0 : H < 0
    · have hd : decide (H < 0) = true := decide_eq_true hH0
      go_wp2_with fail
      refine (HEq.out w4 HP4.out HW4.out).mono ?_
      rintro e w5 ⟨rfl, m5, hm5⟩
      have HB5 : Hid (Below w.heap.size w w5) := Lib.hid (by rw [hm5]; exact dnP HB4.out m5)
      clear hm5
      go_wp2
      go_ret
      exact ⟨by simp, HB5.out⟩
    · have hd : decide (H < 0) = false := decide_eq_false hH0
      have hok : spOk W n xs = true := by
        cases h : spOk W n xs
        · have := HH.out; unfold pkH at this; rw [h] at this; exact absurd (show H < 0 by rw [this]; show (-1 : Int) < 0; decide) hH0
        · rfl
      obtain ⟨l1, l2, l3, l4, l5⟩ := pk_law hok
      have eH : H = (pkAt W xs n n).h := by rw [HH.out]; unfold pkH; rw [hok]; rfl
      have eN : N = n := by rw [HNn.out]; unfold pkN; rw [hok]; rfl
      have eL : L = (pkAt W xs n n).out := by rw [HLl.out]; unfold pkL; rw [hok]; rfl
      rw [← eL] at l1 l2
      rw [← eH] at l2 l3 l4 l5
      have HOk := Lib.hid hok
      have HWn : Hid ((1 ≤ W ∧ W ≤ 64) ∧ n ≤ 12) := Lib.hid ⟨(spOk_of hok).1, (spOk_of hok).2.1⟩
      have HL1 := Lib.hid l1
      have HL2 := Lib.hid l2
      have HL4 := Lib.hid l4
      have HL5 := Lib.hid l5
      subst eN
      clear l1 l2 l3 l4 l5 eH eL hok HH HNn HLl
      by_cases hn0 : N = 0
      · have he : ((N : Int) == 0) = true := by rw [hn0]; rfl
        clear hn0
        go_wp2_with fail
        refine (HEq.out w4 HP4.out HW4.out).mono ?_
        rintro e w5 ⟨rfl, m5, hm5⟩
        have HB5 : Hid (Below w.heap.size w w5) := Lib.hid (by rw [hm5]; exact dnP HB4.out m5)
        clear hm5
        go_wp2
        go_ret
        exact ⟨by simp, HB5.out⟩
      · have he : ((N : Int) == 0) = false := beq_eq_false_iff_ne.2 (by omega)
        have h1 := one_law HOk.out (show 0 < N by omega)
        have HJ : Hid (∀ u, Rds .i64 u u.heap.size A1 xs → Calls Try.prog 15 #[.slice A1 1 c1, .int .i64 W] u fun e w' => ∃ v, e = .returned (.tuple #[v, .int .i64 (hgt xs 0)]) ∧ OwnT 29 4 w' u.heap.size v 1 [0, 0, wid xs 0, hgt xs 0] ∧ Below u.heap.size u w') := Lib.hid (fun u h => by
          have := i_PackSprites A1 1 c1 W (xs.take 2) u (by have := HXL.out; rw [List.length_take]; omega) (Rds.take h 2) (by omega)
          unfold Packed at this
          rw [h1.1, h1.2.1, h1.2.2] at this
          exact this)
        obtain ⟨a, ha⟩ : ∃ a, a = wid xs 0 := ⟨_, rfl⟩
        obtain ⟨b, hb⟩ : ∃ b, b = hgt xs 0 := ⟨_, rfl⟩
        obtain ⟨bA, oA, rfl, hbA, hcA⟩ := HR4.out.cells_ (show 0 * 2 + 1 < xs.length by have := HXL.out; omega)
        have k0 : w4.cell? ⟨bA, oA, none⟩ = some (.int .i64 a) := by rw [ha]; exact hcA 0 (by have := HXL.out; omega)
        have k1 : w4.cell? ⟨bA, oA + 1, none⟩ = some (.int .i64 b) := by rw [hb]; exact hcA 1 (by have := HXL.out; omega)
        rw [← ha, ← hb] at HJ
        have hnI : (0 : Int) < (N : Int) := by omega
        have hnP : 0 < N := by omega
        have hc1 : (1 : Int) ≤ (c1 : Int) := by omega
        have K0 := Lib.hid k0
        have K1 := Lib.hid k1
        clear hcA ha hb h1 k0 k1
        go_wp2_with fail
        refine (HJ.out w4 HR4.out).mono ?_
        rintro e w5 ⟨v5, rfl, hO5, hB5⟩
        obtain ⟨A5, c5, rfl, hc5⟩ := hO5.slice
        have HP5 := Lib.hid hO5.rds
        have k0 := (hB5.cell (p := ⟨bA, oA, none⟩) hbA).trans K0.out
        have k1 := (hB5.cell (p := ⟨bA, oA + 1, none⟩) hbA).trans K1.out
        have HB5 := Lib.hid (HB4.out.trans (hB5.mono HB4.out.size))
        have hbA5 := Lib.hid (show bA < w5.heap.size by have := hB5.size; omega)
        clear hO5 hB5 HR4 HP4 HW4 HB4 HEq HI HJ
        have eb : (b == b) = true := beq_self_eq_true b
        go_upto_region 9 with fail
        refine wp_region_held_drew (S := (fun w' => w'.cell? ⟨bA, oA, none⟩ = some (.int .i64 a) ∧ w'.cell? ⟨bA, oA + 1, none⟩ = some (.int .i64 b))) (by kernel_rfl) (by exact ⟨k0, k1⟩) (fun hHeld => ?_)
        refine' wpAnyH_take (i := 0) (oi := _) (v := _) ?hi1 (by kernel_rfl) (by kernel_rfl) (by kernel_rfl) ?hq1 (Or.inl ⟨?hw1, ?hy1⟩) (by assumption) ?rest1
        case hi1 => (simp only [List.getElem?_toArray, List.getElem?_cons_succ, List.getElem?_cons_zero]; rfl)
        case hq1 => exact fun _ _ _ h => h
        case hw1 => rfl
        case hy1 => (intro wq hSw; (try dsimp only at hSw); go_simp; (try with_reducible rfl))
        (try simp only [Act.put, List.setIfInBounds_toArray, List.set_cons_zero, List.set_cons_succ])
        refine' wpAnyH_take (i := 1) (oi := _) (v := _) ?hi2 (by kernel_rfl) (by kernel_rfl) (by kernel_rfl) ?hq2 (Or.inl ⟨?hw2, ?hy2⟩) (by assumption) ?rest2
        case hi2 => (simp only [List.getElem?_toArray, List.getElem?_cons_succ, List.getElem?_cons_zero]; rfl)
        case hq2 => exact fun _ _ _ h => h
        case hw2 => rfl
        case hy2 => (intro wq hSw; (try dsimp only at hSw); go_simp; (try with_reducible rfl))
        (try simp only [Act.put, List.setIfInBounds_toArray, List.set_cons_zero, List.set_cons_succ])
        refine' wpAnyH_take (i := 2) (oi := _) (v := _) ?hi3 (by kernel_rfl) (by kernel_rfl) (by kernel_rfl) ?hq3 (Or.inl ⟨?hw3, ?hy3⟩) (by assumption) ?rest3
        case hi3 => (simp only [List.getElem?_toArray, List.getElem?_cons_succ, List.getElem?_cons_zero]; rfl)
        case hq3 => exact fun _ _ _ h => h
        case hw3 => rfl
        case hy3 => (intro wq hSw; (try dsimp only at hSw); go_simp; (try with_reducible rfl))
        (try simp only [Act.put, List.setIfInBounds_toArray, List.set_cons_zero, List.set_cons_succ])
        refine' wpAnyH_take (i := 3) (oi := _) (v := _) ?hi4 (by kernel_rfl) (by kernel_rfl) (by kernel_rfl) ?hq4 (Or.inl ⟨?hw4, ?hy4⟩) (by assumption) ?rest4
        case hi4 => (simp only [List.getElem?_toArray, List.getElem?_cons_succ, List.getElem?_cons_zero]; rfl)
        case hq4 => exact fun _ _ _ h => h
        case hw4 => rfl
        case hy4 => (intro wq hSw; (try dsimp only at hSw); go_simp; (try with_reducible rfl))
        (try simp only [Act.put, List.setIfInBounds_toArray, List.set_cons_zero, List.set_cons_succ])
        refine' wpAnyH_take (i := 4) (oi := _) (v := _) ?hi5 (by kernel_rfl) (by kernel_rfl) (by kernel_rfl) ?hq5 (Or.inl ⟨?hw5, ?hy5⟩) (by assumption) ?rest5
        case hi5 => (simp only [List.getElem?_toArray, List.getElem?_cons_succ, List.getElem?_cons_zero]; rfl)
        case hq5 => exact fun _ _ _ h => h
        case hw5 => rfl
        case hy5 => (intro wq hSw; (try dsimp only at hSw); go_simp; (try with_reducible rfl))
        (try simp only [Act.put, List.setIfInBounds_toArray, List.set_cons_zero, List.set_cons_succ])
        refine' wpAnyH_take (i := 5) (oi := _) (v := _) ?hi6 (by kernel_rfl) (by kernel_rfl) (by kernel_rfl) ?hq6 (Or.inl ⟨?hw6, ?hy6⟩) (by assumption) ?rest6
        case hi6 => (simp only [List.getElem?_toArray, List.getElem?_cons_succ, List.getElem?_cons_zero]; rfl)
        case hq6 => exact fun _ _ _ h => h
        case hw6 => rfl
        case hy6 => (intro wq hSw; (try dsimp only at hSw); go_simp; (try with_reducible rfl))
        (try simp only [Act.put, List.setIfInBounds_toArray, List.set_cons_zero, List.set_cons_succ])
        refine' wpAnyH_take (i := 6) (oi := _) (v := _) ?hi7 (by kernel_rfl) (by kernel_rfl) (by kernel_rfl) ?hq7 (Or.inl ⟨?hw7, ?hy7⟩) (by assumption) ?rest7
        case hi7 => (simp only [List.getElem?_toArray, List.getElem?_cons_succ, List.getElem?_cons_zero]; rfl)
        case hq7 => exact fun _ _ _ h => h
        case hw7 => rfl
        case hy7 => (intro wq hSw; (try dsimp only at hSw); go_simp; (try with_reducible rfl))
        (try simp only [Act.put, List.setIfInBounds_toArray, List.set_cons_zero, List.set_cons_succ])
        refine' wpAnyH_take (i := 7) (oi := _) (v := _) ?hi8 (by kernel_rfl) (by kernel_rfl) (by kernel_rfl) ?hq8 (Or.inl ⟨?hw8, ?hy8⟩) (by assumption) ?rest8
        case hi8 => (simp only [List.getElem?_toArray, List.getElem?_cons_succ, List.getElem?_cons_zero]; rfl)
        case hq8 => exact fun _ _ _ h => h
        case hw8 => rfl
        case hy8 => (intro wq hSw; (try dsimp only at hSw); go_simp; (try with_reducible rfl))
        (try simp only [Act.put, List.setIfInBounds_toArray, List.set_cons_zero, List.set_cons_succ])
        refine' wpAnyH_take (i := 8) (oi := _) (v := _) ?hi9 (by kernel_rfl) (by kernel_rfl) (by kernel_rfl) ?hq9 (Or.inl ⟨?hw9, ?hy9⟩) (by assumption) ?rest9
        case hi9 => (simp only [List.getElem?_toArray, List.getElem?_cons_succ, List.getElem?_cons_zero]; rfl)
        case hq9 => exact fun _ _ _ h => h
        case hw9 => rfl
        case hy9 => (intro wq hSw; (try dsimp only at hSw); go_simp; (try with_reducible rfl))
        (try simp only [Act.put, List.setIfInBounds_toArray, List.set_cons_zero, List.set_cons_succ])
        refine' wpAnyH_take (i := 9) (oi := _) (v := _) ?hi10 (by kernel_rfl) (by kernel_rfl) (by kernel_rfl) ?hq10 (Or.inl ⟨?hw10, ?hy10⟩) (by assumption) ?rest10
        case hi10 => (simp only [List.getElem?_toArray, List.getElem?_cons_succ, List.getElem?_cons_zero]; rfl)
        case hq10 => exact fun _ _ _ h => h
        case hw10 => rfl
        case hy10 => (intro wq hSw; (try dsimp only at hSw); go_simp; (try with_reducible rfl))
        (try simp only [Act.put, List.setIfInBounds_toArray, List.set_cons_zero, List.set_cons_succ])
        refine' wpAnyH_take (i := 10) (oi := _) (v := _) ?hi11 (by kernel_rfl) (by kernel_rfl) (by kernel_rfl) ?hq11 (Or.inl ⟨?hw11, ?hy11⟩) (by assumption) ?rest11
        case hi11 => (simp only [List.getElem?_toArray, List.getElem?_cons_succ, List.getElem?_cons_zero]; rfl)
        case hq11 => exact fun _ _ _ h => h
        case hw11 => rfl
        case hy11 => (intro wq hSw; (try dsimp only at hSw); go_simp; (try with_reducible rfl))
        (try simp only [Act.put, List.setIfInBounds_toArray, List.set_cons_zero, List.set_cons_succ])
        refine' wpAnyH_take (i := 11) (oi := _) (v := _) ?hi12 (by kernel_rfl) (by kernel_rfl) (by kernel_rfl) ?hq12 (Or.inl ⟨?hw12, ?hy12⟩) (by assumption) ?rest12
        case hi12 => (simp only [List.getElem?_toArray, List.getElem?_cons_succ, List.getElem?_cons_zero]; rfl)
        case hq12 => exact fun _ _ _ h => h
        case hw12 => rfl
        case hy12 => (intro wq hSw; (try dsimp only at hSw); go_simp; (try with_reducible rfl))
        (try simp only [Act.put, List.setIfInBounds_toArray, List.set_cons_zero, List.set_cons_succ])
        refine' wpAnyH_take (i := 12) (oi := _) (v := _) ?hi13 (by kernel_rfl) (by kernel_rfl) (by kernel_rfl) ?hq13 (Or.inl ⟨?hw13, ?hy13⟩) (by assumption) ?rest13
        case hi13 => (simp only [List.getElem?_toArray, List.getElem?_cons_succ, List.getElem?_cons_zero]; rfl)
        case hq13 => exact fun _ _ _ h => h
        case hw13 => rfl
        case hy13 => (intro wq hSw; (try dsimp only at hSw); go_simp; (try with_reducible rfl))
        (try simp only [Act.put, List.setIfInBounds_toArray, List.set_cons_zero, List.set_cons_succ])
        refine' wpAnyH_take (i := 13) (oi := _) (v := _) ?hi14 (by kernel_rfl) (by kernel_rfl) (by kernel_rfl) ?hq14 (Or.inl ⟨?hw14, ?hy14⟩) (by assumption) ?rest14
        case hi14 => (simp only [List.getElem?_toArray, List.getElem?_cons_succ, List.getElem?_cons_zero]; rfl)
        case hq14 => exact fun _ _ _ h => h
        case hw14 => rfl
        case hy14 => (intro wq hSw; (try dsimp only at hSw); go_simp; (try with_reducible rfl))
        (try simp only [Act.put, List.setIfInBounds_toArray, List.set_cons_zero, List.set_cons_succ])
        refine' wpAnyH_take (i := 14) (oi := _) (v := _) ?hi15 (by kernel_rfl) (by kernel_rfl) (by kernel_rfl) ?hq15 (Or.inl ⟨?hw15, ?hy15⟩) (by assumption) ?rest15
        case hi15 => (simp only [List.getElem?_toArray, List.getElem?_cons_succ, List.getElem?_cons_zero]; rfl)
        case hq15 => exact fun _ _ _ h => h
        case hw15 => rfl
        case hy15 => (intro wq hSw; (try dsimp only at hSw); go_simp; (try with_reducible rfl))
        (try simp only [Act.put, List.setIfInBounds_toArray, List.set_cons_zero, List.set_cons_succ])
        refine' wpAnyH_take (i := 15) (oi := _) (v := _) ?hi16 (by kernel_rfl) (by kernel_rfl) (by kernel_rfl) ?hq16 (Or.inl ⟨?hw16, ?hy16⟩) (by assumption) ?rest16
        case hi16 => (simp only [List.getElem?_toArray, List.getElem?_cons_succ, List.getElem?_cons_zero]; rfl)
        case hq16 => exact fun _ _ _ h => h
        case hw16 => rfl
        case hy16 => (intro wq hSw; (try dsimp only at hSw); go_simp; (try with_reducible rfl))
        (try simp only [Act.put, List.setIfInBounds_toArray, List.set_cons_zero, List.set_cons_succ])
        refine' wpAnyH_take (i := 16) (oi := _) (v := _) ?hi17 (by kernel_rfl) (by kernel_rfl) (by kernel_rfl) ?hq17 (Or.inl ⟨?hw17, ?hy17⟩) (by assumption) ?rest17
        case hi17 => (simp only [List.getElem?_toArray, List.getElem?_cons_succ, List.getElem?_cons_zero]; rfl)
        case hq17 => exact fun _ _ _ h => h
        case hw17 => rfl
        case hy17 => (intro wq hSw; (try dsimp only at hSw); go_simp; (try with_reducible rfl))
        (try simp only [Act.put, List.setIfInBounds_toArray, List.set_cons_zero, List.set_cons_succ])
        refine wpAnyH_ready (rs := [17]) (by kernel_rfl) (by simp) ?_
        refine' AllReadyH.cons (o := _) ?hi18 (fun K hK => ?rest18) AllReadyH.nil
        case hi18 => (simp only [List.getElem?_toArray, List.getElem?_cons_succ, List.getElem?_cons_zero]; rfl)
        go_simp
        have HBl := Lib.hid (HB5.out.trans ((((Below.refl _ _).alloc (Nat.le_refl _) (.cells #[.int .i64 0, .int .i64 0, .int .i64 a, .int .i64 b] 29)).drew).mono HB5.out.size))
        have HRl := Lib.hid (quad_cells ((w5.alloc (.cells #[.int .i64 0, .int .i64 0, .int .i64 a, .int .i64 b] 29)).drew) 0 0 a b (heap_alloc_new w5 _))
        have HPl := Lib.hid (rds_call HP5.out (((Below.refl _ _).alloc (Nat.le_refl _) (.cells #[.int .i64 0, .int .i64 0, .int .i64 a, .int .i64 b] 29)).drew))
        have l0 := ((((Below.refl _ _).alloc (Nat.le_refl _) (.cells #[.int .i64 0, .int .i64 0, .int .i64 a, .int .i64 b] 29)).drew).cell (p := ⟨bA, oA, none⟩) hbA5.out).trans k0
        have l1 := ((((Below.refl _ _).alloc (Nat.le_refl _) (.cells #[.int .i64 0, .int .i64 0, .int .i64 a, .int .i64 b] 29)).drew).cell (p := ⟨bA, oA + 1, none⟩) hbA5.out).trans k1
        generalize (w5.alloc (.cells #[.int .i64 0, .int .i64 0, .int .i64 a, .int .i64 b] 29)).drew = wl at *
        refine hK.out _ _ (by (try dsimp only); exact ⟨l0, l1⟩) (fun hHeld => ?_)
        clear hK K
        (try simp only [Act.put, List.setIfInBounds_toArray, List.set_cons_zero, List.set_cons_succ])
        refine wpAnyH_ready (rs := [18]) (by kernel_rfl) (by simp) ?_
        refine' AllReadyH.cons (o := _) ?hi19 (fun K hK => ?rest19) AllReadyH.nil
        case hi19 => (simp only [List.getElem?_toArray, List.getElem?_cons_succ, List.getElem?_cons_zero]; rfl)
        go_simp
        go_at_call 22
        refine (equalBoxes_same A5 _ 1 c5 1 [0, 0, a, b] wl.heap.size wl.heap.size wl rfl HPl.out HRl.out (by omega)).mono ?_
        rintro e wy ⟨rfl, m, hm⟩
        have HE := Lib.hid (show Below w.heap.size w wy by rw [hm]; exact dnP HBl.out m)
        have l2 : wy.cell? ⟨bA, oA, none⟩ = some (.int .i64 a) := by rw [hm]; exact l0
        have l3 : wy.cell? ⟨bA, oA + 1, none⟩ = some (.int .i64 b) := by rw [hm]; exact l1
        clear hm
        go_wp2_with fail
        refine hK.out _ _ (by (try dsimp only); exact ⟨l2, l3⟩) (fun hHeld => ?_)
        clear hK K
        (try simp only [Act.put, List.setIfInBounds_toArray, List.set_cons_zero, List.set_cons_succ])
        refine' wpAnyH_take (i := 19) (oi := _) (v := _) ?hi20 (by kernel_rfl) (by kernel_rfl) (by kernel_rfl) ?hq20 (Or.inl ⟨?hw20, ?hy20⟩) (by assumption) ?rest20
        case hi20 => (simp only [List.getElem?_toArray, List.getElem?_cons_succ, List.getElem?_cons_zero]; rfl)
        case hq20 => exact fun _ _ _ h => h
        case hw20 => rfl
        case hy20 => (intro wq hSw; (try dsimp only at hSw); go_simp; (try with_reducible rfl))
        (try simp only [Act.put, List.setIfInBounds_toArray, List.set_cons_zero, List.set_cons_succ])
        refine' wpAnyH_take (i := 20) (oi := _) (v := _) ?hi21 (by kernel_rfl) (by kernel_rfl) (by kernel_rfl) ?hq21 (Or.inl ⟨?hw21, ?hy21⟩) (by assumption) ?rest21
        case hi21 => (simp only [List.getElem?_toArray, List.getElem?_cons_succ, List.getElem?_cons_zero]; rfl)
        case hq21 => exact fun _ _ _ h => h
        case hw21 => rfl
        case hy21 => (intro wq hSw; (try dsimp only at hSw); go_simp; (try with_reducible rfl))
        (try simp only [Act.put, List.setIfInBounds_toArray, List.set_cons_zero, List.set_cons_succ])
        refine wpAnyH_done (by kernel_rfl) ?_ _
        go_wp2
        go_ret
        exact ⟨by simp, HE.out⟩

/-! ### From the walk to the statement. -/
theorem own : ownKnob Try.prog.godebug = none := by kernel_rfl
theorem laidOut : laidOutB Try.prog = true := by kernel_rfl
set_option maxRecDepth 100000 in
theorem lifted (os : Os) (started : os.Started) (H : Type) (enc : TypeId × Value → H) :
    ReturnsInHanded {} Try.checked os 8 .any (Rows.fnPackSpritesOneSpec.pre6 enc Try.prog Try.f8 Rows.fnPackSpritesOneRow.domain false) (Rows.fnPackSpritesOneSpec.post enc Try.prog Try.f8 false true false false) := by
  refine returnsInHanded_of_change (C := Try.checked) own started (by kernel_rfl) Try.func8
    (ChangeSpec.witness6 (enc := enc) (C := Try.checked) false ⟨#[], #[.slice none 0 0], []⟩ 8 (by kernel_rfl) (by kernel_rfl) (by kernel_rfl) (by kernel_rfl)) ?_
  intro W base args ds gs before hval0 hW hcnd _
  have hval : ∀ (j : Nat) t v, Try.f8.params[j]? = some t → args[j]? = some v → Value.okWide Try.prog W .any base t v := hval0
  have hW' := hW
  obtain ⟨p, q, hA0, hV, rfl, hfz, hnd⟩ := hW
  have hA : DataW.TrodAll enc Try.prog W 0 (fun _ => true) true Try.f8.params.toList args.toList ds p := hA0
  rw [Try.params8] at hA hval
  obtain ⟨v0, vs0, d0, ds0, p0, q0, hargs, rfl, rfl, h0, r0⟩ := trodAll_cons hA
  obtain ⟨rfl, rfl, rfl⟩ := trodAll_nil r0
  obtain rfl : args = #[v0] := by cases args; simp_all
  obtain ⟨rfl, rfl⟩ := trodVars_none hV
  obtain ⟨a0, len0, cap0, rfl⟩ := okWide_slice Try.underlying22 (hval 0 22 v0 rfl rfl)
  have k0 := h0
  have lt0 : ∀ x ∈ p0, x.block < W.heap.size := by obtain ⟨m, hm⟩ := k0; exact DataW.trod_lt m _ _ _ hm
  obtain ⟨z0, hl0, hc0, w0⟩ : ∃ zs : List Int, len0 = zs.length ∧ zs.length ≤ cap0 ∧ Rdw .u8 W W.heap.size a0 zs := by
    obtain ⟨fuel, hf⟩ := h0
    rcases open_ints Try.underlying22 Try.underlying5 (by kernel_rfl) hf with ⟨hcs, _⟩ | ⟨x, l, c, zs, hcs, _, hl, hm, hz, _, hcell, hwz⟩
    · simp [Value.cells] at hcs
      obtain ⟨rfl, rfl, rfl⟩ := hcs
      exact ⟨[], rfl, Nat.le_refl _, Rdw.nil⟩
    · simp [Value.cells] at hcs
      obtain ⟨rfl, rfl, rfl⟩ := hcs
      exact ⟨zs.take len0, by simp at hz ⊢; omega, by simp at hz ⊢; omega, Rdw.of_row hl hm (by simpa using hz) hcell hwz⟩
  subst hl0
  clear hA0 hval0
  refine (walk W a0 cap0 z0 hc0 w0).mono fun e W' ⟨he, bel⟩ => ?_
  subst he
  exact ⟨_, rfl, _, _, _, [], _, [], hW', trodAll_mk1 (shut_bool Try.underlying4 _), (trodAll_cons_mk (Below.trod laidOut (by kernel_rfl) (of_decide_eq_true (by kernel_rfl)) k0 bel lt0) trodAll_mk0), rfl, bel.frame _, fun h => by cases h⟩

theorem over : Rows.fnPackSpritesOneRow.holds Try.pinned (OpenSpec.ofChange Rows.fnPackSpritesOneSpec) :=
  OpenClaim.holds_of_wide 8 Try.f8 rfl rfl rfl rfl rfl rfl rfl ⟨rfl, rfl, rfl, rfl, rfl⟩ rfl rfl rfl rfl rfl (by kernel_rfl) Try.func8 (by kernel_rfl)
    (of_decide_eq_true (by kernel_rfl)) (by unfold Func.isWrapper; first | (rw [if_pos (by decide +kernel)]; kernel_rfl) | (rw [if_neg (by decide +kernel)]; exact ⟨rfl, rfl⟩))
    (fun os started H enc _ => lifted os started H enc)

theorem proved : Rows.FnPackSpritesOneSaid := over
end Go.Proofs.Ytgieijogopcjnaa.fnPackSpritesOne
