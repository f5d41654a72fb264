/- Whatever the code: FilterRow of what is drawn answers what the model answers; a row over itself is filtered to noughts, the filter None leaves it, and Paeth over noughts is Left. -/
import Derived.Test.YtfplmegpkhlhfaaRows
import Derived.WalkKit
import Derived.ProofKit
import Derived.OpenShut
import Derived.ShutString
import Derived.ChangeOld
import Derived.Below
import Derived.Test.YtfplmegpkhlhfaaFilterE
import Derived.Test.YtfplmegpkhlhfaaFilterS
import Derived.Deep.RegionHeld3
import Derived.Test.YtfplmegpkhlhfaaDrawFilter
import Derived.Test.YtfplmegpkhlhfaaExact
namespace Go.Proofs.Ytfplmegpkhlhfaa.fnFilterRowSame
open Go.ChangeShapes Go.WideShapes Go.ChangeAt Go.RowKit
open Go.ChangeMaps (open_string shut_string)
set_option linter.unusedVariables false

theorem dnS {B : Nat} {a w : World} (h : Below B a w) (n : Nat) : Below B a (w.drewN n) := ⟨h.os, h.tape, h.output, h.size, h.block⟩
theorem rds_mk (w : World) (xs : List Int) : Rds .i64 (w.alloc (.cells (row xs) 3)) (w.alloc (.cells (row xs) 3)).heap.size (some ⟨w.heap.size, 0, none⟩) xs := .inr ⟨_, _, rfl, by simp, fun j hj => by
  rw [cell_of_row _ _ _ _ _ _ (heap_alloc_new w _)]
  simp [row, List.getElem?_eq_getElem hj]⟩
set_option linter.unusedSimpArgs false
set_option maxRecDepth 20000
set_option maxHeartbeats 8000000 in
theorem walk (w : World) (a0 : Option Addr) (cap0 : Nat) (z0 : List Int) (hc0 : z0.length ≤ cap0) (w0 : Rdw .u8 w w.heap.size a0 z0) :
    Calls Try.prog 3 #[.slice a0 z0.length cap0] w fun e w' => e = .returned (.bool true) ∧ Below w.heap.size w w' := by
  have hm := w0.2.1
  unfold maxLen at hm
  by_cases hlen : 1048576 < z0.length
  · go_enter Try.func3, Try.ntmps3
    go_wp2
    go_ret
    exact ⟨rfl, Below.refl _ _⟩
  · go_enter Try.func3, Try.ntmps3
    go_wp2_with fail
    refine (drawFilterRow_any a0 cap0 z0 w hc0 w0).mono ?_
    rintro e w1 ⟨k, st, A, A', c, c', xs, bs, rfl, hx, hb, hX, hY, hbel⟩
    have HX := Lib.hid hX
    have HY := Lib.hid hY
    have S0 := St.start w1
    have hl := fil_len k xs bs st
    clear hX hY w0
    go_wp2_with fail
    refine (i_FilterRow k A A' c c' xs bs st w1 HX.out HY.out (by omega) (by omega)).mono ?_
    rintro e w2 ⟨v2, rfl, hO2, hB2⟩
    obtain ⟨A2, c2, rfl, _⟩ := hO2.slice
    have S2 := S0.add hO2 hB2
    clear S0 hO2 hB2
    go_wp2_with fail
    refine (s_FilterRow k A A' c c' xs bs st w2 (S2.arg HX.out) (S2.arg HY.out) (by omega) (by omega)).mono ?_
    rintro e w3 ⟨v3, rfl, hO3, hB3⟩
    obtain ⟨A3, c3, rfl, _⟩ := hO3.slice
    have S3 := S2.add hO3 hB3
    clear S2 hO3 hB3
    go_wp2_with fail
    refine (lEqualInts_any A2 A3 c2 c3 (fil k xs bs st) (fil k xs bs st) _ _ w3 (S3.rds (lo := w1.heap.size) (hi := w2.heap.size) (n := (fil k xs bs st).length) (c := c2) (by simp)) (S3.rds (lo := w2.heap.size) (hi := w3.heap.size) (n := (fil k xs bs st).length) (c := c3) (by simp)) (by omega) (by omega)).mono ?_
    rintro e w4 ⟨rfl, n4, rfl⟩
    have S4 := S3.drewN n4
    clear S3
    generalize hw4 : w3.drewN n4 = w4 at *
    clear hw4
    by_cases h0 : (fil k xs bs st) = []
    · have h0' : (((fil k xs bs st).length : Int) == 0) = true := by rw [h0]; rfl
      have H0 := Lib.hid h0
      clear h0
      go_wp2_with fail
      refine (s_FilterRow k A A' c c' xs bs st w4 (S4.arg HX.out) (S4.arg HY.out) (by omega) (by omega)).mono ?_
      rintro e w5 ⟨v5, rfl, hO5, hB5⟩
      obtain ⟨A5, c5, rfl, _⟩ := hO5.slice
      have S5 := S4.add hO5 hB5
      clear S4 hO5 hB5
      go_wp2_with fail
      refine (lEqualInts_any A2 A5 c2 c5 (fil k xs bs st) (fil k xs bs st) _ _ w5 (S5.rds (lo := w1.heap.size) (hi := w2.heap.size) (n := (fil k xs bs st).length) (c := c2) (by simp)) (S5.rds (lo := w4.heap.size) (hi := w5.heap.size) (n := (fil k xs bs st).length) (c := c5) (by simp)) (by omega) (by omega)).mono ?_
      rintro e w6 ⟨rfl, n6, rfl⟩
      have S6 := S5.drewN n6
      clear S5
      go_wp2
      go_ret
      exact ⟨by simp, hbel.trans (S6.below.mono hbel.size)⟩
    · have hne : 0 < (fil k xs bs st).length := List.length_pos_iff.2 h0
      have h0' : (((fil k xs bs st).length : Int) == 0) = false := beq_eq_false_iff_ne.2 (by omega)
      have hok : rok xs bs st = true := by
        cases h : rok xs bs st
        · exact absurd (fil_nok h) h0
        · rfl
      clear h0
      have hZl : (zeros xs.length).length = xs.length := by simp [zeros]
      have hxl : xs.length ≤ 64 := (of_decide_eq_true hok).1
      have hmk := make_ints xs.length (by omega)
      have HX4 := Lib.hid (S4.arg HX.out)
      have HY4 := Lib.hid (S4.arg HY.out)
      have HB4 : Hid (Below w.heap.size w w4) := Lib.hid (hbel.trans (S4.below.mono hbel.size))
      have HRX : Hid (∀ u : World, Below w4.heap.size w4 u → Rds .i64 u u.heap.size A xs) := Lib.hid (fun u hu => (HX4.out.below hu).more hu.size)
      have HRY : Hid (∀ u : World, Below w4.heap.size w4 u → Rds .i64 u u.heap.size A' bs) := Lib.hid (fun u hu => (HY4.out.below hu).more hu.size)
      have HF2 : Hid (∀ u : World, Below w4.heap.size w4 u → Calls Try.prog 5 #[.int .i64 2, .slice A xs.length c, .slice A xs.length c, .int .i64 st] u fun e u' => ∃ A2 c2, e = .returned (.slice A2 xs.length c2) ∧ Rds .i64 u' u'.heap.size A2 (zeros xs.length) ∧ Below u.heap.size u u') := Lib.hid (fun u hu => (i_FilterRow 2 A A c c xs xs st u (HRX.out u hu) (HRX.out u hu) (by omega) (by omega)).mono fun e u' h => by
        obtain ⟨v, rfl, hO, hb⟩ := h
        rw [same_up hok] at hO
        obtain ⟨A2, c2, rfl, _⟩ := hO.slice
        have hr := hO.rds.2
        exact ⟨A2, c2, by rw [show (List.replicate xs.length (0 : Int)).length = xs.length by simp], hr, hb⟩)
      have HF0 : Hid (∀ u : World, Below w4.heap.size w4 u → Calls Try.prog 5 #[.int .i64 0, .slice A xs.length c, .slice A' bs.length c', .int .i64 st] u fun e u' => ∃ A2 c2, e = .returned (.slice A2 xs.length c2) ∧ Rds .i64 u' u'.heap.size A2 xs ∧ Below u.heap.size u u') := Lib.hid (fun u hu => (i_FilterRow 0 A A' c c' xs bs st u (HRX.out u hu) (HRY.out u hu) (by omega) (by omega)).mono fun e u' h => by
        obtain ⟨v, rfl, hO, hb⟩ := h
        rw [same_none hok] at hO
        obtain ⟨A2, c2, rfl, _⟩ := hO.slice
        exact ⟨A2, c2, rfl, hO.rds.2, hb⟩)
      obtain ⟨L1, hL1⟩ : ∃ L, L = fil 1 xs bs st := ⟨_, rfl⟩
      have hL1l : L1.length ≤ 64 := by rw [hL1]; exact fil_len _ _ _ _
      have HF1 : Hid (∀ u : World, Below w4.heap.size w4 u → Calls Try.prog 5 #[.int .i64 1, .slice A xs.length c, .slice A' bs.length c', .int .i64 st] u fun e u' => ∃ A2 c2, e = .returned (.slice A2 L1.length c2) ∧ Rds .i64 u' u'.heap.size A2 L1 ∧ Below u.heap.size u u') := Lib.hid (fun u hu => (i_FilterRow 1 A A' c c' xs bs st u (HRX.out u hu) (HRY.out u hu) (by omega) (by omega)).mono fun e u' h => by
        obtain ⟨v, rfl, hO, hb⟩ := h
        rw [← hL1] at hO
        obtain ⟨A2, c2, rfl, _⟩ := hO.slice
        exact ⟨A2, c2, rfl, hO.rds.2, hb⟩)
      have HF4 : Hid (∀ (u : World) (p : Nat), Below w4.heap.size w4 u → Rds .i64 u u.heap.size (some ⟨p, 0, none⟩) (zeros xs.length) → Calls Try.prog 5 #[.int .i64 4, .slice A xs.length c, .slice (some ⟨p, 0, none⟩) xs.length xs.length, .int .i64 st] u fun e u' => ∃ A2 c2, e = .returned (.slice A2 L1.length c2) ∧ Rds .i64 u' u'.heap.size A2 L1 ∧ Below u.heap.size u u') := Lib.hid (fun u p hu hz => by
        have h0 := i_FilterRow 4 A (some ⟨p, 0, none⟩) c xs.length xs (zeros xs.length) st u (HRX.out u hu) hz (by omega) (by omega)
        rw [hZl] at h0
        refine h0.mono fun e u' h => ?_
        obtain ⟨v, rfl, hO, hb⟩ := h
        have e4 : fil 4 xs (zeros xs.length) st = fil 1 xs bs st := same_left hok
        rw [e4, ← hL1] at hO
        obtain ⟨A2, c2, rfl, _⟩ := hO.slice
        exact ⟨A2, c2, rfl, hO.rds.2, hb⟩)
      have HEq : Hid (∀ (L : List Int), L.length ≤ 64 → ∀ (u : World) (A2 : Option Addr) (c2 : Nat) (A3 : Option Addr) (c3 : Nat), Rds .i64 u u.heap.size A2 L → Rds .i64 u u.heap.size A3 L → Calls Try.prog 6 #[.slice A2 L.length c2, .slice A3 L.length c3] u fun e u' => e = .returned (.bool true) ∧ ∃ j, u' = u.drewN j) := Lib.hid (fun L hL u A2 c2 A3 c3 h2 h3 => (lEqualInts_any A2 A3 c2 c3 L L _ _ u h2 h3 (by omega) (by omega)).mono fun e u' h => by
        obtain ⟨rfl, j, rfl⟩ := h
        exact ⟨by rw [decide_eq_true rfl], j, rfl⟩)
      have HEqZ : Hid (∀ (u : World) (A2 : Option Addr) (c2 : Nat) (A3 : Option Addr) (c3 : Nat), Rds .i64 u u.heap.size A2 (zeros xs.length) → Rds .i64 u u.heap.size A3 (zeros xs.length) → Calls Try.prog 6 #[.slice A2 xs.length c2, .slice A3 xs.length c3] u fun e u' => e = .returned (.bool true) ∧ ∃ j, u' = u.drewN j) := Lib.hid (fun u A2 c2 A3 c3 h2 h3 => by
        have := HEq.out (zeros xs.length) (by omega) u A2 c2 A3 c3 h2 h3
        rw [hZl] at this
        exact this)
      have HEqX := Lib.hid (HEq.out xs hxl)
      have HEq1 := Lib.hid (HEq.out L1 hL1l)
      clear hok hZl HX4 HY4 HRY hL1 HEq S4
      go_upto_region 7 with fail
      refine wp_region_held_drew (S := (fun w' => Below w4.heap.size w4 w')) (by kernel_rfl) (by exact (Below.refl _ _).drew) (fun hHeld => ?_)
      refine' wpAnyH_take (i := 0) (oi := _) (v := _) ?hi701 (by kernel_rfl) (by kernel_rfl) (by kernel_rfl) ?hq701 (Or.inl ⟨?hw701, ?hy701⟩) (by assumption) ?rest701
      case hi701 => (simp only [List.getElem?_toArray, List.getElem?_cons_succ, List.getElem?_cons_zero]; rfl)
      case hq701 => exact fun _ _ _ h => h
      case hw701 => rfl
      case hy701 => (intro wq hSw; (try dsimp only at hSw); go_simp; (try with_reducible rfl))
      (try simp only [Act.put, List.setIfInBounds_toArray, List.set_cons_zero, List.set_cons_succ])
      refine' wpAnyH_take (i := 1) (oi := _) (v := _) ?hi702 (by kernel_rfl) (by kernel_rfl) (by kernel_rfl) ?hq702 (Or.inl ⟨?hw702, ?hy702⟩) (by assumption) ?rest702
      case hi702 => (simp only [List.getElem?_toArray, List.getElem?_cons_succ, List.getElem?_cons_zero]; rfl)
      case hq702 => exact fun _ _ _ h => h
      case hw702 => rfl
      case hy702 => (intro wq hSw; (try dsimp only at hSw); go_simp; (try with_reducible rfl))
      (try simp only [Act.put, List.setIfInBounds_toArray, List.set_cons_zero, List.set_cons_succ])
      refine' wpAnyH_take (i := 2) (oi := _) (v := _) ?hi703 (by kernel_rfl) (by kernel_rfl) (by kernel_rfl) ?hq703 (Or.inl ⟨?hw703, ?hy703⟩) (by assumption) ?rest703
      case hi703 => (simp only [List.getElem?_toArray, List.getElem?_cons_succ, List.getElem?_cons_zero]; rfl)
      case hq703 => exact fun _ _ _ h => h
      case hw703 => rfl
      case hy703 => (intro wq hSw; (try dsimp only at hSw); go_simp; (try with_reducible rfl))
      (try simp only [Act.put, List.setIfInBounds_toArray, List.set_cons_zero, List.set_cons_succ])
      refine' wpAnyH_take (i := 4) (oi := _) (v := _) ?hi704 (by kernel_rfl) (by kernel_rfl) (by kernel_rfl) ?hq704 (Or.inl ⟨?hw704, ?hy704⟩) (by assumption) ?rest704
      case hi704 => (simp only [List.getElem?_toArray, List.getElem?_cons_succ, List.getElem?_cons_zero]; rfl)
      case hq704 => exact fun _ _ _ h => h
      case hw704 => rfl
      case hy704 => (intro wq hSw; (try dsimp only at hSw); go_simp; (try with_reducible rfl))
      (try simp only [Act.put, List.setIfInBounds_toArray, List.set_cons_zero, List.set_cons_succ])
      refine' wpAnyH_take (i := 5) (oi := _) (v := _) ?hi705 (by kernel_rfl) (by kernel_rfl) (by kernel_rfl) ?hq705 (Or.inl ⟨?hw705, ?hy705⟩) (by assumption) ?rest705
      case hi705 => (simp only [List.getElem?_toArray, List.getElem?_cons_succ, List.getElem?_cons_zero]; rfl)
      case hq705 => exact fun _ _ _ h => h
      case hw705 => rfl
      case hy705 => (intro wq hSw; (try dsimp only at hSw); go_simp; (try with_reducible rfl))
      (try simp only [Act.put, List.setIfInBounds_toArray, List.set_cons_zero, List.set_cons_succ])
      refine wpAnyH_ready (rs := [3, 6]) (by kernel_rfl) (by simp) ?_
      refine' AllReadyH.cons (o := _) ?hi706 (fun K hK => ?rest706) (AllReadyH.cons (o := _) ?hj706 (fun K hK => ?rist706) AllReadyH.nil)
      case hi706 => (simp only [List.getElem?_toArray, List.getElem?_cons_succ, List.getElem?_cons_zero]; rfl)
      case hj706 => (simp only [List.getElem?_toArray, List.getElem?_cons_succ, List.getElem?_cons_zero]; rfl)
      case rest706 =>
        go_simp
        go_at_call 5
        refine (HF2.out w4.drew (Below.refl _ _).drew).mono ?_
        rintro e u1 ⟨A2, c2, rfl, hR, hb⟩
        have B1 : Hid (Below w4.heap.size w4 u1) := Lib.hid ((Below.refl w4.heap.size w4).drew.trans hb)
        have R1 := Lib.hid hR
        clear hR hb
        go_wp2_with fail
        refine hK.out _ _ (by (try dsimp only); exact B1.out) (fun hHeld => ?_)
        clear hK K
        (try simp only [Act.put, List.setIfInBounds_toArray, List.set_cons_zero, List.set_cons_succ])
        refine wpAnyH_ready (rs := [6]) (by kernel_rfl) (by simp) ?_
        refine' AllReadyH.cons (o := _) ?hi707 (fun K hK => ?rest707) AllReadyH.nil
        case hi707 => (simp only [List.getElem?_toArray, List.getElem?_cons_succ, List.getElem?_cons_zero]; rfl)
        go_simp
        have B2 := Lib.hid (B1.out.alloc B1.out.size (.cells (row (zeros xs.length)) 3))
        have RZ := Lib.hid (rds_mk u1 (zeros xs.length))
        have R2 := Lib.hid ((R1.out.alloc (Nat.le_refl _) (.cells (row (zeros xs.length)) 3)).more (show u1.heap.size ≤ (u1.alloc (.cells (row (zeros xs.length)) 3)).heap.size by simp))
        generalize u1.alloc (.cells (row (zeros xs.length)) 3) = u2 at *
        generalize u1.heap.size = p1 at *
        clear B1 R1
        refine hK.out _ _ (by (try dsimp only); exact B2.out) (fun hHeld => ?_)
        clear hK K
        (try simp only [Act.put, List.setIfInBounds_toArray, List.set_cons_zero, List.set_cons_succ])
        refine wpAnyH_ready (rs := [7]) (by kernel_rfl) (by simp) ?_
        refine' AllReadyH.cons (o := _) ?hi708 (fun K hK => ?rest708) AllReadyH.nil
        case hi708 => (simp only [List.getElem?_toArray, List.getElem?_cons_succ, List.getElem?_cons_zero]; rfl)
        go_simp
        go_at_call 6
        refine (HEqZ.out u2 A2 c2 (some ⟨p1, 0, none⟩) xs.length R2.out RZ.out).mono ?_
        rintro e u3 ⟨rfl, j3, rfl⟩
        have B3 : Hid (Below w4.heap.size w4 (u2.drewN j3)) := Lib.hid (dnS B2.out j3)
        generalize u2.drewN j3 = u3 at *
        clear R2 RZ B2
        go_wp2_with fail
        refine hK.out _ _ (by (try dsimp only); exact B3.out) (fun hHeld => ?_)
        clear hK K
        (try simp only [Act.put, List.setIfInBounds_toArray, List.set_cons_zero, List.set_cons_succ])
        refine' wpAnyH_take (i := 8) (oi := _) (v := _) ?hi709 (by kernel_rfl) (by kernel_rfl) (by kernel_rfl) ?hq709 (Or.inl ⟨?hw709, ?hy709⟩) (by assumption) ?rest709
        case hi709 => (simp only [List.getElem?_toArray, List.getElem?_cons_succ, List.getElem?_cons_zero]; rfl)
        case hq709 => exact fun _ _ _ h => h
        case hw709 => rfl
        case hy709 => (intro wq hSw; (try dsimp only at hSw); go_simp; (try with_reducible rfl))
        (try simp only [Act.put, List.setIfInBounds_toArray, List.set_cons_zero, List.set_cons_succ])
        refine' wpAnyH_take (i := 9) (oi := _) (v := _) ?hi710 (by kernel_rfl) (by kernel_rfl) (by kernel_rfl) ?hq710 (Or.inl ⟨?hw710, ?hy710⟩) (by assumption) ?rest710
        case hi710 => (simp only [List.getElem?_toArray, List.getElem?_cons_succ, List.getElem?_cons_zero]; rfl)
        case hq710 => exact fun _ _ _ h => h
        case hw710 => rfl
        case hy710 => (intro wq hSw; (try dsimp only at hSw); go_simp; (try with_reducible rfl))
        (try simp only [Act.put, List.setIfInBounds_toArray, List.set_cons_zero, List.set_cons_succ])
        refine' wpAnyH_take (i := 10) (oi := _) (v := _) ?hi711 (by kernel_rfl) (by kernel_rfl) (by kernel_rfl) ?hq711 (Or.inl ⟨?hw711, ?hy711⟩) (by assumption) ?rest711
        case hi711 => (simp only [List.getElem?_toArray, List.getElem?_cons_succ, List.getElem?_cons_zero]; rfl)
        case hq711 => exact fun _ _ _ h => h
        case hw711 => rfl
        case hy711 => (intro wq hSw; (try dsimp only at hSw); go_simp; (try with_reducible rfl))
        (try simp only [Act.put, List.setIfInBounds_toArray, List.set_cons_zero, List.set_cons_succ])
        refine' wpAnyH_take (i := 11) (oi := _) (v := _) ?hi712 (by kernel_rfl) (by kernel_rfl) (by kernel_rfl) ?hq712 (Or.inl ⟨?hw712, ?hy712⟩) (by assumption) ?rest712
        case hi712 => (simp only [List.getElem?_toArray, List.getElem?_cons_succ, List.getElem?_cons_zero]; rfl)
        case hq712 => exact fun _ _ _ h => h
        case hw712 => rfl
        case hy712 => (intro wq hSw; (try dsimp only at hSw); go_simp; (try with_reducible rfl))
        (try simp only [Act.put, List.setIfInBounds_toArray, List.set_cons_zero, List.set_cons_succ])
        refine' wpAnyH_take (i := 13) (oi := _) (v := _) ?hi713 (by kernel_rfl) (by kernel_rfl) (by kernel_rfl) ?hq713 (Or.inl ⟨?hw713, ?hy713⟩) (by assumption) ?rest713
        case hi713 => (simp only [List.getElem?_toArray, List.getElem?_cons_succ, List.getElem?_cons_zero]; rfl)
        case hq713 => exact fun _ _ _ h => h
        case hw713 => rfl
        case hy713 => (intro wq hSw; (try dsimp only at hSw); go_simp; (try with_reducible rfl))
        (try simp only [Act.put, List.setIfInBounds_toArray, List.set_cons_zero, List.set_cons_succ])
        refine wpAnyH_ready (rs := [12]) (by kernel_rfl) (by simp) ?_
        refine' AllReadyH.cons (o := _) ?hi714 (fun K hK => ?rest714) AllReadyH.nil
        case hi714 => (simp only [List.getElem?_toArray, List.getElem?_cons_succ, List.getElem?_cons_zero]; rfl)
        go_simp
        go_at_call 5
        refine (HF0.out u3 B3.out).mono ?_
        rintro e u4 ⟨A4, c4, rfl, hR4, hb4⟩
        have B4 := Lib.hid (B3.out.trans (hb4.mono B3.out.size))
        have R4 := Lib.hid hR4
        clear hR4 hb4 B3
        go_wp2_with fail
        refine hK.out _ _ (by (try dsimp only); exact B4.out) (fun hHeld => ?_)
        clear hK K
        (try simp only [Act.put, List.setIfInBounds_toArray, List.set_cons_zero, List.set_cons_succ])
        refine wpAnyH_ready (rs := [14]) (by kernel_rfl) (by simp) ?_
        refine' AllReadyH.cons (o := _) ?hi715 (fun K hK => ?rest715) AllReadyH.nil
        case hi715 => (simp only [List.getElem?_toArray, List.getElem?_cons_succ, List.getElem?_cons_zero]; rfl)
        go_simp
        go_at_call 6
        refine (HEqX.out u4 A4 c4 A c R4.out (HRX.out u4 B4.out)).mono ?_
        rintro e u5 ⟨rfl, j5, rfl⟩
        have B5 : Hid (Below w4.heap.size w4 (u4.drewN j5)) := Lib.hid (dnS B4.out j5)
        generalize u4.drewN j5 = u5 at *
        clear R4 B4
        go_wp2_with fail
        refine hK.out _ _ (by (try dsimp only); exact B5.out) (fun hHeld => ?_)
        clear hK K
        (try simp only [Act.put, List.setIfInBounds_toArray, List.set_cons_zero, List.set_cons_succ])
        refine' wpAnyH_take (i := 15) (oi := _) (v := _) ?hi716 (by kernel_rfl) (by kernel_rfl) (by kernel_rfl) ?hq716 (Or.inl ⟨?hw716, ?hy716⟩) (by assumption) ?rest716
        case hi716 => (simp only [List.getElem?_toArray, List.getElem?_cons_succ, List.getElem?_cons_zero]; rfl)
        case hq716 => exact fun _ _ _ h => h
        case hw716 => rfl
        case hy716 => (intro wq hSw; (try dsimp only at hSw); go_simp; (try with_reducible rfl))
        (try simp only [Act.put, List.setIfInBounds_toArray, List.set_cons_zero, List.set_cons_succ])
        refine' wpAnyH_take (i := 16) (oi := _) (v := _) ?hi717 (by kernel_rfl) (by kernel_rfl) (by kernel_rfl) ?hq717 (Or.inl ⟨?hw717, ?hy717⟩) (by assumption) ?rest717
        case hi717 => (simp only [List.getElem?_toArray, List.getElem?_cons_succ, List.getElem?_cons_zero]; rfl)
        case hq717 => exact fun _ _ _ h => h
        case hw717 => rfl
        case hy717 => (intro wq hSw; (try dsimp only at hSw); go_simp; (try with_reducible rfl))
        (try simp only [Act.put, List.setIfInBounds_toArray, List.set_cons_zero, List.set_cons_succ])
        refine' wpAnyH_take (i := 17) (oi := _) (v := _) ?hi718 (by kernel_rfl) (by kernel_rfl) (by kernel_rfl) ?hq718 (Or.inl ⟨?hw718, ?hy718⟩) (by assumption) ?rest718
        case hi718 => (simp only [List.getElem?_toArray, List.getElem?_cons_succ, List.getElem?_cons_zero]; rfl)
        case hq718 => exact fun _ _ _ h => h
        case hw718 => rfl
        case hy718 => (intro wq hSw; (try dsimp only at hSw); go_simp; (try with_reducible rfl))
        (try simp only [Act.put, List.setIfInBounds_toArray, List.set_cons_zero, List.set_cons_succ])
        refine' wpAnyH_take (i := 18) (oi := _) (v := _) ?hi719 (by kernel_rfl) (by kernel_rfl) (by kernel_rfl) ?hq719 (Or.inl ⟨?hw719, ?hy719⟩) (by assumption) ?rest719
        case hi719 => (simp only [List.getElem?_toArray, List.getElem?_cons_succ, List.getElem?_cons_zero]; rfl)
        case hq719 => exact fun _ _ _ h => h
        case hw719 => rfl
        case hy719 => (intro wq hSw; (try dsimp only at hSw); go_simp; (try with_reducible rfl))
        (try simp only [Act.put, List.setIfInBounds_toArray, List.set_cons_zero, List.set_cons_succ])
        refine' wpAnyH_take (i := 19) (oi := _) (v := _) ?hi720 (by kernel_rfl) (by kernel_rfl) (by kernel_rfl) ?hq720 (Or.inl ⟨?hw720, ?hy720⟩) (by assumption) ?rest720
        case hi720 => (simp only [List.getElem?_toArray, List.getElem?_cons_succ, List.getElem?_cons_zero]; rfl)
        case hq720 => exact fun _ _ _ h => h
        case hw720 => rfl
        case hy720 => (intro wq hSw; (try dsimp only at hSw); go_simp; (try with_reducible rfl))
        (try simp only [Act.put, List.setIfInBounds_toArray, List.set_cons_zero, List.set_cons_succ])
        refine' wpAnyH_take (i := 21) (oi := _) (v := _) ?hi721 (by kernel_rfl) (by kernel_rfl) (by kernel_rfl) ?hq721 (Or.inl ⟨?hw721, ?hy721⟩) (by assumption) ?rest721
        case hi721 => (simp only [List.getElem?_toArray, List.getElem?_cons_succ, List.getElem?_cons_zero]; rfl)
        case hq721 => exact fun _ _ _ h => h
        case hw721 => rfl
        case hy721 => (intro wq hSw; (try dsimp only at hSw); go_simp; (try with_reducible rfl))
        (try simp only [Act.put, List.setIfInBounds_toArray, List.set_cons_zero, List.set_cons_succ])
        refine' wpAnyH_take (i := 23) (oi := _) (v := _) ?hi722 (by kernel_rfl) (by kernel_rfl) (by kernel_rfl) ?hq722 (Or.inl ⟨?hw722, ?hy722⟩) (by assumption) ?rest722
        case hi722 => (simp only [List.getElem?_toArray, List.getElem?_cons_succ, List.getElem?_cons_zero]; rfl)
        case hq722 => exact fun _ _ _ h => h
        case hw722 => rfl
        case hy722 => (intro wq hSw; (try dsimp only at hSw); go_simp; (try with_reducible rfl))
        (try simp only [Act.put, List.setIfInBounds_toArray, List.set_cons_zero, List.set_cons_succ])
        refine' wpAnyH_take (i := 24) (oi := _) (v := _) ?hi723 (by kernel_rfl) (by kernel_rfl) (by kernel_rfl) ?hq723 (Or.inl ⟨?hw723, ?hy723⟩) (by assumption) ?rest723
        case hi723 => (simp only [List.getElem?_toArray, List.getElem?_cons_succ, List.getElem?_cons_zero]; rfl)
        case hq723 => exact fun _ _ _ h => h
        case hw723 => rfl
        case hy723 => (intro wq hSw; (try dsimp only at hSw); go_simp; (try with_reducible rfl))
        (try simp only [Act.put, List.setIfInBounds_toArray, List.set_cons_zero, List.set_cons_succ])
        refine' wpAnyH_take (i := 25) (oi := _) (v := _) ?hi724 (by kernel_rfl) (by kernel_rfl) (by kernel_rfl) ?hq724 (Or.inl ⟨?hw724, ?hy724⟩) (by assumption) ?rest724
        case hi724 => (simp only [List.getElem?_toArray, List.getElem?_cons_succ, List.getElem?_cons_zero]; rfl)
        case hq724 => exact fun _ _ _ h => h
        case hw724 => rfl
        case hy724 => (intro wq hSw; (try dsimp only at hSw); go_simp; (try with_reducible rfl))
        (try simp only [Act.put, List.setIfInBounds_toArray, List.set_cons_zero, List.set_cons_succ])
        refine wpAnyH_ready (rs := [20]) (by kernel_rfl) (by simp) ?_
        refine' AllReadyH.cons (o := _) ?hi725 (fun K hK => ?rest725) AllReadyH.nil
        case hi725 => (simp only [List.getElem?_toArray, List.getElem?_cons_succ, List.getElem?_cons_zero]; rfl)
        go_simp
        have B6 := Lib.hid (B5.out.alloc B5.out.size (.cells (row (zeros xs.length)) 3))
        have RZ2 := Lib.hid (rds_mk u5 (zeros xs.length))
        generalize u5.alloc (.cells (row (zeros xs.length)) 3) = u6 at *
        generalize u5.heap.size = p2 at *
        clear B5
        refine hK.out _ _ (by (try dsimp only); exact B6.out) (fun hHeld => ?_)
        clear hK K
        (try simp only [Act.put, List.setIfInBounds_toArray, List.set_cons_zero, List.set_cons_succ])
        refine wpAnyH_ready (rs := [22]) (by kernel_rfl) (by simp) ?_
        refine' AllReadyH.cons (o := _) ?hi726 (fun K hK => ?rest726) AllReadyH.nil
        case hi726 => (simp only [List.getElem?_toArray, List.getElem?_cons_succ, List.getElem?_cons_zero]; rfl)
        go_simp
        go_at_call 5
        refine (HF4.out u6 p2 B6.out RZ2.out).mono ?_
        rintro e u7 ⟨A6, c6, rfl, hR6, hb6⟩
        have B7 := Lib.hid (B6.out.trans (hb6.mono B6.out.size))
        have R6 := Lib.hid hR6
        clear hR6 hb6 B6 RZ2
        go_wp2_with fail
        refine hK.out _ _ (by (try dsimp only); exact B7.out) (fun hHeld => ?_)
        clear hK K
        (try simp only [Act.put, List.setIfInBounds_toArray, List.set_cons_zero, List.set_cons_succ])
        refine wpAnyH_ready (rs := [26]) (by kernel_rfl) (by simp) ?_
        refine' AllReadyH.cons (o := _) ?hi727 (fun K hK => ?rest727) AllReadyH.nil
        case hi727 => (simp only [List.getElem?_toArray, List.getElem?_cons_succ, List.getElem?_cons_zero]; rfl)
        go_simp
        go_at_call 5
        refine (HF1.out u7 B7.out).mono ?_
        rintro e u8 ⟨A7, c7, rfl, hR7, hb7⟩
        have B8 := Lib.hid (B7.out.trans (hb7.mono B7.out.size))
        have R7 := Lib.hid hR7
        have R8 := Lib.hid ((R6.out.below hb7).more hb7.size)
        clear hR7 hb7 B7 R6
        go_wp2_with fail
        refine hK.out _ _ (by (try dsimp only); exact B8.out) (fun hHeld => ?_)
        clear hK K
        (try simp only [Act.put, List.setIfInBounds_toArray, List.set_cons_zero, List.set_cons_succ])
        refine wpAnyH_ready (rs := [27]) (by kernel_rfl) (by simp) ?_
        refine' AllReadyH.cons (o := _) ?hi728 (fun K hK => ?rest728) AllReadyH.nil
        case hi728 => (simp only [List.getElem?_toArray, List.getElem?_cons_succ, List.getElem?_cons_zero]; rfl)
        go_simp
        go_at_call 6
        refine (HEq1.out u8 A6 c6 A7 c7 R8.out R7.out).mono ?_
        rintro e u9 ⟨rfl, j9, rfl⟩
        have B9 : Hid (Below w4.heap.size w4 (u8.drewN j9)) := Lib.hid (dnS B8.out j9)
        generalize u8.drewN j9 = u9 at *
        clear R7 R8 B8
        go_wp2_with fail
        refine hK.out _ _ (by (try dsimp only); exact B9.out) (fun hHeld => ?_)
        clear hK K
        (try simp only [Act.put, List.setIfInBounds_toArray, List.set_cons_zero, List.set_cons_succ])
        refine' wpAnyH_take (i := 28) (oi := _) (v := _) ?hi729 (by kernel_rfl) (by kernel_rfl) (by kernel_rfl) ?hq729 (Or.inl ⟨?hw729, ?hy729⟩) (by assumption) ?rest729
        case hi729 => (simp only [List.getElem?_toArray, List.getElem?_cons_succ, List.getElem?_cons_zero]; rfl)
        case hq729 => exact fun _ _ _ h => h
        case hw729 => rfl
        case hy729 => (intro wq hSw; (try dsimp only at hSw); go_simp; (try with_reducible rfl))
        (try simp only [Act.put, List.setIfInBounds_toArray, List.set_cons_zero, List.set_cons_succ])
        refine' wpAnyH_take (i := 29) (oi := _) (v := _) ?hi730 (by kernel_rfl) (by kernel_rfl) (by kernel_rfl) ?hq730 (Or.inl ⟨?hw730, ?hy730⟩) (by assumption) ?rest730
        case hi730 => (simp only [List.getElem?_toArray, List.getElem?_cons_succ, List.getElem?_cons_zero]; rfl)
        case hq730 => exact fun _ _ _ h => h
        case hw730 => rfl
        case hy730 => (intro wq hSw; (try dsimp only at hSw); go_simp; (try with_reducible rfl))
        (try simp only [Act.put, List.setIfInBounds_toArray, List.set_cons_zero, List.set_cons_succ])
        refine wpAnyH_done (by kernel_rfl) ?_ _
        have HE := Lib.hid (HB4.out.trans (B9.out.mono HB4.out.size))
        go_wp2
        go_ret
        exact ⟨rfl, HE.out⟩
      case rist706 =>
        go_simp
        have B1 : Hid (Below w4.heap.size w4 (w4.alloc (.cells (row (zeros xs.length)) 3)).drew) := Lib.hid (((Below.refl w4.heap.size w4).alloc (Nat.le_refl _) _).drew)
        have RZ0 : Hid (Rds .i64 (w4.alloc (.cells (row (zeros xs.length)) 3)).drew (w4.alloc (.cells (row (zeros xs.length)) 3)).drew.heap.size (some ⟨w4.heap.size, 0, none⟩) (zeros xs.length)) := Lib.hid (rds_mk w4 (zeros xs.length))
        generalize (w4.alloc (.cells (row (zeros xs.length)) 3)).drew = u0 at *
        obtain ⟨p1, hp1⟩ : ∃ p, p = w4.heap.size := ⟨_, rfl⟩
        rw [← hp1] at RZ0 ⊢
        clear hp1
        refine hK.out _ _ (by (try dsimp only); exact B1.out) (fun hHeld => ?_)
        clear hK K
        (try simp only [Act.put, List.setIfInBounds_toArray, List.set_cons_zero, List.set_cons_succ])
        refine wpAnyH_ready (rs := [3]) (by kernel_rfl) (by simp) ?_
        refine' AllReadyH.cons (o := _) ?hi731 (fun K hK => ?rest731) AllReadyH.nil
        case hi731 => (simp only [List.getElem?_toArray, List.getElem?_cons_succ, List.getElem?_cons_zero]; rfl)
        go_simp
        go_at_call 5
        refine (HF2.out u0 B1.out).mono ?_
        rintro e u2 ⟨A2, c2, rfl, hR, hb⟩
        have B2 := Lib.hid (B1.out.trans (hb.mono B1.out.size))
        have R2 := Lib.hid hR
        have RZ := Lib.hid ((RZ0.out.below hb).more hb.size)
        clear hR hb B1 RZ0
        go_wp2_with fail
        refine hK.out _ _ (by (try dsimp only); exact B2.out) (fun hHeld => ?_)
        clear hK K
        (try simp only [Act.put, List.setIfInBounds_toArray, List.set_cons_zero, List.set_cons_succ])
        refine wpAnyH_ready (rs := [7]) (by kernel_rfl) (by simp) ?_
        refine' AllReadyH.cons (o := _) ?hi732 (fun K hK => ?rest732) AllReadyH.nil
        case hi732 => (simp only [List.getElem?_toArray, List.getElem?_cons_succ, List.getElem?_cons_zero]; rfl)
        go_simp
        go_at_call 6
        refine (HEqZ.out u2 A2 c2 (some ⟨p1, 0, none⟩) xs.length R2.out RZ.out).mono ?_
        rintro e u3 ⟨rfl, j3, rfl⟩
        have B3 : Hid (Below w4.heap.size w4 (u2.drewN j3)) := Lib.hid (dnS B2.out j3)
        generalize u2.drewN j3 = u3 at *
        clear R2 RZ B2
        go_wp2_with fail
        refine hK.out _ _ (by (try dsimp only); exact B3.out) (fun hHeld => ?_)
        clear hK K
        (try simp only [Act.put, List.setIfInBounds_toArray, List.set_cons_zero, List.set_cons_succ])
        refine' wpAnyH_take (i := 8) (oi := _) (v := _) ?hi733 (by kernel_rfl) (by kernel_rfl) (by kernel_rfl) ?hq733 (Or.inl ⟨?hw733, ?hy733⟩) (by assumption) ?rest733
        case hi733 => (simp only [List.getElem?_toArray, List.getElem?_cons_succ, List.getElem?_cons_zero]; rfl)
        case hq733 => exact fun _ _ _ h => h
        case hw733 => rfl
        case hy733 => (intro wq hSw; (try dsimp only at hSw); go_simp; (try with_reducible rfl))
        (try simp only [Act.put, List.setIfInBounds_toArray, List.set_cons_zero, List.set_cons_succ])
        refine' wpAnyH_take (i := 9) (oi := _) (v := _) ?hi734 (by kernel_rfl) (by kernel_rfl) (by kernel_rfl) ?hq734 (Or.inl ⟨?hw734, ?hy734⟩) (by assumption) ?rest734
        case hi734 => (simp only [List.getElem?_toArray, List.getElem?_cons_succ, List.getElem?_cons_zero]; rfl)
        case hq734 => exact fun _ _ _ h => h
        case hw734 => rfl
        case hy734 => (intro wq hSw; (try dsimp only at hSw); go_simp; (try with_reducible rfl))
        (try simp only [Act.put, List.setIfInBounds_toArray, List.set_cons_zero, List.set_cons_succ])
        refine' wpAnyH_take (i := 10) (oi := _) (v := _) ?hi735 (by kernel_rfl) (by kernel_rfl) (by kernel_rfl) ?hq735 (Or.inl ⟨?hw735, ?hy735⟩) (by assumption) ?rest735
        case hi735 => (simp only [List.getElem?_toArray, List.getElem?_cons_succ, List.getElem?_cons_zero]; rfl)
        case hq735 => exact fun _ _ _ h => h
        case hw735 => rfl
        case hy735 => (intro wq hSw; (try dsimp only at hSw); go_simp; (try with_reducible rfl))
        (try simp only [Act.put, List.setIfInBounds_toArray, List.set_cons_zero, List.set_cons_succ])
        refine' wpAnyH_take (i := 11) (oi := _) (v := _) ?hi736 (by kernel_rfl) (by kernel_rfl) (by kernel_rfl) ?hq736 (Or.inl ⟨?hw736, ?hy736⟩) (by assumption) ?rest736
        case hi736 => (simp only [List.getElem?_toArray, List.getElem?_cons_succ, List.getElem?_cons_zero]; rfl)
        case hq736 => exact fun _ _ _ h => h
        case hw736 => rfl
        case hy736 => (intro wq hSw; (try dsimp only at hSw); go_simp; (try with_reducible rfl))
        (try simp only [Act.put, List.setIfInBounds_toArray, List.set_cons_zero, List.set_cons_succ])
        refine' wpAnyH_take (i := 13) (oi := _) (v := _) ?hi737 (by kernel_rfl) (by kernel_rfl) (by kernel_rfl) ?hq737 (Or.inl ⟨?hw737, ?hy737⟩) (by assumption) ?rest737
        case hi737 => (simp only [List.getElem?_toArray, List.getElem?_cons_succ, List.getElem?_cons_zero]; rfl)
        case hq737 => exact fun _ _ _ h => h
        case hw737 => rfl
        case hy737 => (intro wq hSw; (try dsimp only at hSw); go_simp; (try with_reducible rfl))
        (try simp only [Act.put, List.setIfInBounds_toArray, List.set_cons_zero, List.set_cons_succ])
        refine wpAnyH_ready (rs := [12]) (by kernel_rfl) (by simp) ?_
        refine' AllReadyH.cons (o := _) ?hi738 (fun K hK => ?rest738) AllReadyH.nil
        case hi738 => (simp only [List.getElem?_toArray, List.getElem?_cons_succ, List.getElem?_cons_zero]; rfl)
        go_simp
        go_at_call 5
        refine (HF0.out u3 B3.out).mono ?_
        rintro e u4 ⟨A4, c4, rfl, hR4, hb4⟩
        have B4 := Lib.hid (B3.out.trans (hb4.mono B3.out.size))
        have R4 := Lib.hid hR4
        clear hR4 hb4 B3
        go_wp2_with fail
        refine hK.out _ _ (by (try dsimp only); exact B4.out) (fun hHeld => ?_)
        clear hK K
        (try simp only [Act.put, List.setIfInBounds_toArray, List.set_cons_zero, List.set_cons_succ])
        refine wpAnyH_ready (rs := [14]) (by kernel_rfl) (by simp) ?_
        refine' AllReadyH.cons (o := _) ?hi739 (fun K hK => ?rest739) AllReadyH.nil
        case hi739 => (simp only [List.getElem?_toArray, List.getElem?_cons_succ, List.getElem?_cons_zero]; rfl)
        go_simp
        go_at_call 6
        refine (HEqX.out u4 A4 c4 A c R4.out (HRX.out u4 B4.out)).mono ?_
        rintro e u5 ⟨rfl, j5, rfl⟩
        have B5 : Hid (Below w4.heap.size w4 (u4.drewN j5)) := Lib.hid (dnS B4.out j5)
        generalize u4.drewN j5 = u5 at *
        clear R4 B4
        go_wp2_with fail
        refine hK.out _ _ (by (try dsimp only); exact B5.out) (fun hHeld => ?_)
        clear hK K
        (try simp only [Act.put, List.setIfInBounds_toArray, List.set_cons_zero, List.set_cons_succ])
        refine' wpAnyH_take (i := 15) (oi := _) (v := _) ?hi740 (by kernel_rfl) (by kernel_rfl) (by kernel_rfl) ?hq740 (Or.inl ⟨?hw740, ?hy740⟩) (by assumption) ?rest740
        case hi740 => (simp only [List.getElem?_toArray, List.getElem?_cons_succ, List.getElem?_cons_zero]; rfl)
        case hq740 => exact fun _ _ _ h => h
        case hw740 => rfl
        case hy740 => (intro wq hSw; (try dsimp only at hSw); go_simp; (try with_reducible rfl))
        (try simp only [Act.put, List.setIfInBounds_toArray, List.set_cons_zero, List.set_cons_succ])
        refine' wpAnyH_take (i := 16) (oi := _) (v := _) ?hi741 (by kernel_rfl) (by kernel_rfl) (by kernel_rfl) ?hq741 (Or.inl ⟨?hw741, ?hy741⟩) (by assumption) ?rest741
        case hi741 => (simp only [List.getElem?_toArray, List.getElem?_cons_succ, List.getElem?_cons_zero]; rfl)
        case hq741 => exact fun _ _ _ h => h
        case hw741 => rfl
        case hy741 => (intro wq hSw; (try dsimp only at hSw); go_simp; (try with_reducible rfl))
        (try simp only [Act.put, List.setIfInBounds_toArray, List.set_cons_zero, List.set_cons_succ])
        refine' wpAnyH_take (i := 17) (oi := _) (v := _) ?hi742 (by kernel_rfl) (by kernel_rfl) (by kernel_rfl) ?hq742 (Or.inl ⟨?hw742, ?hy742⟩) (by assumption) ?rest742
        case hi742 => (simp only [List.getElem?_toArray, List.getElem?_cons_succ, List.getElem?_cons_zero]; rfl)
        case hq742 => exact fun _ _ _ h => h
        case hw742 => rfl
        case hy742 => (intro wq hSw; (try dsimp only at hSw); go_simp; (try with_reducible rfl))
        (try simp only [Act.put, List.setIfInBounds_toArray, List.set_cons_zero, List.set_cons_succ])
        refine' wpAnyH_take (i := 18) (oi := _) (v := _) ?hi743 (by kernel_rfl) (by kernel_rfl) (by kernel_rfl) ?hq743 (Or.inl ⟨?hw743, ?hy743⟩) (by assumption) ?rest743
        case hi743 => (simp only [List.getElem?_toArray, List.getElem?_cons_succ, List.getElem?_cons_zero]; rfl)
        case hq743 => exact fun _ _ _ h => h
        case hw743 => rfl
        case hy743 => (intro wq hSw; (try dsimp only at hSw); go_simp; (try with_reducible rfl))
        (try simp only [Act.put, List.setIfInBounds_toArray, List.set_cons_zero, List.set_cons_succ])
        refine' wpAnyH_take (i := 19) (oi := _) (v := _) ?hi744 (by kernel_rfl) (by kernel_rfl) (by kernel_rfl) ?hq744 (Or.inl ⟨?hw744, ?hy744⟩) (by assumption) ?rest744
        case hi744 => (simp only [List.getElem?_toArray, List.getElem?_cons_succ, List.getElem?_cons_zero]; rfl)
        case hq744 => exact fun _ _ _ h => h
        case hw744 => rfl
        case hy744 => (intro wq hSw; (try dsimp only at hSw); go_simp; (try with_reducible rfl))
        (try simp only [Act.put, List.setIfInBounds_toArray, List.set_cons_zero, List.set_cons_succ])
        refine' wpAnyH_take (i := 21) (oi := _) (v := _) ?hi745 (by kernel_rfl) (by kernel_rfl) (by kernel_rfl) ?hq745 (Or.inl ⟨?hw745, ?hy745⟩) (by assumption) ?rest745
        case hi745 => (simp only [List.getElem?_toArray, List.getElem?_cons_succ, List.getElem?_cons_zero]; rfl)
        case hq745 => exact fun _ _ _ h => h
        case hw745 => rfl
        case hy745 => (intro wq hSw; (try dsimp only at hSw); go_simp; (try with_reducible rfl))
        (try simp only [Act.put, List.setIfInBounds_toArray, List.set_cons_zero, List.set_cons_succ])
        refine' wpAnyH_take (i := 23) (oi := _) (v := _) ?hi746 (by kernel_rfl) (by kernel_rfl) (by kernel_rfl) ?hq746 (Or.inl ⟨?hw746, ?hy746⟩) (by assumption) ?rest746
        case hi746 => (simp only [List.getElem?_toArray, List.getElem?_cons_succ, List.getElem?_cons_zero]; rfl)
        case hq746 => exact fun _ _ _ h => h
        case hw746 => rfl
        case hy746 => (intro wq hSw; (try dsimp only at hSw); go_simp; (try with_reducible rfl))
        (try simp only [Act.put, List.setIfInBounds_toArray, List.set_cons_zero, List.set_cons_succ])
        refine' wpAnyH_take (i := 24) (oi := _) (v := _) ?hi747 (by kernel_rfl) (by kernel_rfl) (by kernel_rfl) ?hq747 (Or.inl ⟨?hw747, ?hy747⟩) (by assumption) ?rest747
        case hi747 => (simp only [List.getElem?_toArray, List.getElem?_cons_succ, List.getElem?_cons_zero]; rfl)
        case hq747 => exact fun _ _ _ h => h
        case hw747 => rfl
        case hy747 => (intro wq hSw; (try dsimp only at hSw); go_simp; (try with_reducible rfl))
        (try simp only [Act.put, List.setIfInBounds_toArray, List.set_cons_zero, List.set_cons_succ])
        refine' wpAnyH_take (i := 25) (oi := _) (v := _) ?hi748 (by kernel_rfl) (by kernel_rfl) (by kernel_rfl) ?hq748 (Or.inl ⟨?hw748, ?hy748⟩) (by assumption) ?rest748
        case hi748 => (simp only [List.getElem?_toArray, List.getElem?_cons_succ, List.getElem?_cons_zero]; rfl)
        case hq748 => exact fun _ _ _ h => h
        case hw748 => rfl
        case hy748 => (intro wq hSw; (try dsimp only at hSw); go_simp; (try with_reducible rfl))
        (try simp only [Act.put, List.setIfInBounds_toArray, List.set_cons_zero, List.set_cons_succ])
        refine wpAnyH_ready (rs := [20]) (by kernel_rfl) (by simp) ?_
        refine' AllReadyH.cons (o := _) ?hi749 (fun K hK => ?rest749) AllReadyH.nil
        case hi749 => (simp only [List.getElem?_toArray, List.getElem?_cons_succ, List.getElem?_cons_zero]; rfl)
        go_simp
        have B6 := Lib.hid (B5.out.alloc B5.out.size (.cells (row (zeros xs.length)) 3))
        have RZ2 := Lib.hid (rds_mk u5 (zeros xs.length))
        generalize u5.alloc (.cells (row (zeros xs.length)) 3) = u6 at *
        generalize u5.heap.size = p2 at *
        clear B5
        refine hK.out _ _ (by (try dsimp only); exact B6.out) (fun hHeld => ?_)
        clear hK K
        (try simp only [Act.put, List.setIfInBounds_toArray, List.set_cons_zero, List.set_cons_succ])
        refine wpAnyH_ready (rs := [22]) (by kernel_rfl) (by simp) ?_
        refine' AllReadyH.cons (o := _) ?hi750 (fun K hK => ?rest750) AllReadyH.nil
        case hi750 => (simp only [List.getElem?_toArray, List.getElem?_cons_succ, List.getElem?_cons_zero]; rfl)
        go_simp
        go_at_call 5
        refine (HF4.out u6 p2 B6.out RZ2.out).mono ?_
        rintro e u7 ⟨A6, c6, rfl, hR6, hb6⟩
        have B7 := Lib.hid (B6.out.trans (hb6.mono B6.out.size))
        have R6 := Lib.hid hR6
        clear hR6 hb6 B6 RZ2
        go_wp2_with fail
        refine hK.out _ _ (by (try dsimp only); exact B7.out) (fun hHeld => ?_)
        clear hK K
        (try simp only [Act.put, List.setIfInBounds_toArray, List.set_cons_zero, List.set_cons_succ])
        refine wpAnyH_ready (rs := [26]) (by kernel_rfl) (by simp) ?_
        refine' AllReadyH.cons (o := _) ?hi751 (fun K hK => ?rest751) AllReadyH.nil
        case hi751 => (simp only [List.getElem?_toArray, List.getElem?_cons_succ, List.getElem?_cons_zero]; rfl)
        go_simp
        go_at_call 5
        refine (HF1.out u7 B7.out).mono ?_
        rintro e u8 ⟨A7, c7, rfl, hR7, hb7⟩
        have B8 := Lib.hid (B7.out.trans (hb7.mono B7.out.size))
        have R7 := Lib.hid hR7
        have R8 := Lib.hid ((R6.out.below hb7).more hb7.size)
        clear hR7 hb7 B7 R6
        go_wp2_with fail
        refine hK.out _ _ (by (try dsimp only); exact B8.out) (fun hHeld => ?_)
        clear hK K
        (try simp only [Act.put, List.setIfInBounds_toArray, List.set_cons_zero, List.set_cons_succ])
        refine wpAnyH_ready (rs := [27]) (by kernel_rfl) (by simp) ?_
        refine' AllReadyH.cons (o := _) ?hi752 (fun K hK => ?rest752) AllReadyH.nil
        case hi752 => (simp only [List.getElem?_toArray, List.getElem?_cons_succ, List.getElem?_cons_zero]; rfl)
        go_simp
        go_at_call 6
        refine (HEq1.out u8 A6 c6 A7 c7 R8.out R7.out).mono ?_
        rintro e u9 ⟨rfl, j9, rfl⟩
        have B9 : Hid (Below w4.heap.size w4 (u8.drewN j9)) := Lib.hid (dnS B8.out j9)
        generalize u8.drewN j9 = u9 at *
        clear R7 R8 B8
        go_wp2_with fail
        refine hK.out _ _ (by (try dsimp only); exact B9.out) (fun hHeld => ?_)
        clear hK K
        (try simp only [Act.put, List.setIfInBounds_toArray, List.set_cons_zero, List.set_cons_succ])
        refine' wpAnyH_take (i := 28) (oi := _) (v := _) ?hi753 (by kernel_rfl) (by kernel_rfl) (by kernel_rfl) ?hq753 (Or.inl ⟨?hw753, ?hy753⟩) (by assumption) ?rest753
        case hi753 => (simp only [List.getElem?_toArray, List.getElem?_cons_succ, List.getElem?_cons_zero]; rfl)
        case hq753 => exact fun _ _ _ h => h
        case hw753 => rfl
        case hy753 => (intro wq hSw; (try dsimp only at hSw); go_simp; (try with_reducible rfl))
        (try simp only [Act.put, List.setIfInBounds_toArray, List.set_cons_zero, List.set_cons_succ])
        refine' wpAnyH_take (i := 29) (oi := _) (v := _) ?hi754 (by kernel_rfl) (by kernel_rfl) (by kernel_rfl) ?hq754 (Or.inl ⟨?hw754, ?hy754⟩) (by assumption) ?rest754
        case hi754 => (simp only [List.getElem?_toArray, List.getElem?_cons_succ, List.getElem?_cons_zero]; rfl)
        case hq754 => exact fun _ _ _ h => h
        case hw754 => rfl
        case hy754 => (intro wq hSw; (try dsimp only at hSw); go_simp; (try with_reducible rfl))
        (try simp only [Act.put, List.setIfInBounds_toArray, List.set_cons_zero, List.set_cons_succ])
        refine wpAnyH_done (by kernel_rfl) ?_ _
        have HE := Lib.hid (HB4.out.trans (B9.out.mono HB4.out.size))
        go_wp2
        go_ret
        exact ⟨rfl, HE.out⟩

/-! ### From the walk to the statement. -/
theorem own : ownKnob Try.prog.godebug = none := by kernel_rfl
theorem laidOut : laidOutB Try.prog = true := by kernel_rfl
set_option maxRecDepth 100000 in
theorem lifted (os : Os) (started : os.Started) (H : Type) (enc : TypeId × Value → H) :
    ReturnsInHanded {} Try.checked os 3 .any (Rows.fnFilterRowSameSpec.pre6 enc Try.prog Try.f3 Rows.fnFilterRowSameRow.domain false) (Rows.fnFilterRowSameSpec.post enc Try.prog Try.f3 false true false false) := by
  refine returnsInHanded_of_change (C := Try.checked) own started (by kernel_rfl) Try.func3
    (ChangeSpec.witness6 (enc := enc) (C := Try.checked) false ⟨#[], #[.slice none 0 0], []⟩ 8 (by kernel_rfl) (by kernel_rfl) (by kernel_rfl) (by kernel_rfl)) ?_
  intro W base args ds gs before hval0 hW hcnd _
  have hval : ∀ (j : Nat) t v, Try.f3.params[j]? = some t → args[j]? = some v → Value.okWide Try.prog W .any base t v := hval0
  have hW' := hW
  obtain ⟨p, q, hA0, hV, rfl, hfz, hnd⟩ := hW
  have hA : DataW.TrodAll enc Try.prog W 0 (fun _ => true) true Try.f3.params.toList args.toList ds p := hA0
  rw [Try.params3] at hA hval
  obtain ⟨v0, vs0, d0, ds0, p0, q0, hargs, rfl, rfl, h0, r0⟩ := trodAll_cons hA
  obtain ⟨rfl, rfl, rfl⟩ := trodAll_nil r0
  obtain rfl : args = #[v0] := by cases args; simp_all
  obtain ⟨rfl, rfl⟩ := trodVars_none hV
  obtain ⟨a0, len0, cap0, rfl⟩ := okWide_slice Try.underlying22 (hval 0 22 v0 rfl rfl)
  have k0 := h0
  have lt0 : ∀ x ∈ p0, x.block < W.heap.size := by obtain ⟨m, hm⟩ := k0; exact DataW.trod_lt m _ _ _ hm
  obtain ⟨z0, hl0, hc0, w0⟩ : ∃ zs : List Int, len0 = zs.length ∧ zs.length ≤ cap0 ∧ Rdw .u8 W W.heap.size a0 zs := by
    obtain ⟨fuel, hf⟩ := h0
    rcases open_ints Try.underlying22 Try.underlying5 (by kernel_rfl) hf with ⟨hcs, _⟩ | ⟨x, l, c, zs, hcs, _, hl, hm, hz, _, hcell, hwz⟩
    · simp [Value.cells] at hcs
      obtain ⟨rfl, rfl, rfl⟩ := hcs
      exact ⟨[], rfl, Nat.le_refl _, Rdw.nil⟩
    · simp [Value.cells] at hcs
      obtain ⟨rfl, rfl, rfl⟩ := hcs
      exact ⟨zs.take len0, by simp at hz ⊢; omega, by simp at hz ⊢; omega, Rdw.of_row hl hm (by simpa using hz) hcell hwz⟩
  subst hl0
  clear hA0 hval0
  refine (walk W a0 cap0 z0 hc0 w0).mono fun e W' ⟨he, bel⟩ => ?_
  subst he
  exact ⟨_, rfl, _, _, _, [], _, [], hW', trodAll_mk1 (shut_bool Try.underlying4 _), (trodAll_cons_mk (Below.trod laidOut (by kernel_rfl) (of_decide_eq_true (by kernel_rfl)) k0 bel lt0) trodAll_mk0), rfl, bel.frame _, fun h => by cases h⟩

theorem over : Rows.fnFilterRowSameRow.holds Try.pinned (OpenSpec.ofChange Rows.fnFilterRowSameSpec) :=
  OpenClaim.holds_of_wide 3 Try.f3 rfl rfl rfl rfl rfl rfl rfl ⟨rfl, rfl, rfl, rfl, rfl⟩ rfl rfl rfl rfl rfl (by kernel_rfl) Try.func3 (by kernel_rfl)
    (of_decide_eq_true (by kernel_rfl)) (by unfold Func.isWrapper; first | (rw [if_pos (by decide +kernel)]; kernel_rfl) | (rw [if_neg (by decide +kernel)]; exact ⟨rfl, rfl⟩))
    (fun os started H enc _ => lifted os started H enc)

theorem proved : Rows.FnFilterRowSameSaid := over
end Go.Proofs.Ytfplmegpkhlhfaa.fnFilterRowSame
