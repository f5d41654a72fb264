/- The program's nearest color. -/
import Derived.Test.YtjcohmljpokgcaaNcM
import Derived.Test.YtjcohmljpokgcaaGap
namespace Go.Proofs.Ytjcohmljpokgcaa
open Go.RowKit Go.Shelf
set_option linter.unusedSimpArgs false
set_option linter.unusedVariables false
set_option maxRecDepth 20000

set_option maxHeartbeats 1000000 in
theorem iVpn_any (A : Option Addr) (c B : Nat) (xs : List Int) (P : Int) (w : World) (h : Rds .i64 w B A xs) (hl : xs.length ≤ 2000000) :
    Calls Try.prog 48 #[.slice A xs.length c, .int .i64 P] w fun e w' => e = .returned (.bool (decide ((xs.length : Int) = P) && allB 0 255 xs)) ∧ w = w' := by
  have Hh := Lib.hid h
  clear h
  by_cases hp : (xs.length : Int) = P
  · have hb : ((xs.length : Int) == P) = true := beq_iff_eq.2 hp
    have HP := Lib.hid hp
    clear hp
    go_enter Try.func48, Try.ntmps48
    go_wp2_with fail
    refine (areBytes_any A c B xs w Hh.out (by omega)).mono ?_
    rintro e w2 ⟨rfl, rfl⟩
    cases hv : allB 0 255 xs <;>
    · have HV := Lib.hid hv
      clear hv
      go_wp2
      go_ret
      exact ⟨ret_bool (by rw [decide_eq_true HP.out, HV.out]; rfl), rfl⟩
  · have hb : ((xs.length : Int) == P) = false := beq_eq_false_iff_ne.2 hp
    have HP := Lib.hid hp
    clear hp
    go_enter Try.func48, Try.ntmps48
    go_wp2
    go_ret
    exact ⟨ret_bool (by rw [decide_eq_false HP.out]; rfl), rfl⟩
/-- The answer of colorsOf. -/
def ClrR (xss : List (List Int)) (P : Int) (w : World) (e : Ending) (w' : World) : Prop :=
  Below w.heap.size w w' ∧ (((decide (1 ≤ P ∧ P ≤ 4) && palB xss P) = false ∧ e = .returned (.tuple #[.slice none 0 0, .bool false])) ∨ ((1 ≤ P ∧ P ≤ 4) ∧ palB xss P = true ∧ ∃ v, e = .returned (.tuple #[v, .bool true]) ∧ OwnC w' w.heap.size v xss.length (clr xss xss.length)))
set_option maxHeartbeats 8000000 in
theorem iClr_any (A : Option Addr) (c n : Nat) (xss : List (List Int)) (P : Int) (w : World) (hn : n = xss.length) (h : Rdss w w.heap.size A xss) (hl : tot xss ≤ 2000000) :
    Calls Try.prog 26 #[.slice A n c, .int .i64 P] w (ClrR xss P w) := by
  have Hh := Lib.hid h
  have Hn := Lib.hid hn
  have HL : Hid (∀ i, i < xss.length → (xss.getD i []).length ≤ 2000000) := Lib.hid fun i hi => Nat.le_trans (len_le_tot hi) hl
  have hnl : n ≤ 2000000 := by rw [hn]; unfold tot at hl; omega
  clear h hn hl
  by_cases h1 : 1 ≤ P ∧ P ≤ 4
  · have H1 := Lib.hid h1
    by_cases h16 : (n : Int) > 16
    · have HF : Hid ((decide (1 ≤ P ∧ P ≤ 4) && palB xss P) = false) := Lib.hid (by
        have : palB xss P = false := by
          unfold palB
          rw [decide_eq_false (show ¬ xss.length ≤ 16 by have := Hn.out; omega), Bool.and_false]
        rw [this, Bool.and_false])
      go_enter Try.func26, Try.ntmps26
      go_wp2_with fail
      refine (iIn_any P 1 4 _).mono ?_
      rintro e w2 ⟨rfl, rfl⟩
      rw [decide_eq_true H1.out]
      clear h1
      go_wp2
      exact bodyPost_ret (v := .tuple #[.slice none 0 0, .bool false]) (by simp [results, Try.results26, go_sem]) rfl ⟨Below.refl _ _, .inl ⟨HF.out, rfl⟩⟩
    have HP16 := Lib.hid (show n ≤ 16 by omega)
    go_enter Try.func26, Try.ntmps26
    go_wp2_with fail
    refine (iIn_any P 1 4 _).mono ?_
    rintro e w2 ⟨rfl, rfl⟩
    rw [decide_eq_true H1.out]
    clear h1
    go_wp2
    go_loopw [6, 8, 19] (fun v x i wr => ∃ k : Nat, k ≤ n ∧ i = .int .i64 k ∧ Hid (clN xss P k) ∧ Hid (OwnC wr w.heap.size v k (clr xss k)) ∧ Hid (Below w.heap.size w wr)) (fun _ _ i _ => n - (intOf i).toNat)
    case atStart => exact ⟨0, Nat.zero_le _, rfl, Lib.hid (fun i hi => by omega), Lib.hid (World.ownsRow_nil _ _ _ _), Lib.hid (Below.refl _ _)⟩
    case round =>
      obtain ⟨k, hk, rfl, HC, HO, HB⟩ := hrel
      by_cases hlt : k < n
      · have hkl : k < xss.length := by have := Hn.out; omega
        obtain ⟨b, off, Ai, ci, rfl, hb, hci, hc0, hr⟩ := Hh.out.at hkl
        have hml := HL.out k hkl
        have hc := (HB.out.cell (p := ⟨b, off + k, none⟩) hb).trans hc0
        have HR := Lib.hid ((hr.below HB.out).more HB.out.size)
        have HNO : Hid ((decide (((xss.getD k []).length : Int) = P) && allB 0 255 (xss.getD k [])) = false → palB xss P = false) := Lib.hid (palB_no hkl)
        have HYES : Hid (((xss.getD k []).length : Int) = P → allB 0 255 (xss.getD k []) = true → clN xss P (k + 1)) := Lib.hid (fun h1 h2 i hi => by
          by_cases e : i = k
          · subst e; exact ⟨h1, h2⟩
          · exact HC.out i (by omega))
        have HE : Hid (clr xss (k + 1) = clr xss k ++ pad4 (xss.getD k [])) := Lib.hid rfl
        obtain ⟨A1, c1, rfl, _⟩ := HO.out.slice
        clear hr hc0
        generalize xss.getD k [] = xs at *
        go_wp2_with fail
        refine (iVpn_any Ai ci _ xs P _ HR.out hml).mono ?_
        rintro e w2 ⟨rfl, rfl⟩
        cases hv : decide ((xs.length : Int) = P) && allB 0 255 xs
        · have HF := Lib.hid (HNO.out hv)
          clear hv
          go_wp2
          exact bodyPost_ret (v := .tuple #[.slice none 0 0, .bool false]) (by simp [results, Try.results26, go_sem]) rfl ⟨HB.out, .inl ⟨by rw [HF.out, Bool.and_false], rfl⟩⟩
        · rw [Bool.and_eq_true] at hv
          have HP := Lib.hid (of_decide_eq_true hv.1)
          have HF := Lib.hid (HYES.out HP.out hv.2)
          have hx4 : xs.length ≤ 4 := by have := HP.out; have := H1.out; omega
          clear hv
          go_wp2_with fail
          refine (colorOf_any Ai ci xs _ HR.out hx4).mono ?_
          rintro e w2 ⟨rfl, hB2⟩
          simp only [colV]
          have hsz := HB.out.size
          have hsz2 := hB2.size
          have HO2 : Hid (OwnC (w2.alloc (.cells #[.int .i64 (xs.getD 0 0), .int .i64 (xs.getD 1 0), .int .i64 (xs.getD 2 0), .int .i64 (xs.getD 3 0)] 62)) w.heap.size (.slice A1 k c1) k (clr xss k)) := Lib.hid ((HO.out.below hB2 (Nat.le_refl _)).alloc _)
          have HB2 : Hid (Below w.heap.size w (w2.alloc (.cells #[.int .i64 (xs.getD 0 0), .int .i64 (xs.getD 1 0), .int .i64 (xs.getD 2 0), .int .i64 (xs.getD 3 0)] 62))) := Lib.hid ((HB.out.trans (hB2.mono hsz)).alloc (by omega) _)
          have HQ := Lib.hid (box_four w2 (fun p => xs.getD p 0))
          have hk2 : k ≤ 1000000 := by omega
          have HZ := Lib.hid (show w.heap.size ≤ (w2.alloc (.cells #[.int .i64 (xs.getD 0 0), .int .i64 (xs.getD 1 0), .int .i64 (xs.getD 2 0), .int .i64 (xs.getD 3 0)] 62)).heap.size by simp; omega)
          have HE2 : Hid (clr xss (k + 1) = clr xss k ++ [xs.getD 0 0, xs.getD 1 0, xs.getD 2 0, xs.getD 3 0]) := HE
          clear hB2 HO HB HNO HYES hsz hsz2 HE
          generalize xs.getD 0 0 = y0 at *
          generalize xs.getD 1 0 = y1 at *
          generalize xs.getD 2 0 = y2 at *
          generalize xs.getD 3 0 = y3 at *
          go_wp2_with (at_builtin; refine wpList_appC rfl (.tmp 27) (.tmp 30) rfl w.heap.size (.slice A1 k c1) k (clr xss k) rfl HO2.out w2.heap.size 1 [y0, y1, y2, y3] rfl rfl HQ.out hk2 HZ.out ?_; intro v3 w3 hO3 hG3)
          go_roundw
          case rel => exact ⟨k + 1, by omega, by go_num, HF, Lib.hid (by rw [HE2.out]; exact hO3), Lib.hid (HB2.out.grown hG3 HZ.out (fun g hg => HO2.out.ge g hg))⟩
          case measure => simp [intOf]; omega
      · have hk' : k = n := by omega
        have HF : Hid (palB xss P = true) := Lib.hid (by
          have hnx := Hn.out
          rw [palB_yes (by rw [← hnx, ← hk']; exact HC.out), ← hnx]
          exact decide_eq_true HP16.out)
        go_wp2
        have hO : OwnC wr w.heap.size u6 xss.length (clr xss xss.length) := by
          have hO := HO.out
          have hnx := Hn.out
          subst hk'
          rw [← hnx]; exact hO
        exact bodyPost_ret (v := .tuple #[u6, .bool true]) (by simp [results, Try.results26, go_sem]) rfl ⟨HB.out, .inr ⟨H1.out, HF.out, _, rfl, hO⟩⟩
  · have HF : Hid ((decide (1 ≤ P ∧ P ≤ 4) && palB xss P) = false) := Lib.hid (by rw [decide_eq_false h1, Bool.false_and])
    have H1 := Lib.hid h1
    go_enter Try.func26, Try.ntmps26
    go_wp2_with fail
    refine (iIn_any P 1 4 _).mono ?_
    rintro e w2 ⟨rfl, rfl⟩
    rw [decide_eq_false H1.out]
    clear h1
    go_wp2
    exact bodyPost_ret (v := .tuple #[.slice none 0 0, .bool false]) (by simp [results, Try.results26, go_sem]) rfl ⟨Below.refl _ _, .inl ⟨HF.out, rfl⟩⟩
theorem clr_cells {w : World} {b off n : Nat} {xss : List (List Int)} (h : ∀ j, j < (clr xss n).length → w.cell? ⟨b, off + j, none⟩ = some (.int .i64 ((clr xss n).getD j 0))) {k : Nat} (hk : k < n) :
    w.cell? ⟨b, off + k * 4, none⟩ = some (.int .i64 ((xss.getD k []).getD 0 0)) ∧ w.cell? ⟨b, off + k * 4 + 1, none⟩ = some (.int .i64 ((xss.getD k []).getD 1 0)) ∧ w.cell? ⟨b, off + k * 4 + 2, none⟩ = some (.int .i64 ((xss.getD k []).getD 2 0)) ∧ w.cell? ⟨b, off + k * 4 + 3, none⟩ = some (.int .i64 ((xss.getD k []).getD 3 0)) := by
  have hl := clr_len xss n
  have e : ∀ p, p < 4 → w.cell? ⟨b, off + (k * 4 + p), none⟩ = some (.int .i64 ((xss.getD k []).getD p 0)) := fun p hp => by rw [h (k * 4 + p) (by omega), clr_get xss k p hp n hk]
  refine ⟨by simpa using e 0 (by omega), ?_, ?_, ?_⟩
  · have := e 1 (by omega); rwa [← Nat.add_assoc] at this
  · have := e 2 (by omega); rwa [← Nat.add_assoc] at this
  · have := e 3 (by omega); rwa [← Nat.add_assoc] at this
set_option maxHeartbeats 16000000 in
theorem iNof_any (A : Option Addr) (c n P : Nat) (xss : List (List Int)) (ys : List Int) (w : World) (hn : n = xss.length) (h16 : n ≤ 16) (hP : P ≤ 4) (hl' : ys.length = P) (hc : clN xss P xss.length) (by' : allB 0 255 ys = true) (h : Rds .i64 w w.heap.size A (clr xss n)) :
    Calls Try.prog 44 #[.slice A n c, colV (fun p => ys.getD p 0)] w fun e w' => e = .returned (.int .i64 (nbI xss ys n)) ∧ Below w.heap.size w w' := by
  have Hh := Lib.hid h
  have Hn := Lib.hid hn
  have HC0 := Lib.hid hc
  have HBY := Lib.hid (byte_all by')
  have HB' := Lib.hid by'
  have Hl' := Lib.hid hl'
  have HS0 := Lib.hid (GS.box' (GS.start w) 62 #[.int .i64 (ys.getD 0 0), .int .i64 (ys.getD 1 0), .int .i64 (ys.getD 2 0), .int .i64 (ys.getD 3 0)] w.heap.size rfl)
  clear h hn hc by' hl'
  simp only [colV]
  obtain ⟨G, hG⟩ : ∃ G : Nat → Int, G = fun p => ys.getD p 0 := ⟨_, rfl⟩
  have HGe := Lib.hid hG
  have e0 : ys.getD 0 0 = G 0 := by rw [hG]
  have e1 : ys.getD 1 0 = G 1 := by rw [hG]
  have e2 : ys.getD 2 0 = G 2 := by rw [hG]
  have e3 : ys.getD 3 0 = G 3 := by rw [hG]
  rw [e0, e1, e2, e3] at HS0 ⊢
  clear hG e0 e1 e2 e3
  go_enter Try.func44, Try.ntmps44
  go_wp2
  go_loopw [5, 6, 7, 10] (fun s o x i wr => ∃ k : Nat, k ≤ n ∧ i = .int .i64 k ∧ s = .int .i64 (nbI xss ys k) ∧ Hid (GS w wr [] [⟨w.heap.size, 62, #[.int .i64 (G 0), .int .i64 (G 1), .int .i64 (G 2), .int .i64 (G 3)]⟩])) (fun _ _ _ i _ => n - (intOf i).toNat)
  case atStart => exact ⟨0, Nat.zero_le _, rfl, rfl, HS0⟩
  case round =>
    obtain ⟨k, hk, rfl, rfl, HS⟩ := hrel
    clear HS0
    by_cases hlt : k < n
    · have hkl : k < xss.length := by have := Hn.out; omega
      have hrd := HS.out.arg Hh.out
      obtain ⟨b, off, rfl, hb, hcs⟩ := hrd.cells_ (j := k * 4) (by rw [clr_len]; omega)
      obtain ⟨x0, x1, x2, x3⟩ := clr_cells hcs hlt
      have hp1 := HC0.out k hkl
      have HC1 := Lib.hid (byte_all hp1.2)
      have hg1 := gpL_bd hP hp1 Hl'.out HB'.out
      have E1 : Hid (cgN (fun p => (xss.getD k []).getD p 0) G 4 = gpL xss ys k) := Lib.hid (by
        rw [HGe.out, cg_gap hP (by have := hp1.1; omega) Hl'.out]
        unfold gpL
        rw [show (xss.getD k []).length = P by have := hp1.1; omega])
      obtain ⟨F, hF⟩ : ∃ F : Nat → Int, F = fun p => (xss.getD k []).getD p 0 := ⟨_, rfl⟩
      have f0 : (xss.getD k []).getD 0 0 = F 0 := by rw [hF]
      have f1 : (xss.getD k []).getD 1 0 = F 1 := by rw [hF]
      have f2 : (xss.getD k []).getD 2 0 = F 2 := by rw [hF]
      have f3 : (xss.getD k []).getD 3 0 = F 3 := by rw [hF]
      have HF1 : Hid (∀ j, j < 4 → 0 ≤ F j ∧ F j ≤ 255) := Lib.hid (fun j _ => by rw [hF]; exact HC1.out j)
      have HG1 : Hid (∀ j, j < 4 → 0 ≤ G j ∧ G j ≤ 255) := Lib.hid (fun j _ => by rw [HGe.out]; exact HBY.out j)
      rw [← hF] at E1
      rw [f0] at x0
      rw [f1] at x1
      rw [f2] at x2
      rw [f3] at x3
      clear HC1 hp1 f0 f1 f2 f3 hF
      have HS1 := Lib.hid (HS.out.box 62 #[.int .i64 (F 0), .int .i64 (F 1), .int .i64 (F 2), .int .i64 (F 3)])
      by_cases hk0 : k = 0
      · have HE : Hid (nbI xss ys (k + 1) = k) := Lib.hid (by unfold nbI; rw [hk0, ncN_one]; rfl)
        have HM : nbI xss ys k = -1 := by rw [hk0]; rfl
        rw [HM]
        clear hcs hrd HM E1 hg1 hk0
        go_upto_region 5 with fail
        clear x0 x1 x2 x3 hb HS
        obtain ⟨gz, hgz⟩ : ∃ gz, gz = wr.heap.size := ⟨_, rfl⟩
        rw [← hgz] at HS1 ⊢
        generalize wr.alloc (.cells #[.int .i64 (F 0), .int .i64 (F 1), .int .i64 (F 2), .int .i64 (F 3)] 62) = u5 at *
        clear hgz
        have HC := Lib.hid HS1.out.drew
        refine wp_region_held_drew (S := (fun w' => (w'.cell? ⟨gz, 0, none⟩ = some (.int .i64 (F 0)) ∧ w'.cell? ⟨gz, 1, none⟩ = some (.int .i64 (F 1)) ∧ w'.cell? ⟨gz, 2, none⟩ = some (.int .i64 (F 2)) ∧ w'.cell? ⟨gz, 3, none⟩ = some (.int .i64 (F 3))))) (by kernel_rfl) (by exact HC.out.c4 (T := 62) (by simp)) (fun hHeld => ?_)
        refine' wpAnyH_take (i := 0) (oi := _) (v := _) ?hi1 (by kernel_rfl) (by kernel_rfl) (by kernel_rfl) ?hq1 (Or.inl ⟨?hw1, ?hy1⟩) (by assumption) ?rest1
        case hi1 => (simp only [List.getElem?_toArray, List.getElem?_cons_succ, List.getElem?_cons_zero]; rfl)
        case hq1 => exact fun _ _ _ h => h
        case hw1 => rfl
        case hy1 => (intro wq hSw; (try dsimp only at hSw); go_simp; (try with_reducible rfl))
        (try simp only [Act.put, List.setIfInBounds_toArray, List.set_cons_zero, List.set_cons_succ])
        refine' wpAnyH_take (i := 1) (oi := _) (v := Value.bool true) ?hi2 (by kernel_rfl) (by kernel_rfl) (by kernel_rfl) ?hq2 (Or.inl ⟨?hw2, ?hy2⟩) (by assumption) ?rest2
        case hi2 => (simp only [List.getElem?_toArray, List.getElem?_cons_succ, List.getElem?_cons_zero]; rfl)
        case hq2 => exact fun _ _ _ h => h
        case hw2 => rfl
        case hy2 => (intro wq hSw; (try dsimp only at hSw); (try go_simp); (first | done | (with_reducible rfl) | rfl | simp))
        (try simp only [Act.put, List.setIfInBounds_toArray, List.set_cons_zero, List.set_cons_succ])
        refine' wpAnyH_take (i := 2) (oi := _) (v := Value.bool true) ?hi3 (by kernel_rfl) (by kernel_rfl) (by kernel_rfl) ?hq3 (Or.inl ⟨?hw3, ?hy3⟩) (by assumption) ?rest3
        case hi3 => (simp only [List.getElem?_toArray, List.getElem?_cons_succ, List.getElem?_cons_zero]; rfl)
        case hq3 => exact fun _ _ _ h => h
        case hw3 => rfl
        case hy3 => (intro wq hSw; (try dsimp only at hSw); (try go_simp); (first | done | (with_reducible rfl) | rfl | simp))
        (try simp only [Act.put, List.setIfInBounds_toArray, List.set_cons_zero, List.set_cons_succ])
        refine' wpAnyH_take (i := 3) (oi := _) (v := undef) ?hi4 (by kernel_rfl) (by kernel_rfl) (by kernel_rfl) ?hq4 (Or.inr ?hw4) (by assumption) ?rest4
        case hi4 => (simp only [List.getElem?_toArray, List.getElem?_cons_succ, List.getElem?_cons_zero]; rfl)
        case hq4 => exact fun _ _ _ h => h
        case hw4 => exact ⟨rfl, rfl⟩
        (try simp only [Act.put, List.setIfInBounds_toArray, List.set_cons_zero, List.set_cons_succ])
        refine' wpAnyH_take (i := 4) (oi := _) (v := undef) ?hi5 (by kernel_rfl) (by kernel_rfl) (by kernel_rfl) ?hq5 (Or.inr ?hw5) (by assumption) ?rest5
        case hi5 => (simp only [List.getElem?_toArray, List.getElem?_cons_succ, List.getElem?_cons_zero]; rfl)
        case hq5 => exact fun _ _ _ h => h
        case hw5 => exact ⟨rfl, rfl⟩
        (try simp only [Act.put, List.setIfInBounds_toArray, List.set_cons_zero, List.set_cons_succ])
        refine' wpAnyH_take (i := 5) (oi := _) (v := undef) ?hi6 (by kernel_rfl) (by kernel_rfl) (by kernel_rfl) ?hq6 (Or.inr ?hw6) (by assumption) ?rest6
        case hi6 => (simp only [List.getElem?_toArray, List.getElem?_cons_succ, List.getElem?_cons_zero]; rfl)
        case hq6 => exact fun _ _ _ h => h
        case hw6 => exact ⟨rfl, rfl⟩
        (try simp only [Act.put, List.setIfInBounds_toArray, List.set_cons_zero, List.set_cons_succ])
        refine' wpAnyH_take (i := 6) (oi := _) (v := undef) ?hi7 (by kernel_rfl) (by kernel_rfl) (by kernel_rfl) ?hq7 (Or.inr ?hw7) (by assumption) ?rest7
        case hi7 => (simp only [List.getElem?_toArray, List.getElem?_cons_succ, List.getElem?_cons_zero]; rfl)
        case hq7 => exact fun _ _ _ h => h
        case hw7 => exact ⟨rfl, rfl⟩
        (try simp only [Act.put, List.setIfInBounds_toArray, List.set_cons_zero, List.set_cons_succ])
        refine' wpAnyH_take (i := 7) (oi := _) (v := undef) ?hi8 (by kernel_rfl) (by kernel_rfl) (by kernel_rfl) ?hq8 (Or.inr ?hw8) (by assumption) ?rest8
        case hi8 => (simp only [List.getElem?_toArray, List.getElem?_cons_succ, List.getElem?_cons_zero]; rfl)
        case hq8 => exact fun _ _ _ h => h
        case hw8 => exact ⟨rfl, rfl⟩
        (try simp only [Act.put, List.setIfInBounds_toArray, List.set_cons_zero, List.set_cons_succ])
        refine' wpAnyH_take (i := 8) (oi := _) (v := undef) ?hi9 (by kernel_rfl) (by kernel_rfl) (by kernel_rfl) ?hq9 (Or.inr ?hw9) (by assumption) ?rest9
        case hi9 => (simp only [List.getElem?_toArray, List.getElem?_cons_succ, List.getElem?_cons_zero]; rfl)
        case hq9 => exact fun _ _ _ h => h
        case hw9 => exact ⟨rfl, rfl⟩
        (try simp only [Act.put, List.setIfInBounds_toArray, List.set_cons_zero, List.set_cons_succ])
        refine' wpAnyH_take (i := 9) (oi := _) (v := undef) ?hi10 (by kernel_rfl) (by kernel_rfl) (by kernel_rfl) ?hq10 (Or.inr ?hw10) (by assumption) ?rest10
        case hi10 => (simp only [List.getElem?_toArray, List.getElem?_cons_succ, List.getElem?_cons_zero]; rfl)
        case hq10 => exact fun _ _ _ h => h
        case hw10 => exact ⟨rfl, rfl⟩
        (try simp only [Act.put, List.setIfInBounds_toArray, List.set_cons_zero, List.set_cons_succ])
        refine' wpAnyH_take (i := 10) (oi := _) (v := undef) ?hi11 (by kernel_rfl) (by kernel_rfl) (by kernel_rfl) ?hq11 (Or.inr ?hw11) (by assumption) ?rest11
        case hi11 => (simp only [List.getElem?_toArray, List.getElem?_cons_succ, List.getElem?_cons_zero]; rfl)
        case hq11 => exact fun _ _ _ h => h
        case hw11 => exact ⟨rfl, rfl⟩
        (try simp only [Act.put, List.setIfInBounds_toArray, List.set_cons_zero, List.set_cons_succ])
        refine' wpAnyH_take (i := 11) (oi := _) (v := undef) ?hi12 (by kernel_rfl) (by kernel_rfl) (by kernel_rfl) ?hq12 (Or.inr ?hw12) (by assumption) ?rest12
        case hi12 => (simp only [List.getElem?_toArray, List.getElem?_cons_succ, List.getElem?_cons_zero]; rfl)
        case hq12 => exact fun _ _ _ h => h
        case hw12 => exact ⟨rfl, rfl⟩
        (try simp only [Act.put, List.setIfInBounds_toArray, List.set_cons_zero, List.set_cons_succ])
        refine' wpAnyH_take (i := 12) (oi := _) (v := undef) ?hi13 (by kernel_rfl) (by kernel_rfl) (by kernel_rfl) ?hq13 (Or.inr ?hw13) (by assumption) ?rest13
        case hi13 => (simp only [List.getElem?_toArray, List.getElem?_cons_succ, List.getElem?_cons_zero]; rfl)
        case hq13 => exact fun _ _ _ h => h
        case hw13 => exact ⟨rfl, rfl⟩
        (try simp only [Act.put, List.setIfInBounds_toArray, List.set_cons_zero, List.set_cons_succ])
        refine' wpAnyH_take (i := 13) (oi := _) (v := Value.bool true) ?hi14 (by kernel_rfl) (by kernel_rfl) (by kernel_rfl) ?hq14 (Or.inl ⟨?hw14, ?hy14⟩) (by assumption) ?rest14
        case hi14 => (simp only [List.getElem?_toArray, List.getElem?_cons_succ, List.getElem?_cons_zero]; rfl)
        case hq14 => exact fun _ _ _ h => h
        case hw14 => rfl
        case hy14 => (intro wq hSw; (try dsimp only at hSw); (try go_simp); (first | done | (with_reducible rfl) | rfl | simp))
        (try simp only [Act.put, List.setIfInBounds_toArray, List.set_cons_zero, List.set_cons_succ])
        refine wpAnyH_done (by kernel_rfl) ?_ _
        have HFF := Lib.hid (show GS _ _ _ _ from ⟨HC.out.1, HC.out.2.1, HC.out.2.2.1, fun b hm => HC.out.2.2.2.1 b (List.mem_cons_of_mem _ hm), (List.pairwise_cons.1 HC.out.2.2.2.2).2⟩)
        clear HC HS1
        go_wp2
        go_roundw
        case rel => exact ⟨k + 1, by omega, by go_num, by rw [HE.out], HFF⟩
        case measure => simp [intOf]; omega
      · have hz := ncN_lt xss ys k (by omega)
        have HM : Hid (nbI xss ys k = ncN xss ys k) := Lib.hid (by unfold nbI; rw [if_neg hk0])
        have HE : Hid (nbI xss ys (k + 1) = if gpL xss ys k < gpL xss ys (ncN xss ys k) then (k : Int) else (ncN xss ys k : Nat)) := Lib.hid (by
          unfold nbI
          rw [if_neg (by omega)]
          show ((if gpL xss ys k < gpL xss ys (ncN xss ys k) then k else ncN xss ys k : Nat) : Int) = _
          split <;> rfl)
        rw [HM.out]
        generalize ncN xss ys k = z at *
        have hzl : z < xss.length := by omega
        obtain ⟨z0, z1, z2, z3⟩ := clr_cells hcs (show z < n by omega)
        have hp2 := HC0.out z hzl
        have HC2 := Lib.hid (byte_all hp2.2)
        have hg2 := gpL_bd hP hp2 Hl'.out HB'.out
        have E2 : Hid (cgN (fun p => (xss.getD z []).getD p 0) G 4 = gpL xss ys z) := Lib.hid (by
          rw [HGe.out, cg_gap hP (by have := hp2.1; omega) Hl'.out]
          unfold gpL
          rw [show (xss.getD z []).length = P by have := hp2.1; omega])
        obtain ⟨D, hD⟩ : ∃ D : Nat → Int, D = fun p => (xss.getD z []).getD p 0 := ⟨_, rfl⟩
        have f0 : (xss.getD z []).getD 0 0 = D 0 := by rw [hD]
        have f1 : (xss.getD z []).getD 1 0 = D 1 := by rw [hD]
        have f2 : (xss.getD z []).getD 2 0 = D 2 := by rw [hD]
        have f3 : (xss.getD z []).getD 3 0 = D 3 := by rw [hD]
        have HD1 : Hid (∀ j, j < 4 → 0 ≤ D j ∧ D j ≤ 255) := Lib.hid (fun j _ => by rw [hD]; exact HC2.out j)
        rw [← hD] at E2
        rw [f0] at z0
        rw [f1] at z1
        rw [f2] at z2
        rw [f3] at z3
        clear HC2 hp2 f0 f1 f2 f3 hD hcs hrd HM
        generalize gpL xss ys k = g1 at *
        generalize gpL xss ys z = g2 at *
        have HY0 := Lib.hid (show ((wr.alloc (.cells #[.int .i64 (F 0), .int .i64 (F 1), .int .i64 (F 2), .int .i64 (F 3)] 62)).cell? ⟨b, off + z * 4, none⟩ = some (.int .i64 (D 0)) ∧ (wr.alloc (.cells #[.int .i64 (F 0), .int .i64 (F 1), .int .i64 (F 2), .int .i64 (F 3)] 62)).cell? ⟨b, off + z * 4 + 1, none⟩ = some (.int .i64 (D 1)) ∧ (wr.alloc (.cells #[.int .i64 (F 0), .int .i64 (F 1), .int .i64 (F 2), .int .i64 (F 3)] 62)).cell? ⟨b, off + z * 4 + 2, none⟩ = some (.int .i64 (D 2)) ∧ (wr.alloc (.cells #[.int .i64 (F 0), .int .i64 (F 1), .int .i64 (F 2), .int .i64 (F 3)] 62)).cell? ⟨b, off + z * 4 + 3, none⟩ = some (.int .i64 (D 3))) from ⟨(World.cell?_alloc_lt wr _ _ hb).trans z0, (World.cell?_alloc_lt wr _ _ hb).trans z1, (World.cell?_alloc_lt wr _ _ hb).trans z2, (World.cell?_alloc_lt wr _ _ hb).trans z3⟩)
        have hbz : b < (wr.alloc (.cells #[.int .i64 (F 0), .int .i64 (F 1), .int .i64 (F 2), .int .i64 (F 3)] 62)).heap.size := by simp; omega
        go_upto_region 5 with fail
        clear x0 x1 x2 x3 z0 z1 z2 z3 hb HS
        obtain ⟨gz, hgz⟩ : ∃ gz, gz = wr.heap.size := ⟨_, rfl⟩
        rw [← hgz] at HS1 ⊢
        generalize wr.alloc (.cells #[.int .i64 (F 0), .int .i64 (F 1), .int .i64 (F 2), .int .i64 (F 3)] 62) = u5 at *
        clear hgz
        have HCA := Lib.hid (fun u => icg_any F G HF1.out HG1.out u)
        have HCB := Lib.hid (fun u => icg_any D G HD1.out HG1.out u)
        rw [E1.out] at HCA
        rw [E2.out] at HCB
        unfold colV at HCA HCB
        by_cases hg : g1 < g2
        · rw [if_pos hg] at HE
          have HC := Lib.hid HS1.out.drew
          have hgd : decide (g1 < g2) = true := decide_eq_true hg
          have hzn : decide ((z : Int) < 0) = false := decide_eq_false (by omega)
          have hzn2 : z < n := by omega
          refine wp_region_held_drew (S := (fun w' => (w'.cell? ⟨gz, 0, none⟩ = some (.int .i64 (F 0)) ∧ w'.cell? ⟨gz, 1, none⟩ = some (.int .i64 (F 1)) ∧ w'.cell? ⟨gz, 2, none⟩ = some (.int .i64 (F 2)) ∧ w'.cell? ⟨gz, 3, none⟩ = some (.int .i64 (F 3))) ∧ (w'.cell? ⟨w.heap.size, 0, none⟩ = some (.int .i64 (G 0)) ∧ w'.cell? ⟨w.heap.size, 1, none⟩ = some (.int .i64 (G 1)) ∧ w'.cell? ⟨w.heap.size, 2, none⟩ = some (.int .i64 (G 2)) ∧ w'.cell? ⟨w.heap.size, 3, none⟩ = some (.int .i64 (G 3))) ∧ (w'.cell? ⟨b, off + z * 4, none⟩ = some (.int .i64 (D 0)) ∧ w'.cell? ⟨b, off + z * 4 + 1, none⟩ = some (.int .i64 (D 1)) ∧ w'.cell? ⟨b, off + z * 4 + 2, none⟩ = some (.int .i64 (D 2)) ∧ w'.cell? ⟨b, off + z * 4 + 3, none⟩ = some (.int .i64 (D 3))))) (by kernel_rfl) (by exact ⟨HC.out.c4 (T := 62) (by simp), HC.out.c4 (T := 62) (by simp), HY0.out⟩) (fun hHeld => ?_)
          refine' wpAnyH_take (i := 0) (oi := _) (v := _) ?hi15 (by kernel_rfl) (by kernel_rfl) (by kernel_rfl) ?hq15 (Or.inl ⟨?hw15, ?hy15⟩) (by assumption) ?rest15
          case hi15 => (simp only [List.getElem?_toArray, List.getElem?_cons_succ, List.getElem?_cons_zero]; rfl)
          case hq15 => exact fun _ _ _ h => h
          case hw15 => rfl
          case hy15 => (intro wq hSw; (try dsimp only at hSw); go_simp; (try with_reducible rfl))
          (try simp only [Act.put, List.setIfInBounds_toArray, List.set_cons_zero, List.set_cons_succ])
          refine' wpAnyH_take (i := 1) (oi := _) (v := Value.bool false) ?hi16 (by kernel_rfl) (by kernel_rfl) (by kernel_rfl) ?hq16 (Or.inl ⟨?hw16, ?hy16⟩) (by assumption) ?rest16
          case hi16 => (simp only [List.getElem?_toArray, List.getElem?_cons_succ, List.getElem?_cons_zero]; rfl)
          case hq16 => exact fun _ _ _ h => h
          case hw16 => rfl
          case hy16 => (intro wq hSw; (try dsimp only at hSw); (try go_simp); (first | done | (with_reducible rfl) | rfl | exact hzn | rw [hzn] | simp))
          (try simp only [Act.put, List.setIfInBounds_toArray, List.set_cons_zero, List.set_cons_succ])
          refine' wpAnyH_take (i := 2) (oi := _) (v := Value.bool false) ?hi17 (by kernel_rfl) (by kernel_rfl) (by kernel_rfl) ?hq17 (Or.inl ⟨?hw17, ?hy17⟩) (by assumption) ?rest17
          case hi17 => (simp only [List.getElem?_toArray, List.getElem?_cons_succ, List.getElem?_cons_zero]; rfl)
          case hq17 => exact fun _ _ _ h => h
          case hw17 => rfl
          case hy17 => (intro wq hSw; (try dsimp only at hSw); (try go_simp); (first | done | (with_reducible rfl) | rfl | simp))
          (try simp only [Act.put, List.setIfInBounds_toArray, List.set_cons_zero, List.set_cons_succ])
          refine' wpAnyH_take (i := 3) (oi := _) (v := _) ?hi18 (by kernel_rfl) (by kernel_rfl) (by kernel_rfl) ?hq18 (Or.inl ⟨?hw18, ?hy18⟩) (by assumption) ?rest18
          case hi18 => (simp only [List.getElem?_toArray, List.getElem?_cons_succ, List.getElem?_cons_zero]; rfl)
          case hq18 => exact fun _ _ _ h => h
          case hw18 => rfl
          case hy18 => (intro wq hSw; (try dsimp only at hSw); go_simp; (try with_reducible rfl))
          (try simp only [Act.put, List.setIfInBounds_toArray, List.set_cons_zero, List.set_cons_succ])
          refine' wpAnyH_take (i := 4) (oi := _) (v := _) ?hi19 (by kernel_rfl) (by kernel_rfl) (by kernel_rfl) ?hq19 (Or.inl ⟨?hw19, ?hy19⟩) (by assumption) ?rest19
          case hi19 => (simp only [List.getElem?_toArray, List.getElem?_cons_succ, List.getElem?_cons_zero]; rfl)
          case hq19 => exact fun _ _ _ h => h
          case hw19 => rfl
          case hy19 => (intro wq hSw; (try dsimp only at hSw); go_simp; (try with_reducible rfl))
          (try simp only [Act.put, List.setIfInBounds_toArray, List.set_cons_zero, List.set_cons_succ])
          refine' wpAnyH_take (i := 6) (oi := _) (v := _) ?hi20 (by kernel_rfl) (by kernel_rfl) (by kernel_rfl) ?hq20 (Or.inl ⟨?hw20, ?hy20⟩) (by assumption) ?rest20
          case hi20 => (simp only [List.getElem?_toArray, List.getElem?_cons_succ, List.getElem?_cons_zero]; rfl)
          case hq20 => exact fun _ _ _ h => h
          case hw20 => rfl
          case hy20 => (intro wq hSw; (try dsimp only at hSw); go_simp; (try with_reducible rfl))
          (try simp only [Act.put, List.setIfInBounds_toArray, List.set_cons_zero, List.set_cons_succ])
          refine' wpAnyH_take (i := 7) (oi := _) (v := _) ?hi21 (by kernel_rfl) (by kernel_rfl) (by kernel_rfl) ?hq21 (Or.inl ⟨?hw21, ?hy21⟩) (by assumption) ?rest21
          case hi21 => (simp only [List.getElem?_toArray, List.getElem?_cons_succ, List.getElem?_cons_zero]; rfl)
          case hq21 => exact fun _ _ _ h => h
          case hw21 => rfl
          case hy21 => (intro wq hSw; (try dsimp only at hSw); go_simp; (try with_reducible rfl))
          (try simp only [Act.put, List.setIfInBounds_toArray, List.set_cons_zero, List.set_cons_succ])
          refine' wpAnyH_take (i := 8) (oi := _) (v := _) ?hi22 (by kernel_rfl) (by kernel_rfl) (by kernel_rfl) ?hq22 (Or.inl ⟨?hw22, ?hy22⟩) (by assumption) ?rest22
          case hi22 => (simp only [List.getElem?_toArray, List.getElem?_cons_succ, List.getElem?_cons_zero]; rfl)
          case hq22 => exact fun _ _ _ h => h
          case hw22 => rfl
          case hy22 => (intro wq hSw; (try dsimp only at hSw); go_simp; (try with_reducible rfl))
          (try simp only [Act.put, List.setIfInBounds_toArray, List.set_cons_zero, List.set_cons_succ])
          refine' wpAnyH_take (i := 9) (oi := _) (v := _) ?hi23 (by kernel_rfl) (by kernel_rfl) (by kernel_rfl) ?hq23 (Or.inl ⟨?hw23, ?hy23⟩) (by assumption) ?rest23
          case hi23 => (simp only [List.getElem?_toArray, List.getElem?_cons_succ, List.getElem?_cons_zero]; rfl)
          case hq23 => exact fun _ _ _ h => h
          case hw23 => rfl
          case hy23 => (intro wq hSw; (try dsimp only at hSw); go_simp; (try with_reducible rfl))
          (try simp only [Act.put, List.setIfInBounds_toArray, List.set_cons_zero, List.set_cons_succ])
          refine' wpAnyH_take (i := 10) (oi := _) (v := _) ?hi24 (by kernel_rfl) (by kernel_rfl) (by kernel_rfl) ?hq24 (Or.inl ⟨?hw24, ?hy24⟩) (by assumption) ?rest24
          case hi24 => (simp only [List.getElem?_toArray, List.getElem?_cons_succ, List.getElem?_cons_zero]; rfl)
          case hq24 => exact fun _ _ _ h => h
          case hw24 => rfl
          case hy24 => (intro wq hSw; (try dsimp only at hSw); go_simp; (try with_reducible rfl))
          (try simp only [Act.put, List.setIfInBounds_toArray, List.set_cons_zero, List.set_cons_succ])
          refine wpAnyH_ready (rs := [5]) (by kernel_rfl) (by simp) ?_
          refine' AllReadyH.cons (o := _) ?hi25 (fun K hK => ?rest25) AllReadyH.nil
          case hi25 => (simp only [List.getElem?_toArray, List.getElem?_cons_succ, List.getElem?_cons_zero]; rfl)
          go_simp
          go_at_call 68
          refine Calls.mono (HCA.out _) ?_
          rintro e u6 ⟨rfl, hB⟩
          have HD := Lib.hid (GS.call HC.out hB)
          have HY1 := Lib.hid (And.intro ((hB.cell (p := ⟨b, off + z * 4, none⟩) (by exact hbz)).trans HY0.out.1) (And.intro ((hB.cell (p := ⟨b, off + z * 4 + 1, none⟩) (by exact hbz)).trans HY0.out.2.1) (And.intro ((hB.cell (p := ⟨b, off + z * 4 + 2, none⟩) (by exact hbz)).trans HY0.out.2.2.1) ((hB.cell (p := ⟨b, off + z * 4 + 3, none⟩) (by exact hbz)).trans HY0.out.2.2.2))))
          have hbz2 := Nat.lt_of_lt_of_le hbz hB.size
          clear hB HC HY0 hbz
          have HC := HD
          have HY0 := HY1
          have hbz := hbz2
          clear HD HY1 hbz2
          go_wp2_with fail
          refine hK.out _ _ (by (try dsimp only); exact ⟨HC.out.c4 (T := 62) (by simp), HC.out.c4 (T := 62) (by simp), HY0.out⟩) (fun hHeld => ?_)
          clear hK K
          (try simp only [Act.put, List.setIfInBounds_toArray, List.set_cons_zero, List.set_cons_succ])
          refine wpAnyH_ready (rs := [11]) (by kernel_rfl) (by simp) ?_
          refine' AllReadyH.cons (o := _) ?hi26 (fun K hK => ?rest26) AllReadyH.nil
          case hi26 => (simp only [List.getElem?_toArray, List.getElem?_cons_succ, List.getElem?_cons_zero]; rfl)
          go_simp
          go_at_call 68
          refine Calls.mono (HCB.out _) ?_
          rintro e u6 ⟨rfl, hB⟩
          have HD := Lib.hid (GS.call HC.out hB)
          have HY1 := Lib.hid (And.intro ((hB.cell (p := ⟨b, off + z * 4, none⟩) (by exact hbz)).trans HY0.out.1) (And.intro ((hB.cell (p := ⟨b, off + z * 4 + 1, none⟩) (by exact hbz)).trans HY0.out.2.1) (And.intro ((hB.cell (p := ⟨b, off + z * 4 + 2, none⟩) (by exact hbz)).trans HY0.out.2.2.1) ((hB.cell (p := ⟨b, off + z * 4 + 3, none⟩) (by exact hbz)).trans HY0.out.2.2.2))))
          have hbz2 := Nat.lt_of_lt_of_le hbz hB.size
          clear hB HC HY0 hbz
          have HC := HD
          have HY0 := HY1
          have hbz := hbz2
          clear HD HY1 hbz2
          go_wp2_with fail
          refine hK.out _ _ (by (try dsimp only); exact ⟨HC.out.c4 (T := 62) (by simp), HC.out.c4 (T := 62) (by simp), HY0.out⟩) (fun hHeld => ?_)
          clear hK K
          (try simp only [Act.put, List.setIfInBounds_toArray, List.set_cons_zero, List.set_cons_succ])
          refine' wpAnyH_take (i := 12) (oi := _) (v := Value.bool true) ?hi27 (by kernel_rfl) (by kernel_rfl) (by kernel_rfl) ?hq27 (Or.inl ⟨?hw27, ?hy27⟩) (by assumption) ?rest27
          case hi27 => (simp only [List.getElem?_toArray, List.getElem?_cons_succ, List.getElem?_cons_zero]; rfl)
          case hq27 => exact fun _ _ _ h => h
          case hw27 => rfl
          case hy27 => (intro wq hSw; (try dsimp only at hSw); (try go_simp); (first | done | (with_reducible rfl) | rfl | exact hgd | rw [hgd] | simp))
          (try simp only [Act.put, List.setIfInBounds_toArray, List.set_cons_zero, List.set_cons_succ])
          refine' wpAnyH_take (i := 13) (oi := _) (v := Value.bool true) ?hi28 (by kernel_rfl) (by kernel_rfl) (by kernel_rfl) ?hq28 (Or.inl ⟨?hw28, ?hy28⟩) (by assumption) ?rest28
          case hi28 => (simp only [List.getElem?_toArray, List.getElem?_cons_succ, List.getElem?_cons_zero]; rfl)
          case hq28 => exact fun _ _ _ h => h
          case hw28 => rfl
          case hy28 => (intro wq hSw; (try dsimp only at hSw); (try go_simp); (first | done | (with_reducible rfl) | rfl | simp))
          (try simp only [Act.put, List.setIfInBounds_toArray, List.set_cons_zero, List.set_cons_succ])
          refine wpAnyH_done (by kernel_rfl) ?_ _
          have HFF := Lib.hid (show GS _ _ _ _ from ⟨HC.out.1, HC.out.2.1, HC.out.2.2.1, fun b hm => HC.out.2.2.2.1 b (List.mem_cons_of_mem _ hm), (List.pairwise_cons.1 HC.out.2.2.2.2).2⟩)
          clear HC HS1 HY0 hbz
          go_wp2
          go_roundw
          case rel => exact ⟨k + 1, by omega, by go_num, by rw [HE.out], HFF⟩
          case measure => simp [intOf]; omega
        · rw [if_neg hg] at HE
          have HC := Lib.hid HS1.out.drew
          have hgd : decide (g1 < g2) = false := decide_eq_false hg
          have hzn : decide ((z : Int) < 0) = false := decide_eq_false (by omega)
          have hzn2 : z < n := by omega
          refine wp_region_held_drew (S := (fun w' => (w'.cell? ⟨gz, 0, none⟩ = some (.int .i64 (F 0)) ∧ w'.cell? ⟨gz, 1, none⟩ = some (.int .i64 (F 1)) ∧ w'.cell? ⟨gz, 2, none⟩ = some (.int .i64 (F 2)) ∧ w'.cell? ⟨gz, 3, none⟩ = some (.int .i64 (F 3))) ∧ (w'.cell? ⟨w.heap.size, 0, none⟩ = some (.int .i64 (G 0)) ∧ w'.cell? ⟨w.heap.size, 1, none⟩ = some (.int .i64 (G 1)) ∧ w'.cell? ⟨w.heap.size, 2, none⟩ = some (.int .i64 (G 2)) ∧ w'.cell? ⟨w.heap.size, 3, none⟩ = some (.int .i64 (G 3))) ∧ (w'.cell? ⟨b, off + z * 4, none⟩ = some (.int .i64 (D 0)) ∧ w'.cell? ⟨b, off + z * 4 + 1, none⟩ = some (.int .i64 (D 1)) ∧ w'.cell? ⟨b, off + z * 4 + 2, none⟩ = some (.int .i64 (D 2)) ∧ w'.cell? ⟨b, off + z * 4 + 3, none⟩ = some (.int .i64 (D 3))))) (by kernel_rfl) (by exact ⟨HC.out.c4 (T := 62) (by simp), HC.out.c4 (T := 62) (by simp), HY0.out⟩) (fun hHeld => ?_)
          refine' wpAnyH_take (i := 0) (oi := _) (v := _) ?hi29 (by kernel_rfl) (by kernel_rfl) (by kernel_rfl) ?hq29 (Or.inl ⟨?hw29, ?hy29⟩) (by assumption) ?rest29
          case hi29 => (simp only [List.getElem?_toArray, List.getElem?_cons_succ, List.getElem?_cons_zero]; rfl)
          case hq29 => exact fun _ _ _ h => h
          case hw29 => rfl
          case hy29 => (intro wq hSw; (try dsimp only at hSw); go_simp; (try with_reducible rfl))
          (try simp only [Act.put, List.setIfInBounds_toArray, List.set_cons_zero, List.set_cons_succ])
          refine' wpAnyH_take (i := 1) (oi := _) (v := Value.bool false) ?hi30 (by kernel_rfl) (by kernel_rfl) (by kernel_rfl) ?hq30 (Or.inl ⟨?hw30, ?hy30⟩) (by assumption) ?rest30
          case hi30 => (simp only [List.getElem?_toArray, List.getElem?_cons_succ, List.getElem?_cons_zero]; rfl)
          case hq30 => exact fun _ _ _ h => h
          case hw30 => rfl
          case hy30 => (intro wq hSw; (try dsimp only at hSw); (try go_simp); (first | done | (with_reducible rfl) | rfl | exact hzn | rw [hzn] | simp))
          (try simp only [Act.put, List.setIfInBounds_toArray, List.set_cons_zero, List.set_cons_succ])
          refine' wpAnyH_take (i := 2) (oi := _) (v := Value.bool false) ?hi31 (by kernel_rfl) (by kernel_rfl) (by kernel_rfl) ?hq31 (Or.inl ⟨?hw31, ?hy31⟩) (by assumption) ?rest31
          case hi31 => (simp only [List.getElem?_toArray, List.getElem?_cons_succ, List.getElem?_cons_zero]; rfl)
          case hq31 => exact fun _ _ _ h => h
          case hw31 => rfl
          case hy31 => (intro wq hSw; (try dsimp only at hSw); (try go_simp); (first | done | (with_reducible rfl) | rfl | simp))
          (try simp only [Act.put, List.setIfInBounds_toArray, List.set_cons_zero, List.set_cons_succ])
          refine' wpAnyH_take (i := 3) (oi := _) (v := _) ?hi32 (by kernel_rfl) (by kernel_rfl) (by kernel_rfl) ?hq32 (Or.inl ⟨?hw32, ?hy32⟩) (by assumption) ?rest32
          case hi32 => (simp only [List.getElem?_toArray, List.getElem?_cons_succ, List.getElem?_cons_zero]; rfl)
          case hq32 => exact fun _ _ _ h => h
          case hw32 => rfl
          case hy32 => (intro wq hSw; (try dsimp only at hSw); go_simp; (try with_reducible rfl))
          (try simp only [Act.put, List.setIfInBounds_toArray, List.set_cons_zero, List.set_cons_succ])
          refine' wpAnyH_take (i := 4) (oi := _) (v := _) ?hi33 (by kernel_rfl) (by kernel_rfl) (by kernel_rfl) ?hq33 (Or.inl ⟨?hw33, ?hy33⟩) (by assumption) ?rest33
          case hi33 => (simp only [List.getElem?_toArray, List.getElem?_cons_succ, List.getElem?_cons_zero]; rfl)
          case hq33 => exact fun _ _ _ h => h
          case hw33 => rfl
          case hy33 => (intro wq hSw; (try dsimp only at hSw); go_simp; (try with_reducible rfl))
          (try simp only [Act.put, List.setIfInBounds_toArray, List.set_cons_zero, List.set_cons_succ])
          refine' wpAnyH_take (i := 6) (oi := _) (v := _) ?hi34 (by kernel_rfl) (by kernel_rfl) (by kernel_rfl) ?hq34 (Or.inl ⟨?hw34, ?hy34⟩) (by assumption) ?rest34
          case hi34 => (simp only [List.getElem?_toArray, List.getElem?_cons_succ, List.getElem?_cons_zero]; rfl)
          case hq34 => exact fun _ _ _ h => h
          case hw34 => rfl
          case hy34 => (intro wq hSw; (try dsimp only at hSw); go_simp; (try with_reducible rfl))
          (try simp only [Act.put, List.setIfInBounds_toArray, List.set_cons_zero, List.set_cons_succ])
          refine' wpAnyH_take (i := 7) (oi := _) (v := _) ?hi35 (by kernel_rfl) (by kernel_rfl) (by kernel_rfl) ?hq35 (Or.inl ⟨?hw35, ?hy35⟩) (by assumption) ?rest35
          case hi35 => (simp only [List.getElem?_toArray, List.getElem?_cons_succ, List.getElem?_cons_zero]; rfl)
          case hq35 => exact fun _ _ _ h => h
          case hw35 => rfl
          case hy35 => (intro wq hSw; (try dsimp only at hSw); go_simp; (try with_reducible rfl))
          (try simp only [Act.put, List.setIfInBounds_toArray, List.set_cons_zero, List.set_cons_succ])
          refine' wpAnyH_take (i := 8) (oi := _) (v := _) ?hi36 (by kernel_rfl) (by kernel_rfl) (by kernel_rfl) ?hq36 (Or.inl ⟨?hw36, ?hy36⟩) (by assumption) ?rest36
          case hi36 => (simp only [List.getElem?_toArray, List.getElem?_cons_succ, List.getElem?_cons_zero]; rfl)
          case hq36 => exact fun _ _ _ h => h
          case hw36 => rfl
          case hy36 => (intro wq hSw; (try dsimp only at hSw); go_simp; (try with_reducible rfl))
          (try simp only [Act.put, List.setIfInBounds_toArray, List.set_cons_zero, List.set_cons_succ])
          refine' wpAnyH_take (i := 9) (oi := _) (v := _) ?hi37 (by kernel_rfl) (by kernel_rfl) (by kernel_rfl) ?hq37 (Or.inl ⟨?hw37, ?hy37⟩) (by assumption) ?rest37
          case hi37 => (simp only [List.getElem?_toArray, List.getElem?_cons_succ, List.getElem?_cons_zero]; rfl)
          case hq37 => exact fun _ _ _ h => h
          case hw37 => rfl
          case hy37 => (intro wq hSw; (try dsimp only at hSw); go_simp; (try with_reducible rfl))
          (try simp only [Act.put, List.setIfInBounds_toArray, List.set_cons_zero, List.set_cons_succ])
          refine' wpAnyH_take (i := 10) (oi := _) (v := _) ?hi38 (by kernel_rfl) (by kernel_rfl) (by kernel_rfl) ?hq38 (Or.inl ⟨?hw38, ?hy38⟩) (by assumption) ?rest38
          case hi38 => (simp only [List.getElem?_toArray, List.getElem?_cons_succ, List.getElem?_cons_zero]; rfl)
          case hq38 => exact fun _ _ _ h => h
          case hw38 => rfl
          case hy38 => (intro wq hSw; (try dsimp only at hSw); go_simp; (try with_reducible rfl))
          (try simp only [Act.put, List.setIfInBounds_toArray, List.set_cons_zero, List.set_cons_succ])
          refine wpAnyH_ready (rs := [5]) (by kernel_rfl) (by simp) ?_
          refine' AllReadyH.cons (o := _) ?hi39 (fun K hK => ?rest39) AllReadyH.nil
          case hi39 => (simp only [List.getElem?_toArray, List.getElem?_cons_succ, List.getElem?_cons_zero]; rfl)
          go_simp
          go_at_call 68
          refine Calls.mono (HCA.out _) ?_
          rintro e u6 ⟨rfl, hB⟩
          have HD := Lib.hid (GS.call HC.out hB)
          have HY1 := Lib.hid (And.intro ((hB.cell (p := ⟨b, off + z * 4, none⟩) (by exact hbz)).trans HY0.out.1) (And.intro ((hB.cell (p := ⟨b, off + z * 4 + 1, none⟩) (by exact hbz)).trans HY0.out.2.1) (And.intro ((hB.cell (p := ⟨b, off + z * 4 + 2, none⟩) (by exact hbz)).trans HY0.out.2.2.1) ((hB.cell (p := ⟨b, off + z * 4 + 3, none⟩) (by exact hbz)).trans HY0.out.2.2.2))))
          have hbz2 := Nat.lt_of_lt_of_le hbz hB.size
          clear hB HC HY0 hbz
          have HC := HD
          have HY0 := HY1
          have hbz := hbz2
          clear HD HY1 hbz2
          go_wp2_with fail
          refine hK.out _ _ (by (try dsimp only); exact ⟨HC.out.c4 (T := 62) (by simp), HC.out.c4 (T := 62) (by simp), HY0.out⟩) (fun hHeld => ?_)
          clear hK K
          (try simp only [Act.put, List.setIfInBounds_toArray, List.set_cons_zero, List.set_cons_succ])
          refine wpAnyH_ready (rs := [11]) (by kernel_rfl) (by simp) ?_
          refine' AllReadyH.cons (o := _) ?hi40 (fun K hK => ?rest40) AllReadyH.nil
          case hi40 => (simp only [List.getElem?_toArray, List.getElem?_cons_succ, List.getElem?_cons_zero]; rfl)
          go_simp
          go_at_call 68
          refine Calls.mono (HCB.out _) ?_
          rintro e u6 ⟨rfl, hB⟩
          have HD := Lib.hid (GS.call HC.out hB)
          have HY1 := Lib.hid (And.intro ((hB.cell (p := ⟨b, off + z * 4, none⟩) (by exact hbz)).trans HY0.out.1) (And.intro ((hB.cell (p := ⟨b, off + z * 4 + 1, none⟩) (by exact hbz)).trans HY0.out.2.1) (And.intro ((hB.cell (p := ⟨b, off + z * 4 + 2, none⟩) (by exact hbz)).trans HY0.out.2.2.1) ((hB.cell (p := ⟨b, off + z * 4 + 3, none⟩) (by exact hbz)).trans HY0.out.2.2.2))))
          have hbz2 := Nat.lt_of_lt_of_le hbz hB.size
          clear hB HC HY0 hbz
          have HC := HD
          have HY0 := HY1
          have hbz := hbz2
          clear HD HY1 hbz2
          go_wp2_with fail
          refine hK.out _ _ (by (try dsimp only); exact ⟨HC.out.c4 (T := 62) (by simp), HC.out.c4 (T := 62) (by simp), HY0.out⟩) (fun hHeld => ?_)
          clear hK K
          (try simp only [Act.put, List.setIfInBounds_toArray, List.set_cons_zero, List.set_cons_succ])
          refine' wpAnyH_take (i := 12) (oi := _) (v := Value.bool false) ?hi41 (by kernel_rfl) (by kernel_rfl) (by kernel_rfl) ?hq41 (Or.inl ⟨?hw41, ?hy41⟩) (by assumption) ?rest41
          case hi41 => (simp only [List.getElem?_toArray, List.getElem?_cons_succ, List.getElem?_cons_zero]; rfl)
          case hq41 => exact fun _ _ _ h => h
          case hw41 => rfl
          case hy41 => (intro wq hSw; (try dsimp only at hSw); (try go_simp); (first | done | (with_reducible rfl) | rfl | exact hgd | rw [hgd] | simp))
          (try simp only [Act.put, List.setIfInBounds_toArray, List.set_cons_zero, List.set_cons_succ])
          refine' wpAnyH_take (i := 13) (oi := _) (v := Value.bool false) ?hi42 (by kernel_rfl) (by kernel_rfl) (by kernel_rfl) ?hq42 (Or.inl ⟨?hw42, ?hy42⟩) (by assumption) ?rest42
          case hi42 => (simp only [List.getElem?_toArray, List.getElem?_cons_succ, List.getElem?_cons_zero]; rfl)
          case hq42 => exact fun _ _ _ h => h
          case hw42 => rfl
          case hy42 => (intro wq hSw; (try dsimp only at hSw); (try go_simp); (first | done | (with_reducible rfl) | rfl | simp))
          (try simp only [Act.put, List.setIfInBounds_toArray, List.set_cons_zero, List.set_cons_succ])
          refine wpAnyH_done (by kernel_rfl) ?_ _
          have HFF := Lib.hid (show GS _ _ _ _ from ⟨HC.out.1, HC.out.2.1, HC.out.2.2.1, fun b hm => HC.out.2.2.2.1 b (List.mem_cons_of_mem _ hm), (List.pairwise_cons.1 HC.out.2.2.2.2).2⟩)
          clear HC HS1 HY0 hbz
          go_wp2
          go_roundw
          case rel => exact ⟨k + 1, by omega, by go_num, by rw [HE.out], HFF⟩
          case measure => simp [intOf]; omega
    · have hk' : k = n := by omega
      subst hk'
      go_wp2
      go_ret
      exact ⟨rfl, HS.out.below⟩
end Go.Proofs.Ytjcohmljpokgcaa
