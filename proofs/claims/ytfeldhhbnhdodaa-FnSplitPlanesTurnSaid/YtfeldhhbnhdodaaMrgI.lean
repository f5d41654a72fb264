/- MergePlanes in the program. -/
import Derived.Test.YtfeldhhbnhdodaaPlnM
import Derived.Test.YtfeldhhbnhdodaaPlnO
import Derived.Test.YtfeldhhbnhdodaaIma
import Derived.Test.YtfeldhhbnhdodaaImgA
import Derived.Test.YtfeldhhbnhdodaaGenP
import Derived.Deep.RegionHeld3
namespace Go.Proofs.Ytfeldhhbnhdodaa
open Go.RowKit Go.Shelf
set_option linter.unusedSimpArgs false
set_option linter.unusedVariables false
set_option maxRecDepth 20000

def vplM (W H P : Int) (xs : List Int) : Bool := vim W H P xs && decide (P = 1)
set_option maxHeartbeats 8000000 in
theorem iVplM_any (W H P : Int) (A : Option Addr) (c : Nat) (xs : List Int) (w : World) (hx : Rds .i64 w w.heap.size A xs) (hl : xs.length ≤ 2000000) :
    Calls Try.prog 57 #[.agg #[.int .i64 W, .int .i64 H, .int .i64 P, .slice A xs.length c]] w fun e w' => e = .returned (.bool (vplM W H P xs)) ∧ Below w.heap.size w w' := by
  have HX := Lib.hid hx
  have HV : Hid (vplM W H P xs = (vim W H P xs && decide (P = 1))) := Lib.hid rfl
  clear hx
  have S0 := (GS.start w).box' 25 #[.int .i64 W, .int .i64 H, .int .i64 P, .slice A xs.length c] w.heap.size (by simp)
  go_enter Try.func57, Try.ntmps57
  go_wp2_with fail
  generalize (w.alloc (.cells #[.int .i64 W, .int .i64 H, .int .i64 P, .slice A xs.length c] 25)) = u0 at *
  refine (iVimg_any W H P A c xs u0 (S0.arg HX.out) hl).mono ?_
  rintro e u1 ⟨rfl, hB⟩
  have S1 := S0.call hB
  clear hB S0
  cases hv : vim W H P xs
  · have HF : Hid (vplM W H P xs = false) := Lib.hid (by rw [HV.out, hv]; rfl)
    clear HV hv
    go_wp2
    go_ret
    exact ⟨ret_bool HF.out.symm, S1.below⟩
  · have HF : Hid (vplM W H P xs = decide (P = 1)) := Lib.hid (by rw [HV.out, hv]; rfl)
    clear HV hv
    obtain ⟨b0, b1, b2, b3⟩ := S1.b0_4
    by_cases h1 : P = 1
    all_goals
      go_wp2
      go_ret
      exact ⟨ret_bool (by rw [HF.out]; (first | rfl | (simp [h1]; done))), S1.below⟩
set_option maxHeartbeats 16000000 in
theorem iCanMerge_any (A : Option Addr) (c n : Nat) (ms : List Imv) (hn : n = ms.length) (w : World) (hx : Rdim w w.heap.size A ms) (hnl : n ≤ 2000000) (hl : ∀ i, i < ms.length → (imv ms i).ds.length ≤ 2000000) :
    Calls Try.prog 34 #[.slice A n c] w fun e w' => e = .returned (.bool (mgOk ms)) ∧ Below w.heap.size w w' := by
  have HX := Lib.hid hx
  have Hn := Lib.hid hn
  have HL := Lib.hid hl
  clear hx hn hl
  go_enter Try.func34, Try.ntmps34
  go_wp2_with fail
  refine (iIn_any (n : Int) 1 4 _).mono ?_
  rintro e w2 ⟨rfl, rfl⟩
  by_cases h14 : 1 ≤ (n : Int) ∧ (n : Int) ≤ 4
  case neg =>
    rw [decide_eq_false h14]
    have Hv : Hid (mgOk ms = false) := Lib.hid (mgOk_len (by rw [← Hn.out]; omega))
    clear h14
    go_wp2
    go_ret
    exact ⟨ret_bool Hv.out.symm, Below.refl _ _⟩
  case pos =>
    rw [decide_eq_true h14]
    have HI0 := Lib.hid (GS.start w)
    have hn1 : 1 ≤ n ∧ n ≤ 4 := by omega
    have hn0 : 0 < n := by omega
    obtain ⟨X0, hX0⟩ : ∃ X, X = (imv ms 0).X := ⟨_, rfl⟩
    obtain ⟨Y0, hY0⟩ : ∃ Y, Y = (imv ms 0).Y := ⟨_, rfl⟩
    have HX0 := Lib.hid hX0
    have HY0 := Lib.hid hY0
    obtain ⟨b, off, A0, c0, rfl, hb, hc0, y0, y1, y2, y3, hr0⟩ := HX.out.at (i := 0) (by rw [← Hn.out]; omega)
    rw [Nat.zero_mul, Nat.add_zero, ← hX0] at y0
    rw [Nat.zero_mul, Nat.add_zero, ← hY0] at y1
    have y0 : w.cell? ⟨b, off, none⟩ = some (.int .i64 X0) := y0
    clear h14 y2 y3 hr0 hX0 hY0 hc0 A0 c0
    go_wp2
    go_loopw [11] (fun i wr => ∃ k : Nat, k ≤ n ∧ i = .int .i64 k ∧ Hid (∀ j, j < k → mgA X0 Y0 (imv ms j) = true) ∧ Hid (GS w wr [] [])) (fun i _ => n - (intOf i).toNat)
    case atStart => exact ⟨0, Nat.zero_le _, rfl, Lib.hid (fun j hj => by omega), HI0⟩
    case round =>
      clear HI0
      obtain ⟨k, hk, rfl, HA, hI⟩ := hrel
      by_cases hlt : k < n
      · have hkl : k < ms.length := by have := Hn.out; omega
        obtain ⟨b', off', Ai, ci, hA', hb', hci, x0, x1, x2, x3, hri⟩ := HX.out.at hkl
        injection hA' with hA'
        injection hA' with e1 e2
        subst e1 e2
        have HLm := Lib.hid (HL.out k hkl)
        have HRi := Lib.hid hri
        obtain ⟨m, hm⟩ : ∃ m, m = imv ms k := ⟨_, rfl⟩
        rw [← hm] at x0 x1 x2 x3 hci HLm HRi
        have HM := Lib.hid hm
        have HMA : Hid (mgA (imv ms 0).X (imv ms 0).Y m = (vplM m.X m.Y m.Z m.ds && decide (m.X = X0) && decide (m.Y = Y0))) := Lib.hid (by rw [HX0.out, HY0.out]; rfl)
        have hx0 := (hI.out.below.cell (p := ⟨b, off + k * 4, none⟩) hb).trans x0
        have hx1 := (hI.out.below.cell (p := ⟨b, off + k * 4 + 1, none⟩) hb).trans x1
        have hx2 := (hI.out.below.cell (p := ⟨b, off + k * 4 + 2, none⟩) hb).trans x2
        have hx3 := (hI.out.below.cell (p := ⟨b, off + k * 4 + 3, none⟩) hb).trans x3
        obtain ⟨mb, hmb⟩ : ∃ mb, mb = wr.heap.size := ⟨_, rfl⟩
        have HC := Lib.hid (GS.drew (GS.box' hI.out 25 #[.int .i64 m.X, .int .i64 m.Y, .int .i64 m.Z, .slice Ai m.ds.length ci] mb hmb))
        have HMb := Lib.hid hmb
        clear hm hri hb' x0 x1 x2 x3 hI
        cases hv : vplM m.X m.Y m.Z m.ds
        · have HVI := Lib.hid hv
          clear hv hmb
          go_upto_region 6 with fail
          rw [← HMb.out]
          generalize wr.alloc (.cells #[.int .i64 m.X, .int .i64 m.Y, .int .i64 m.Z, .slice Ai m.ds.length ci] 25) = wa at *
          refine wp_region_held_drew (S := (fun w' => w'.cell? ⟨mb, 0, none⟩ = some (.int .i64 m.X) ∧ w'.cell? ⟨mb, 1, none⟩ = some (.int .i64 m.Y) ∧ w'.cell? ⟨mb, 2, none⟩ = some (.int .i64 m.Z) ∧ w'.cell? ⟨mb, 3, none⟩ = some (.slice Ai m.ds.length ci) ∧ w'.cell? ⟨b, off, none⟩ = some (.int .i64 X0) ∧ w'.cell? ⟨b, off + 1, none⟩ = some (.int .i64 Y0))) (by kernel_rfl) (by exact ⟨HC.out.b0_4.1, HC.out.b0_4.2.1, HC.out.b0_4.2.2.1, HC.out.b0_4.2.2.2, (HC.out.below.cell (p := ⟨b, off, none⟩) hb).trans y0, (HC.out.below.cell (p := ⟨b, off + 1, none⟩) hb).trans y1⟩) (fun hHeld => ?_)
          refine' wpAnyH_take (i := 0) (oi := _) (v := _) ?hi1 (by kernel_rfl) (by kernel_rfl) (by kernel_rfl) ?hq1 (Or.inl ⟨?hw1, ?hy1⟩) (by assumption) ?rest1
          case hi1 => (simp only [List.getElem?_toArray, List.getElem?_cons_succ, List.getElem?_cons_zero]; rfl)
          case hq1 => exact fun _ _ _ h => h
          case hw1 => rfl
          case hy1 => (intro wq hSw; (try dsimp only at hSw); go_simp; (try with_reducible rfl))
          (try simp only [Act.put, List.setIfInBounds_toArray, List.set_cons_zero, List.set_cons_succ])
          refine wpAnyH_ready (rs := [1]) (by kernel_rfl) (by simp) ?_
          refine' AllReadyH.cons (o := _) ?hi2 (fun K hK => ?rest2) AllReadyH.nil
          case hi2 => (simp only [List.getElem?_toArray, List.getElem?_cons_succ, List.getElem?_cons_zero]; rfl)
          go_simp
          go_at_call 57
          refine (iVplM_any m.X m.Y m.Z Ai ci m.ds _ (HC.out.arg HRi.out) (HLm.out)).mono ?_
          rintro e u5 ⟨rfl, hB5⟩
          have HD := Lib.hid (HC.out.call hB5)
          clear HC hB5
          have HC := HD
          clear HD
          rw [HVI.out]
          go_wp2_with fail
          refine hK.out _ _ (by (try dsimp only); exact ⟨HC.out.b0_4.1, HC.out.b0_4.2.1, HC.out.b0_4.2.2.1, HC.out.b0_4.2.2.2, (HC.out.below.cell (p := ⟨b, off, none⟩) hb).trans y0, (HC.out.below.cell (p := ⟨b, off + 1, none⟩) hb).trans y1⟩) (fun hHeld => ?_)
          clear hK K
          (try simp only [Act.put, List.setIfInBounds_toArray, List.set_cons_zero, List.set_cons_succ])
          refine' wpAnyH_take (i := 2) (oi := _) (v := Value.bool true) ?hi3 (by kernel_rfl) (by kernel_rfl) (by kernel_rfl) ?hq3 (Or.inl ⟨?hw3, ?hy3⟩) (by assumption) ?rest3
          case hi3 => (simp only [List.getElem?_toArray, List.getElem?_cons_succ, List.getElem?_cons_zero]; rfl)
          case hq3 => exact fun _ _ _ h => h
          case hw3 => rfl
          case hy3 => (intro wq hSw; (try dsimp only at hSw); (try go_simp); (first | done | (with_reducible rfl) | rfl | simp))
          (try simp only [Act.put, List.setIfInBounds_toArray, List.set_cons_zero, List.set_cons_succ])
          refine' wpAnyH_take (i := 3) (oi := _) (v := Value.bool true) ?hi4 (by kernel_rfl) (by kernel_rfl) (by kernel_rfl) ?hq4 (Or.inl ⟨?hw4, ?hy4⟩) (by assumption) ?rest4
          case hi4 => (simp only [List.getElem?_toArray, List.getElem?_cons_succ, List.getElem?_cons_zero]; rfl)
          case hq4 => exact fun _ _ _ h => h
          case hw4 => rfl
          case hy4 => (intro wq hSw; (try dsimp only at hSw); (try go_simp); (first | done | (with_reducible rfl) | rfl | simp))
          (try simp only [Act.put, List.setIfInBounds_toArray, List.set_cons_zero, List.set_cons_succ])
          refine' wpAnyH_take (i := 4) (oi := _) (v := undef) ?hi5 (by kernel_rfl) (by kernel_rfl) (by kernel_rfl) ?hq5 (Or.inr ?hw5) (by assumption) ?rest5
          case hi5 => (simp only [List.getElem?_toArray, List.getElem?_cons_succ, List.getElem?_cons_zero]; rfl)
          case hq5 => exact fun _ _ _ h => h
          case hw5 => exact ⟨rfl, rfl⟩
          (try simp only [Act.put, List.setIfInBounds_toArray, List.set_cons_zero, List.set_cons_succ])
          refine' wpAnyH_take (i := 5) (oi := _) (v := undef) ?hi6 (by kernel_rfl) (by kernel_rfl) (by kernel_rfl) ?hq6 (Or.inr ?hw6) (by assumption) ?rest6
          case hi6 => (simp only [List.getElem?_toArray, List.getElem?_cons_succ, List.getElem?_cons_zero]; rfl)
          case hq6 => exact fun _ _ _ h => h
          case hw6 => exact ⟨rfl, rfl⟩
          (try simp only [Act.put, List.setIfInBounds_toArray, List.set_cons_zero, List.set_cons_succ])
          refine' wpAnyH_take (i := 6) (oi := _) (v := undef) ?hi7 (by kernel_rfl) (by kernel_rfl) (by kernel_rfl) ?hq7 (Or.inr ?hw7) (by assumption) ?rest7
          case hi7 => (simp only [List.getElem?_toArray, List.getElem?_cons_succ, List.getElem?_cons_zero]; rfl)
          case hq7 => exact fun _ _ _ h => h
          case hw7 => exact ⟨rfl, rfl⟩
          (try simp only [Act.put, List.setIfInBounds_toArray, List.set_cons_zero, List.set_cons_succ])
          refine' wpAnyH_take (i := 7) (oi := _) (v := undef) ?hi8 (by kernel_rfl) (by kernel_rfl) (by kernel_rfl) ?hq8 (Or.inr ?hw8) (by assumption) ?rest8
          case hi8 => (simp only [List.getElem?_toArray, List.getElem?_cons_succ, List.getElem?_cons_zero]; rfl)
          case hq8 => exact fun _ _ _ h => h
          case hw8 => exact ⟨rfl, rfl⟩
          (try simp only [Act.put, List.setIfInBounds_toArray, List.set_cons_zero, List.set_cons_succ])
          refine' wpAnyH_take (i := 8) (oi := _) (v := undef) ?hi9 (by kernel_rfl) (by kernel_rfl) (by kernel_rfl) ?hq9 (Or.inr ?hw9) (by assumption) ?rest9
          case hi9 => (simp only [List.getElem?_toArray, List.getElem?_cons_succ, List.getElem?_cons_zero]; rfl)
          case hq9 => exact fun _ _ _ h => h
          case hw9 => exact ⟨rfl, rfl⟩
          (try simp only [Act.put, List.setIfInBounds_toArray, List.set_cons_zero, List.set_cons_succ])
          refine' wpAnyH_take (i := 9) (oi := _) (v := undef) ?hi10 (by kernel_rfl) (by kernel_rfl) (by kernel_rfl) ?hq10 (Or.inr ?hw10) (by assumption) ?rest10
          case hi10 => (simp only [List.getElem?_toArray, List.getElem?_cons_succ, List.getElem?_cons_zero]; rfl)
          case hq10 => exact fun _ _ _ h => h
          case hw10 => exact ⟨rfl, rfl⟩
          (try simp only [Act.put, List.setIfInBounds_toArray, List.set_cons_zero, List.set_cons_succ])
          refine' wpAnyH_take (i := 10) (oi := _) (v := undef) ?hi11 (by kernel_rfl) (by kernel_rfl) (by kernel_rfl) ?hq11 (Or.inr ?hw11) (by assumption) ?rest11
          case hi11 => (simp only [List.getElem?_toArray, List.getElem?_cons_succ, List.getElem?_cons_zero]; rfl)
          case hq11 => exact fun _ _ _ h => h
          case hw11 => exact ⟨rfl, rfl⟩
          (try simp only [Act.put, List.setIfInBounds_toArray, List.set_cons_zero, List.set_cons_succ])
          refine' wpAnyH_take (i := 11) (oi := _) (v := Value.bool true) ?hi12 (by kernel_rfl) (by kernel_rfl) (by kernel_rfl) ?hq12 (Or.inl ⟨?hw12, ?hy12⟩) (by assumption) ?rest12
          case hi12 => (simp only [List.getElem?_toArray, List.getElem?_cons_succ, List.getElem?_cons_zero]; rfl)
          case hq12 => exact fun _ _ _ h => h
          case hw12 => rfl
          case hy12 => (intro wq hSw; (try dsimp only at hSw); (try go_simp); (first | done | (with_reducible rfl) | rfl | simp))
          (try simp only [Act.put, List.setIfInBounds_toArray, List.set_cons_zero, List.set_cons_succ])
          refine' wpAnyH_take (i := 12) (oi := _) (v := Value.bool true) ?hi13 (by kernel_rfl) (by kernel_rfl) (by kernel_rfl) ?hq13 (Or.inl ⟨?hw13, ?hy13⟩) (by assumption) ?rest13
          case hi13 => (simp only [List.getElem?_toArray, List.getElem?_cons_succ, List.getElem?_cons_zero]; rfl)
          case hq13 => exact fun _ _ _ h => h
          case hw13 => rfl
          case hy13 => (intro wq hSw; (try dsimp only at hSw); (try go_simp); (first | done | (with_reducible rfl) | rfl | simp))
          (try simp only [Act.put, List.setIfInBounds_toArray, List.set_cons_zero, List.set_cons_succ])
          refine' wpAnyH_take (i := 13) (oi := _) (v := undef) ?hi14 (by kernel_rfl) (by kernel_rfl) (by kernel_rfl) ?hq14 (Or.inr ?hw14) (by assumption) ?rest14
          case hi14 => (simp only [List.getElem?_toArray, List.getElem?_cons_succ, List.getElem?_cons_zero]; rfl)
          case hq14 => exact fun _ _ _ h => h
          case hw14 => exact ⟨rfl, rfl⟩
          (try simp only [Act.put, List.setIfInBounds_toArray, List.set_cons_zero, List.set_cons_succ])
          refine' wpAnyH_take (i := 14) (oi := _) (v := undef) ?hi15 (by kernel_rfl) (by kernel_rfl) (by kernel_rfl) ?hq15 (Or.inr ?hw15) (by assumption) ?rest15
          case hi15 => (simp only [List.getElem?_toArray, List.getElem?_cons_succ, List.getElem?_cons_zero]; rfl)
          case hq15 => exact fun _ _ _ h => h
          case hw15 => exact ⟨rfl, rfl⟩
          (try simp only [Act.put, List.setIfInBounds_toArray, List.set_cons_zero, List.set_cons_succ])
          refine' wpAnyH_take (i := 15) (oi := _) (v := undef) ?hi16 (by kernel_rfl) (by kernel_rfl) (by kernel_rfl) ?hq16 (Or.inr ?hw16) (by assumption) ?rest16
          case hi16 => (simp only [List.getElem?_toArray, List.getElem?_cons_succ, List.getElem?_cons_zero]; rfl)
          case hq16 => exact fun _ _ _ h => h
          case hw16 => exact ⟨rfl, rfl⟩
          (try simp only [Act.put, List.setIfInBounds_toArray, List.set_cons_zero, List.set_cons_succ])
          refine' wpAnyH_take (i := 16) (oi := _) (v := undef) ?hi17 (by kernel_rfl) (by kernel_rfl) (by kernel_rfl) ?hq17 (Or.inr ?hw17) (by assumption) ?rest17
          case hi17 => (simp only [List.getElem?_toArray, List.getElem?_cons_succ, List.getElem?_cons_zero]; rfl)
          case hq17 => exact fun _ _ _ h => h
          case hw17 => exact ⟨rfl, rfl⟩
          (try simp only [Act.put, List.setIfInBounds_toArray, List.set_cons_zero, List.set_cons_succ])
          refine' wpAnyH_take (i := 17) (oi := _) (v := undef) ?hi18 (by kernel_rfl) (by kernel_rfl) (by kernel_rfl) ?hq18 (Or.inr ?hw18) (by assumption) ?rest18
          case hi18 => (simp only [List.getElem?_toArray, List.getElem?_cons_succ, List.getElem?_cons_zero]; rfl)
          case hq18 => exact fun _ _ _ h => h
          case hw18 => exact ⟨rfl, rfl⟩
          (try simp only [Act.put, List.setIfInBounds_toArray, List.set_cons_zero, List.set_cons_succ])
          refine' wpAnyH_take (i := 18) (oi := _) (v := undef) ?hi19 (by kernel_rfl) (by kernel_rfl) (by kernel_rfl) ?hq19 (Or.inr ?hw19) (by assumption) ?rest19
          case hi19 => (simp only [List.getElem?_toArray, List.getElem?_cons_succ, List.getElem?_cons_zero]; rfl)
          case hq19 => exact fun _ _ _ h => h
          case hw19 => exact ⟨rfl, rfl⟩
          (try simp only [Act.put, List.setIfInBounds_toArray, List.set_cons_zero, List.set_cons_succ])
          refine' wpAnyH_take (i := 19) (oi := _) (v := undef) ?hi20 (by kernel_rfl) (by kernel_rfl) (by kernel_rfl) ?hq20 (Or.inr ?hw20) (by assumption) ?rest20
          case hi20 => (simp only [List.getElem?_toArray, List.getElem?_cons_succ, List.getElem?_cons_zero]; rfl)
          case hq20 => exact fun _ _ _ h => h
          case hw20 => exact ⟨rfl, rfl⟩
          (try simp only [Act.put, List.setIfInBounds_toArray, List.set_cons_zero, List.set_cons_succ])
          refine' wpAnyH_take (i := 20) (oi := _) (v := Value.bool true) ?hi21 (by kernel_rfl) (by kernel_rfl) (by kernel_rfl) ?hq21 (Or.inl ⟨?hw21, ?hy21⟩) (by assumption) ?rest21
          case hi21 => (simp only [List.getElem?_toArray, List.getElem?_cons_succ, List.getElem?_cons_zero]; rfl)
          case hq21 => exact fun _ _ _ h => h
          case hw21 => rfl
          case hy21 => (intro wq hSw; (try dsimp only at hSw); (try go_simp); (first | done | (with_reducible rfl) | rfl | simp))
          (try simp only [Act.put, List.setIfInBounds_toArray, List.set_cons_zero, List.set_cons_succ])
          refine wpAnyH_done (by kernel_rfl) ?_ _
          have Hv : Hid (mgOk ms = false) := Lib.hid (mgOk_no hkl (by rw [← HM.out, HMA.out, HVI.out]; rfl))
          have HB := Lib.hid HC.out.below
          clear HC
          go_wp2
          go_ret
          exact ⟨ret_bool Hv.out.symm, HB.out⟩
        have HVI := Lib.hid hv
        clear hv hmb
        by_cases hX : m.X = X0
        case neg =>
          have HXb : Hid (decide (m.X = X0) = false) := Lib.hid (decide_eq_false hX)
          have HXx := Lib.hid hX
          clear hX
          go_upto_region 6 with fail
          rw [← HMb.out]
          generalize wr.alloc (.cells #[.int .i64 m.X, .int .i64 m.Y, .int .i64 m.Z, .slice Ai m.ds.length ci] 25) = wa at *
          refine wp_region_held_drew (S := (fun w' => w'.cell? ⟨mb, 0, none⟩ = some (.int .i64 m.X) ∧ w'.cell? ⟨mb, 1, none⟩ = some (.int .i64 m.Y) ∧ w'.cell? ⟨mb, 2, none⟩ = some (.int .i64 m.Z) ∧ w'.cell? ⟨mb, 3, none⟩ = some (.slice Ai m.ds.length ci) ∧ w'.cell? ⟨b, off, none⟩ = some (.int .i64 X0) ∧ w'.cell? ⟨b, off + 1, none⟩ = some (.int .i64 Y0))) (by kernel_rfl) (by exact ⟨HC.out.b0_4.1, HC.out.b0_4.2.1, HC.out.b0_4.2.2.1, HC.out.b0_4.2.2.2, (HC.out.below.cell (p := ⟨b, off, none⟩) hb).trans y0, (HC.out.below.cell (p := ⟨b, off + 1, none⟩) hb).trans y1⟩) (fun hHeld => ?_)
          refine' wpAnyH_take (i := 0) (oi := _) (v := _) ?hi22 (by kernel_rfl) (by kernel_rfl) (by kernel_rfl) ?hq22 (Or.inl ⟨?hw22, ?hy22⟩) (by assumption) ?rest22
          case hi22 => (simp only [List.getElem?_toArray, List.getElem?_cons_succ, List.getElem?_cons_zero]; rfl)
          case hq22 => exact fun _ _ _ h => h
          case hw22 => rfl
          case hy22 => (intro wq hSw; (try dsimp only at hSw); go_simp; (try with_reducible rfl))
          (try simp only [Act.put, List.setIfInBounds_toArray, List.set_cons_zero, List.set_cons_succ])
          refine wpAnyH_ready (rs := [1]) (by kernel_rfl) (by simp) ?_
          refine' AllReadyH.cons (o := _) ?hi23 (fun K hK => ?rest23) AllReadyH.nil
          case hi23 => (simp only [List.getElem?_toArray, List.getElem?_cons_succ, List.getElem?_cons_zero]; rfl)
          go_simp
          go_at_call 57
          refine (iVplM_any m.X m.Y m.Z Ai ci m.ds _ (HC.out.arg HRi.out) (HLm.out)).mono ?_
          rintro e u5 ⟨rfl, hB5⟩
          have HD := Lib.hid (HC.out.call hB5)
          clear HC hB5
          have HC := HD
          clear HD
          rw [HVI.out]
          go_wp2_with fail
          refine hK.out _ _ (by (try dsimp only); exact ⟨HC.out.b0_4.1, HC.out.b0_4.2.1, HC.out.b0_4.2.2.1, HC.out.b0_4.2.2.2, (HC.out.below.cell (p := ⟨b, off, none⟩) hb).trans y0, (HC.out.below.cell (p := ⟨b, off + 1, none⟩) hb).trans y1⟩) (fun hHeld => ?_)
          clear hK K
          (try simp only [Act.put, List.setIfInBounds_toArray, List.set_cons_zero, List.set_cons_succ])
          refine' wpAnyH_take (i := 2) (oi := _) (v := Value.bool false) ?hi24 (by kernel_rfl) (by kernel_rfl) (by kernel_rfl) ?hq24 (Or.inl ⟨?hw24, ?hy24⟩) (by assumption) ?rest24
          case hi24 => (simp only [List.getElem?_toArray, List.getElem?_cons_succ, List.getElem?_cons_zero]; rfl)
          case hq24 => exact fun _ _ _ h => h
          case hw24 => rfl
          case hy24 => (intro wq hSw; (try dsimp only at hSw); (try go_simp); (first | done | (with_reducible rfl) | rfl | simp))
          (try simp only [Act.put, List.setIfInBounds_toArray, List.set_cons_zero, List.set_cons_succ])
          refine' wpAnyH_take (i := 3) (oi := _) (v := Value.bool false) ?hi25 (by kernel_rfl) (by kernel_rfl) (by kernel_rfl) ?hq25 (Or.inl ⟨?hw25, ?hy25⟩) (by assumption) ?rest25
          case hi25 => (simp only [List.getElem?_toArray, List.getElem?_cons_succ, List.getElem?_cons_zero]; rfl)
          case hq25 => exact fun _ _ _ h => h
          case hw25 => rfl
          case hy25 => (intro wq hSw; (try dsimp only at hSw); (try go_simp); (first | done | (with_reducible rfl) | rfl | simp))
          (try simp only [Act.put, List.setIfInBounds_toArray, List.set_cons_zero, List.set_cons_succ])
          refine' wpAnyH_take (i := 4) (oi := _) (v := _) ?hi26 (by kernel_rfl) (by kernel_rfl) (by kernel_rfl) ?hq26 (Or.inl ⟨?hw26, ?hy26⟩) (by assumption) ?rest26
          case hi26 => (simp only [List.getElem?_toArray, List.getElem?_cons_succ, List.getElem?_cons_zero]; rfl)
          case hq26 => exact fun _ _ _ h => h
          case hw26 => rfl
          case hy26 => (intro wq hSw; (try dsimp only at hSw); go_simp; (try with_reducible rfl))
          (try simp only [Act.put, List.setIfInBounds_toArray, List.set_cons_zero, List.set_cons_succ])
          refine' wpAnyH_take (i := 5) (oi := _) (v := _) ?hi27 (by kernel_rfl) (by kernel_rfl) (by kernel_rfl) ?hq27 (Or.inl ⟨?hw27, ?hy27⟩) (by assumption) ?rest27
          case hi27 => (simp only [List.getElem?_toArray, List.getElem?_cons_succ, List.getElem?_cons_zero]; rfl)
          case hq27 => exact fun _ _ _ h => h
          case hw27 => rfl
          case hy27 => (intro wq hSw; (try dsimp only at hSw); go_simp; (try with_reducible rfl))
          (try simp only [Act.put, List.setIfInBounds_toArray, List.set_cons_zero, List.set_cons_succ])
          refine' wpAnyH_take (i := 6) (oi := _) (v := _) ?hi28 (by kernel_rfl) (by kernel_rfl) (by kernel_rfl) ?hq28 (Or.inl ⟨?hw28, ?hy28⟩) (by assumption) ?rest28
          case hi28 => (simp only [List.getElem?_toArray, List.getElem?_cons_succ, List.getElem?_cons_zero]; rfl)
          case hq28 => exact fun _ _ _ h => h
          case hw28 => rfl
          case hy28 => (intro wq hSw; (try dsimp only at hSw); go_simp; (try with_reducible rfl))
          (try simp only [Act.put, List.setIfInBounds_toArray, List.set_cons_zero, List.set_cons_succ])
          refine' wpAnyH_take (i := 7) (oi := _) (v := _) ?hi29 (by kernel_rfl) (by kernel_rfl) (by kernel_rfl) ?hq29 (Or.inl ⟨?hw29, ?hy29⟩) (by assumption) ?rest29
          case hi29 => (simp only [List.getElem?_toArray, List.getElem?_cons_succ, List.getElem?_cons_zero]; rfl)
          case hq29 => exact fun _ _ _ h => h
          case hw29 => rfl
          case hy29 => (intro wq hSw; (try dsimp only at hSw); go_simp; (try with_reducible rfl))
          (try simp only [Act.put, List.setIfInBounds_toArray, List.set_cons_zero, List.set_cons_succ])
          refine' wpAnyH_take (i := 8) (oi := _) (v := _) ?hi30 (by kernel_rfl) (by kernel_rfl) (by kernel_rfl) ?hq30 (Or.inl ⟨?hw30, ?hy30⟩) (by assumption) ?rest30
          case hi30 => (simp only [List.getElem?_toArray, List.getElem?_cons_succ, List.getElem?_cons_zero]; rfl)
          case hq30 => exact fun _ _ _ h => h
          case hw30 => rfl
          case hy30 => (intro wq hSw; (try dsimp only at hSw); go_simp; (try with_reducible rfl))
          (try simp only [Act.put, List.setIfInBounds_toArray, List.set_cons_zero, List.set_cons_succ])
          refine' wpAnyH_take (i := 9) (oi := _) (v := _) ?hi31 (by kernel_rfl) (by kernel_rfl) (by kernel_rfl) ?hq31 (Or.inl ⟨?hw31, ?hy31⟩) (by assumption) ?rest31
          case hi31 => (simp only [List.getElem?_toArray, List.getElem?_cons_succ, List.getElem?_cons_zero]; rfl)
          case hq31 => exact fun _ _ _ h => h
          case hw31 => rfl
          case hy31 => (intro wq hSw; (try dsimp only at hSw); go_simp; (try with_reducible rfl))
          (try simp only [Act.put, List.setIfInBounds_toArray, List.set_cons_zero, List.set_cons_succ])
          refine' wpAnyH_take (i := 10) (oi := _) (v := Value.bool true) ?hi32 (by kernel_rfl) (by kernel_rfl) (by kernel_rfl) ?hq32 (Or.inl ⟨?hw32, ?hy32⟩) (by assumption) ?rest32
          case hi32 => (simp only [List.getElem?_toArray, List.getElem?_cons_succ, List.getElem?_cons_zero]; rfl)
          case hq32 => exact fun _ _ _ h => h
          case hw32 => rfl
          case hy32 => (intro wq hSw; (try dsimp only at hSw); (try go_simp); (first | done | (with_reducible rfl) | rfl | exact HXb.out | (rw [HXb.out]; done) | (rw [HXb.out]; rfl) | simp [HXx.out] | simp))
          (try simp only [Act.put, List.setIfInBounds_toArray, List.set_cons_zero, List.set_cons_succ])
          refine' wpAnyH_take (i := 11) (oi := _) (v := Value.bool true) ?hi33 (by kernel_rfl) (by kernel_rfl) (by kernel_rfl) ?hq33 (Or.inl ⟨?hw33, ?hy33⟩) (by assumption) ?rest33
          case hi33 => (simp only [List.getElem?_toArray, List.getElem?_cons_succ, List.getElem?_cons_zero]; rfl)
          case hq33 => exact fun _ _ _ h => h
          case hw33 => rfl
          case hy33 => (intro wq hSw; (try dsimp only at hSw); (try go_simp); (first | done | (with_reducible rfl) | rfl | simp))
          (try simp only [Act.put, List.setIfInBounds_toArray, List.set_cons_zero, List.set_cons_succ])
          refine' wpAnyH_take (i := 12) (oi := _) (v := Value.bool true) ?hi34 (by kernel_rfl) (by kernel_rfl) (by kernel_rfl) ?hq34 (Or.inl ⟨?hw34, ?hy34⟩) (by assumption) ?rest34
          case hi34 => (simp only [List.getElem?_toArray, List.getElem?_cons_succ, List.getElem?_cons_zero]; rfl)
          case hq34 => exact fun _ _ _ h => h
          case hw34 => rfl
          case hy34 => (intro wq hSw; (try dsimp only at hSw); (try go_simp); (first | done | (with_reducible rfl) | rfl | simp))
          (try simp only [Act.put, List.setIfInBounds_toArray, List.set_cons_zero, List.set_cons_succ])
          refine' wpAnyH_take (i := 13) (oi := _) (v := undef) ?hi35 (by kernel_rfl) (by kernel_rfl) (by kernel_rfl) ?hq35 (Or.inr ?hw35) (by assumption) ?rest35
          case hi35 => (simp only [List.getElem?_toArray, List.getElem?_cons_succ, List.getElem?_cons_zero]; rfl)
          case hq35 => exact fun _ _ _ h => h
          case hw35 => exact ⟨rfl, rfl⟩
          (try simp only [Act.put, List.setIfInBounds_toArray, List.set_cons_zero, List.set_cons_succ])
          refine' wpAnyH_take (i := 14) (oi := _) (v := undef) ?hi36 (by kernel_rfl) (by kernel_rfl) (by kernel_rfl) ?hq36 (Or.inr ?hw36) (by assumption) ?rest36
          case hi36 => (simp only [List.getElem?_toArray, List.getElem?_cons_succ, List.getElem?_cons_zero]; rfl)
          case hq36 => exact fun _ _ _ h => h
          case hw36 => exact ⟨rfl, rfl⟩
          (try simp only [Act.put, List.setIfInBounds_toArray, List.set_cons_zero, List.set_cons_succ])
          refine' wpAnyH_take (i := 15) (oi := _) (v := undef) ?hi37 (by kernel_rfl) (by kernel_rfl) (by kernel_rfl) ?hq37 (Or.inr ?hw37) (by assumption) ?rest37
          case hi37 => (simp only [List.getElem?_toArray, List.getElem?_cons_succ, List.getElem?_cons_zero]; rfl)
          case hq37 => exact fun _ _ _ h => h
          case hw37 => exact ⟨rfl, rfl⟩
          (try simp only [Act.put, List.setIfInBounds_toArray, List.set_cons_zero, List.set_cons_succ])
          refine' wpAnyH_take (i := 16) (oi := _) (v := undef) ?hi38 (by kernel_rfl) (by kernel_rfl) (by kernel_rfl) ?hq38 (Or.inr ?hw38) (by assumption) ?rest38
          case hi38 => (simp only [List.getElem?_toArray, List.getElem?_cons_succ, List.getElem?_cons_zero]; rfl)
          case hq38 => exact fun _ _ _ h => h
          case hw38 => exact ⟨rfl, rfl⟩
          (try simp only [Act.put, List.setIfInBounds_toArray, List.set_cons_zero, List.set_cons_succ])
          refine' wpAnyH_take (i := 17) (oi := _) (v := undef) ?hi39 (by kernel_rfl) (by kernel_rfl) (by kernel_rfl) ?hq39 (Or.inr ?hw39) (by assumption) ?rest39
          case hi39 => (simp only [List.getElem?_toArray, List.getElem?_cons_succ, List.getElem?_cons_zero]; rfl)
          case hq39 => exact fun _ _ _ h => h
          case hw39 => exact ⟨rfl, rfl⟩
          (try simp only [Act.put, List.setIfInBounds_toArray, List.set_cons_zero, List.set_cons_succ])
          refine' wpAnyH_take (i := 18) (oi := _) (v := undef) ?hi40 (by kernel_rfl) (by kernel_rfl) (by kernel_rfl) ?hq40 (Or.inr ?hw40) (by assumption) ?rest40
          case hi40 => (simp only [List.getElem?_toArray, List.getElem?_cons_succ, List.getElem?_cons_zero]; rfl)
          case hq40 => exact fun _ _ _ h => h
          case hw40 => exact ⟨rfl, rfl⟩
          (try simp only [Act.put, List.setIfInBounds_toArray, List.set_cons_zero, List.set_cons_succ])
          refine' wpAnyH_take (i := 19) (oi := _) (v := undef) ?hi41 (by kernel_rfl) (by kernel_rfl) (by kernel_rfl) ?hq41 (Or.inr ?hw41) (by assumption) ?rest41
          case hi41 => (simp only [List.getElem?_toArray, List.getElem?_cons_succ, List.getElem?_cons_zero]; rfl)
          case hq41 => exact fun _ _ _ h => h
          case hw41 => exact ⟨rfl, rfl⟩
          (try simp only [Act.put, List.setIfInBounds_toArray, List.set_cons_zero, List.set_cons_succ])
          refine' wpAnyH_take (i := 20) (oi := _) (v := Value.bool true) ?hi42 (by kernel_rfl) (by kernel_rfl) (by kernel_rfl) ?hq42 (Or.inl ⟨?hw42, ?hy42⟩) (by assumption) ?rest42
          case hi42 => (simp only [List.getElem?_toArray, List.getElem?_cons_succ, List.getElem?_cons_zero]; rfl)
          case hq42 => exact fun _ _ _ h => h
          case hw42 => rfl
          case hy42 => (intro wq hSw; (try dsimp only at hSw); (try go_simp); (first | done | (with_reducible rfl) | rfl | simp))
          (try simp only [Act.put, List.setIfInBounds_toArray, List.set_cons_zero, List.set_cons_succ])
          refine wpAnyH_done (by kernel_rfl) ?_ _
          have Hv : Hid (mgOk ms = false) := Lib.hid (mgOk_no hkl (by rw [← HM.out, HMA.out, HVI.out, HXb.out]; rfl))
          have HB := Lib.hid HC.out.below
          clear HC
          go_wp2
          go_ret
          exact ⟨ret_bool Hv.out.symm, HB.out⟩
        have HXb : Hid (decide (m.X = X0) = true) := Lib.hid (decide_eq_true hX)
        have HXx := Lib.hid hX
        clear hX
        by_cases hY : m.Y = Y0
        case neg =>
          have HYb : Hid (decide (m.Y = Y0) = false) := Lib.hid (decide_eq_false hY)
          have HY := Lib.hid hY
          clear hY
          go_upto_region 6 with fail
          rw [← HMb.out]
          generalize wr.alloc (.cells #[.int .i64 m.X, .int .i64 m.Y, .int .i64 m.Z, .slice Ai m.ds.length ci] 25) = wa at *
          refine wp_region_held_drew (S := (fun w' => w'.cell? ⟨mb, 0, none⟩ = some (.int .i64 m.X) ∧ w'.cell? ⟨mb, 1, none⟩ = some (.int .i64 m.Y) ∧ w'.cell? ⟨mb, 2, none⟩ = some (.int .i64 m.Z) ∧ w'.cell? ⟨mb, 3, none⟩ = some (.slice Ai m.ds.length ci) ∧ w'.cell? ⟨b, off, none⟩ = some (.int .i64 X0) ∧ w'.cell? ⟨b, off + 1, none⟩ = some (.int .i64 Y0))) (by kernel_rfl) (by exact ⟨HC.out.b0_4.1, HC.out.b0_4.2.1, HC.out.b0_4.2.2.1, HC.out.b0_4.2.2.2, (HC.out.below.cell (p := ⟨b, off, none⟩) hb).trans y0, (HC.out.below.cell (p := ⟨b, off + 1, none⟩) hb).trans y1⟩) (fun hHeld => ?_)
          refine' wpAnyH_take (i := 0) (oi := _) (v := _) ?hi43 (by kernel_rfl) (by kernel_rfl) (by kernel_rfl) ?hq43 (Or.inl ⟨?hw43, ?hy43⟩) (by assumption) ?rest43
          case hi43 => (simp only [List.getElem?_toArray, List.getElem?_cons_succ, List.getElem?_cons_zero]; rfl)
          case hq43 => exact fun _ _ _ h => h
          case hw43 => rfl
          case hy43 => (intro wq hSw; (try dsimp only at hSw); go_simp; (try with_reducible rfl))
          (try simp only [Act.put, List.setIfInBounds_toArray, List.set_cons_zero, List.set_cons_succ])
          refine wpAnyH_ready (rs := [1]) (by kernel_rfl) (by simp) ?_
          refine' AllReadyH.cons (o := _) ?hi44 (fun K hK => ?rest44) AllReadyH.nil
          case hi44 => (simp only [List.getElem?_toArray, List.getElem?_cons_succ, List.getElem?_cons_zero]; rfl)
          go_simp
          go_at_call 57
          refine (iVplM_any m.X m.Y m.Z Ai ci m.ds _ (HC.out.arg HRi.out) (HLm.out)).mono ?_
          rintro e u5 ⟨rfl, hB5⟩
          have HD := Lib.hid (HC.out.call hB5)
          clear HC hB5
          have HC := HD
          clear HD
          rw [HVI.out]
          go_wp2_with fail
          refine hK.out _ _ (by (try dsimp only); exact ⟨HC.out.b0_4.1, HC.out.b0_4.2.1, HC.out.b0_4.2.2.1, HC.out.b0_4.2.2.2, (HC.out.below.cell (p := ⟨b, off, none⟩) hb).trans y0, (HC.out.below.cell (p := ⟨b, off + 1, none⟩) hb).trans y1⟩) (fun hHeld => ?_)
          clear hK K
          (try simp only [Act.put, List.setIfInBounds_toArray, List.set_cons_zero, List.set_cons_succ])
          refine' wpAnyH_take (i := 2) (oi := _) (v := Value.bool false) ?hi45 (by kernel_rfl) (by kernel_rfl) (by kernel_rfl) ?hq45 (Or.inl ⟨?hw45, ?hy45⟩) (by assumption) ?rest45
          case hi45 => (simp only [List.getElem?_toArray, List.getElem?_cons_succ, List.getElem?_cons_zero]; rfl)
          case hq45 => exact fun _ _ _ h => h
          case hw45 => rfl
          case hy45 => (intro wq hSw; (try dsimp only at hSw); (try go_simp); (first | done | (with_reducible rfl) | rfl | simp))
          (try simp only [Act.put, List.setIfInBounds_toArray, List.set_cons_zero, List.set_cons_succ])
          refine' wpAnyH_take (i := 3) (oi := _) (v := Value.bool false) ?hi46 (by kernel_rfl) (by kernel_rfl) (by kernel_rfl) ?hq46 (Or.inl ⟨?hw46, ?hy46⟩) (by assumption) ?rest46
          case hi46 => (simp only [List.getElem?_toArray, List.getElem?_cons_succ, List.getElem?_cons_zero]; rfl)
          case hq46 => exact fun _ _ _ h => h
          case hw46 => rfl
          case hy46 => (intro wq hSw; (try dsimp only at hSw); (try go_simp); (first | done | (with_reducible rfl) | rfl | simp))
          (try simp only [Act.put, List.setIfInBounds_toArray, List.set_cons_zero, List.set_cons_succ])
          refine' wpAnyH_take (i := 4) (oi := _) (v := _) ?hi47 (by kernel_rfl) (by kernel_rfl) (by kernel_rfl) ?hq47 (Or.inl ⟨?hw47, ?hy47⟩) (by assumption) ?rest47
          case hi47 => (simp only [List.getElem?_toArray, List.getElem?_cons_succ, List.getElem?_cons_zero]; rfl)
          case hq47 => exact fun _ _ _ h => h
          case hw47 => rfl
          case hy47 => (intro wq hSw; (try dsimp only at hSw); go_simp; (try with_reducible rfl))
          (try simp only [Act.put, List.setIfInBounds_toArray, List.set_cons_zero, List.set_cons_succ])
          refine' wpAnyH_take (i := 5) (oi := _) (v := _) ?hi48 (by kernel_rfl) (by kernel_rfl) (by kernel_rfl) ?hq48 (Or.inl ⟨?hw48, ?hy48⟩) (by assumption) ?rest48
          case hi48 => (simp only [List.getElem?_toArray, List.getElem?_cons_succ, List.getElem?_cons_zero]; rfl)
          case hq48 => exact fun _ _ _ h => h
          case hw48 => rfl
          case hy48 => (intro wq hSw; (try dsimp only at hSw); go_simp; (try with_reducible rfl))
          (try simp only [Act.put, List.setIfInBounds_toArray, List.set_cons_zero, List.set_cons_succ])
          refine' wpAnyH_take (i := 6) (oi := _) (v := _) ?hi49 (by kernel_rfl) (by kernel_rfl) (by kernel_rfl) ?hq49 (Or.inl ⟨?hw49, ?hy49⟩) (by assumption) ?rest49
          case hi49 => (simp only [List.getElem?_toArray, List.getElem?_cons_succ, List.getElem?_cons_zero]; rfl)
          case hq49 => exact fun _ _ _ h => h
          case hw49 => rfl
          case hy49 => (intro wq hSw; (try dsimp only at hSw); go_simp; (try with_reducible rfl))
          (try simp only [Act.put, List.setIfInBounds_toArray, List.set_cons_zero, List.set_cons_succ])
          refine' wpAnyH_take (i := 7) (oi := _) (v := _) ?hi50 (by kernel_rfl) (by kernel_rfl) (by kernel_rfl) ?hq50 (Or.inl ⟨?hw50, ?hy50⟩) (by assumption) ?rest50
          case hi50 => (simp only [List.getElem?_toArray, List.getElem?_cons_succ, List.getElem?_cons_zero]; rfl)
          case hq50 => exact fun _ _ _ h => h
          case hw50 => rfl
          case hy50 => (intro wq hSw; (try dsimp only at hSw); go_simp; (try with_reducible rfl))
          (try simp only [Act.put, List.setIfInBounds_toArray, List.set_cons_zero, List.set_cons_succ])
          refine' wpAnyH_take (i := 8) (oi := _) (v := _) ?hi51 (by kernel_rfl) (by kernel_rfl) (by kernel_rfl) ?hq51 (Or.inl ⟨?hw51, ?hy51⟩) (by assumption) ?rest51
          case hi51 => (simp only [List.getElem?_toArray, List.getElem?_cons_succ, List.getElem?_cons_zero]; rfl)
          case hq51 => exact fun _ _ _ h => h
          case hw51 => rfl
          case hy51 => (intro wq hSw; (try dsimp only at hSw); go_simp; (try with_reducible rfl))
          (try simp only [Act.put, List.setIfInBounds_toArray, List.set_cons_zero, List.set_cons_succ])
          refine' wpAnyH_take (i := 9) (oi := _) (v := _) ?hi52 (by kernel_rfl) (by kernel_rfl) (by kernel_rfl) ?hq52 (Or.inl ⟨?hw52, ?hy52⟩) (by assumption) ?rest52
          case hi52 => (simp only [List.getElem?_toArray, List.getElem?_cons_succ, List.getElem?_cons_zero]; rfl)
          case hq52 => exact fun _ _ _ h => h
          case hw52 => rfl
          case hy52 => (intro wq hSw; (try dsimp only at hSw); go_simp; (try with_reducible rfl))
          (try simp only [Act.put, List.setIfInBounds_toArray, List.set_cons_zero, List.set_cons_succ])
          refine' wpAnyH_take (i := 10) (oi := _) (v := Value.bool false) ?hi53 (by kernel_rfl) (by kernel_rfl) (by kernel_rfl) ?hq53 (Or.inl ⟨?hw53, ?hy53⟩) (by assumption) ?rest53
          case hi53 => (simp only [List.getElem?_toArray, List.getElem?_cons_succ, List.getElem?_cons_zero]; rfl)
          case hq53 => exact fun _ _ _ h => h
          case hw53 => rfl
          case hy53 => (intro wq hSw; (try dsimp only at hSw); (try go_simp); (first | done | (with_reducible rfl) | rfl | exact HXb.out | (rw [HXb.out]; done) | (rw [HXb.out]; rfl) | simp [HXx.out] | simp))
          (try simp only [Act.put, List.setIfInBounds_toArray, List.set_cons_zero, List.set_cons_succ])
          refine' wpAnyH_take (i := 11) (oi := _) (v := Value.bool false) ?hi54 (by kernel_rfl) (by kernel_rfl) (by kernel_rfl) ?hq54 (Or.inl ⟨?hw54, ?hy54⟩) (by assumption) ?rest54
          case hi54 => (simp only [List.getElem?_toArray, List.getElem?_cons_succ, List.getElem?_cons_zero]; rfl)
          case hq54 => exact fun _ _ _ h => h
          case hw54 => rfl
          case hy54 => (intro wq hSw; (try dsimp only at hSw); (try go_simp); (first | done | (with_reducible rfl) | rfl | simp))
          (try simp only [Act.put, List.setIfInBounds_toArray, List.set_cons_zero, List.set_cons_succ])
          refine' wpAnyH_take (i := 12) (oi := _) (v := Value.bool false) ?hi55 (by kernel_rfl) (by kernel_rfl) (by kernel_rfl) ?hq55 (Or.inl ⟨?hw55, ?hy55⟩) (by assumption) ?rest55
          case hi55 => (simp only [List.getElem?_toArray, List.getElem?_cons_succ, List.getElem?_cons_zero]; rfl)
          case hq55 => exact fun _ _ _ h => h
          case hw55 => rfl
          case hy55 => (intro wq hSw; (try dsimp only at hSw); (try go_simp); (first | done | (with_reducible rfl) | rfl | simp))
          (try simp only [Act.put, List.setIfInBounds_toArray, List.set_cons_zero, List.set_cons_succ])
          refine' wpAnyH_take (i := 13) (oi := _) (v := _) ?hi56 (by kernel_rfl) (by kernel_rfl) (by kernel_rfl) ?hq56 (Or.inl ⟨?hw56, ?hy56⟩) (by assumption) ?rest56
          case hi56 => (simp only [List.getElem?_toArray, List.getElem?_cons_succ, List.getElem?_cons_zero]; rfl)
          case hq56 => exact fun _ _ _ h => h
          case hw56 => rfl
          case hy56 => (intro wq hSw; (try dsimp only at hSw); go_simp; (try with_reducible rfl))
          (try simp only [Act.put, List.setIfInBounds_toArray, List.set_cons_zero, List.set_cons_succ])
          refine' wpAnyH_take (i := 14) (oi := _) (v := _) ?hi57 (by kernel_rfl) (by kernel_rfl) (by kernel_rfl) ?hq57 (Or.inl ⟨?hw57, ?hy57⟩) (by assumption) ?rest57
          case hi57 => (simp only [List.getElem?_toArray, List.getElem?_cons_succ, List.getElem?_cons_zero]; rfl)
          case hq57 => exact fun _ _ _ h => h
          case hw57 => rfl
          case hy57 => (intro wq hSw; (try dsimp only at hSw); go_simp; (try with_reducible rfl))
          (try simp only [Act.put, List.setIfInBounds_toArray, List.set_cons_zero, List.set_cons_succ])
          refine' wpAnyH_take (i := 15) (oi := _) (v := _) ?hi58 (by kernel_rfl) (by kernel_rfl) (by kernel_rfl) ?hq58 (Or.inl ⟨?hw58, ?hy58⟩) (by assumption) ?rest58
          case hi58 => (simp only [List.getElem?_toArray, List.getElem?_cons_succ, List.getElem?_cons_zero]; rfl)
          case hq58 => exact fun _ _ _ h => h
          case hw58 => rfl
          case hy58 => (intro wq hSw; (try dsimp only at hSw); go_simp; (try with_reducible rfl))
          (try simp only [Act.put, List.setIfInBounds_toArray, List.set_cons_zero, List.set_cons_succ])
          refine' wpAnyH_take (i := 16) (oi := _) (v := _) ?hi59 (by kernel_rfl) (by kernel_rfl) (by kernel_rfl) ?hq59 (Or.inl ⟨?hw59, ?hy59⟩) (by assumption) ?rest59
          case hi59 => (simp only [List.getElem?_toArray, List.getElem?_cons_succ, List.getElem?_cons_zero]; rfl)
          case hq59 => exact fun _ _ _ h => h
          case hw59 => rfl
          case hy59 => (intro wq hSw; (try dsimp only at hSw); go_simp; (try with_reducible rfl))
          (try simp only [Act.put, List.setIfInBounds_toArray, List.set_cons_zero, List.set_cons_succ])
          refine' wpAnyH_take (i := 17) (oi := _) (v := _) ?hi60 (by kernel_rfl) (by kernel_rfl) (by kernel_rfl) ?hq60 (Or.inl ⟨?hw60, ?hy60⟩) (by assumption) ?rest60
          case hi60 => (simp only [List.getElem?_toArray, List.getElem?_cons_succ, List.getElem?_cons_zero]; rfl)
          case hq60 => exact fun _ _ _ h => h
          case hw60 => rfl
          case hy60 => (intro wq hSw; (try dsimp only at hSw); go_simp; (try with_reducible rfl))
          (try simp only [Act.put, List.setIfInBounds_toArray, List.set_cons_zero, List.set_cons_succ])
          refine' wpAnyH_take (i := 18) (oi := _) (v := _) ?hi61 (by kernel_rfl) (by kernel_rfl) (by kernel_rfl) ?hq61 (Or.inl ⟨?hw61, ?hy61⟩) (by assumption) ?rest61
          case hi61 => (simp only [List.getElem?_toArray, List.getElem?_cons_succ, List.getElem?_cons_zero]; rfl)
          case hq61 => exact fun _ _ _ h => h
          case hw61 => rfl
          case hy61 => (intro wq hSw; (try dsimp only at hSw); go_simp; (try with_reducible rfl))
          (try simp only [Act.put, List.setIfInBounds_toArray, List.set_cons_zero, List.set_cons_succ])
          refine' wpAnyH_take (i := 19) (oi := _) (v := Value.bool true) ?hi62 (by kernel_rfl) (by kernel_rfl) (by kernel_rfl) ?hq62 (Or.inl ⟨?hw62, ?hy62⟩) (by assumption) ?rest62
          case hi62 => (simp only [List.getElem?_toArray, List.getElem?_cons_succ, List.getElem?_cons_zero]; rfl)
          case hq62 => exact fun _ _ _ h => h
          case hw62 => rfl
          case hy62 => (intro wq hSw; (try dsimp only at hSw); (try go_simp); (first | done | (with_reducible rfl) | rfl | exact HYb.out | (rw [HYb.out]; done) | (rw [HYb.out]; rfl) | simp [HY.out] | simp))
          (try simp only [Act.put, List.setIfInBounds_toArray, List.set_cons_zero, List.set_cons_succ])
          refine' wpAnyH_take (i := 20) (oi := _) (v := Value.bool true) ?hi63 (by kernel_rfl) (by kernel_rfl) (by kernel_rfl) ?hq63 (Or.inl ⟨?hw63, ?hy63⟩) (by assumption) ?rest63
          case hi63 => (simp only [List.getElem?_toArray, List.getElem?_cons_succ, List.getElem?_cons_zero]; rfl)
          case hq63 => exact fun _ _ _ h => h
          case hw63 => rfl
          case hy63 => (intro wq hSw; (try dsimp only at hSw); (try go_simp); (first | done | (with_reducible rfl) | rfl | simp))
          (try simp only [Act.put, List.setIfInBounds_toArray, List.set_cons_zero, List.set_cons_succ])
          refine wpAnyH_done (by kernel_rfl) ?_ _
          have Hv : Hid (mgOk ms = false) := Lib.hid (mgOk_no hkl (by rw [← HM.out, HMA.out, HVI.out, HXb.out, HYb.out]; rfl))
          have HB := Lib.hid HC.out.below
          clear HC
          go_wp2
          go_ret
          exact ⟨ret_bool Hv.out.symm, HB.out⟩
        have HYb : Hid (decide (m.Y = Y0) = true) := Lib.hid (decide_eq_true hY)
        have HY := Lib.hid hY
        clear hY
        have HA2 : Hid (∀ j, j < k + 1 → mgA X0 Y0 (imv ms j) = true) := Lib.hid (fun j hj => by
          by_cases e : j = k
          · subst e
            have h := HMA.out
            rw [HVI.out, HXb.out, HYb.out, HM.out, ← HX0.out, ← HY0.out] at h
            exact h
          · exact HA.out j (by omega))
        go_upto_region 6 with fail
        rw [← HMb.out]
        generalize wr.alloc (.cells #[.int .i64 m.X, .int .i64 m.Y, .int .i64 m.Z, .slice Ai m.ds.length ci] 25) = wa at *
        refine wp_region_held_drew (S := (fun w' => w'.cell? ⟨mb, 0, none⟩ = some (.int .i64 m.X) ∧ w'.cell? ⟨mb, 1, none⟩ = some (.int .i64 m.Y) ∧ w'.cell? ⟨mb, 2, none⟩ = some (.int .i64 m.Z) ∧ w'.cell? ⟨mb, 3, none⟩ = some (.slice Ai m.ds.length ci) ∧ w'.cell? ⟨b, off, none⟩ = some (.int .i64 X0) ∧ w'.cell? ⟨b, off + 1, none⟩ = some (.int .i64 Y0))) (by kernel_rfl) (by exact ⟨HC.out.b0_4.1, HC.out.b0_4.2.1, HC.out.b0_4.2.2.1, HC.out.b0_4.2.2.2, (HC.out.below.cell (p := ⟨b, off, none⟩) hb).trans y0, (HC.out.below.cell (p := ⟨b, off + 1, none⟩) hb).trans y1⟩) (fun hHeld => ?_)
        refine' wpAnyH_take (i := 0) (oi := _) (v := _) ?hi64 (by kernel_rfl) (by kernel_rfl) (by kernel_rfl) ?hq64 (Or.inl ⟨?hw64, ?hy64⟩) (by assumption) ?rest64
        case hi64 => (simp only [List.getElem?_toArray, List.getElem?_cons_succ, List.getElem?_cons_zero]; rfl)
        case hq64 => exact fun _ _ _ h => h
        case hw64 => rfl
        case hy64 => (intro wq hSw; (try dsimp only at hSw); go_simp; (try with_reducible rfl))
        (try simp only [Act.put, List.setIfInBounds_toArray, List.set_cons_zero, List.set_cons_succ])
        refine wpAnyH_ready (rs := [1]) (by kernel_rfl) (by simp) ?_
        refine' AllReadyH.cons (o := _) ?hi65 (fun K hK => ?rest65) AllReadyH.nil
        case hi65 => (simp only [List.getElem?_toArray, List.getElem?_cons_succ, List.getElem?_cons_zero]; rfl)
        go_simp
        go_at_call 57
        refine (iVplM_any m.X m.Y m.Z Ai ci m.ds _ (HC.out.arg HRi.out) (HLm.out)).mono ?_
        rintro e u5 ⟨rfl, hB5⟩
        have HD := Lib.hid (HC.out.call hB5)
        clear HC hB5
        have HC := HD
        clear HD
        rw [HVI.out]
        go_wp2_with fail
        refine hK.out _ _ (by (try dsimp only); exact ⟨HC.out.b0_4.1, HC.out.b0_4.2.1, HC.out.b0_4.2.2.1, HC.out.b0_4.2.2.2, (HC.out.below.cell (p := ⟨b, off, none⟩) hb).trans y0, (HC.out.below.cell (p := ⟨b, off + 1, none⟩) hb).trans y1⟩) (fun hHeld => ?_)
        clear hK K
        (try simp only [Act.put, List.setIfInBounds_toArray, List.set_cons_zero, List.set_cons_succ])
        refine' wpAnyH_take (i := 2) (oi := _) (v := Value.bool false) ?hi66 (by kernel_rfl) (by kernel_rfl) (by kernel_rfl) ?hq66 (Or.inl ⟨?hw66, ?hy66⟩) (by assumption) ?rest66
        case hi66 => (simp only [List.getElem?_toArray, List.getElem?_cons_succ, List.getElem?_cons_zero]; rfl)
        case hq66 => exact fun _ _ _ h => h
        case hw66 => rfl
        case hy66 => (intro wq hSw; (try dsimp only at hSw); (try go_simp); (first | done | (with_reducible rfl) | rfl | simp))
        (try simp only [Act.put, List.setIfInBounds_toArray, List.set_cons_zero, List.set_cons_succ])
        refine' wpAnyH_take (i := 3) (oi := _) (v := Value.bool false) ?hi67 (by kernel_rfl) (by kernel_rfl) (by kernel_rfl) ?hq67 (Or.inl ⟨?hw67, ?hy67⟩) (by assumption) ?rest67
        case hi67 => (simp only [List.getElem?_toArray, List.getElem?_cons_succ, List.getElem?_cons_zero]; rfl)
        case hq67 => exact fun _ _ _ h => h
        case hw67 => rfl
        case hy67 => (intro wq hSw; (try dsimp only at hSw); (try go_simp); (first | done | (with_reducible rfl) | rfl | simp))
        (try simp only [Act.put, List.setIfInBounds_toArray, List.set_cons_zero, List.set_cons_succ])
        refine' wpAnyH_take (i := 4) (oi := _) (v := _) ?hi68 (by kernel_rfl) (by kernel_rfl) (by kernel_rfl) ?hq68 (Or.inl ⟨?hw68, ?hy68⟩) (by assumption) ?rest68
        case hi68 => (simp only [List.getElem?_toArray, List.getElem?_cons_succ, List.getElem?_cons_zero]; rfl)
        case hq68 => exact fun _ _ _ h => h
        case hw68 => rfl
        case hy68 => (intro wq hSw; (try dsimp only at hSw); go_simp; (try with_reducible rfl))
        (try simp only [Act.put, List.setIfInBounds_toArray, List.set_cons_zero, List.set_cons_succ])
        refine' wpAnyH_take (i := 5) (oi := _) (v := _) ?hi69 (by kernel_rfl) (by kernel_rfl) (by kernel_rfl) ?hq69 (Or.inl ⟨?hw69, ?hy69⟩) (by assumption) ?rest69
        case hi69 => (simp only [List.getElem?_toArray, List.getElem?_cons_succ, List.getElem?_cons_zero]; rfl)
        case hq69 => exact fun _ _ _ h => h
        case hw69 => rfl
        case hy69 => (intro wq hSw; (try dsimp only at hSw); go_simp; (try with_reducible rfl))
        (try simp only [Act.put, List.setIfInBounds_toArray, List.set_cons_zero, List.set_cons_succ])
        refine' wpAnyH_take (i := 6) (oi := _) (v := _) ?hi70 (by kernel_rfl) (by kernel_rfl) (by kernel_rfl) ?hq70 (Or.inl ⟨?hw70, ?hy70⟩) (by assumption) ?rest70
        case hi70 => (simp only [List.getElem?_toArray, List.getElem?_cons_succ, List.getElem?_cons_zero]; rfl)
        case hq70 => exact fun _ _ _ h => h
        case hw70 => rfl
        case hy70 => (intro wq hSw; (try dsimp only at hSw); go_simp; (try with_reducible rfl))
        (try simp only [Act.put, List.setIfInBounds_toArray, List.set_cons_zero, List.set_cons_succ])
        refine' wpAnyH_take (i := 7) (oi := _) (v := _) ?hi71 (by kernel_rfl) (by kernel_rfl) (by kernel_rfl) ?hq71 (Or.inl ⟨?hw71, ?hy71⟩) (by assumption) ?rest71
        case hi71 => (simp only [List.getElem?_toArray, List.getElem?_cons_succ, List.getElem?_cons_zero]; rfl)
        case hq71 => exact fun _ _ _ h => h
        case hw71 => rfl
        case hy71 => (intro wq hSw; (try dsimp only at hSw); go_simp; (try with_reducible rfl))
        (try simp only [Act.put, List.setIfInBounds_toArray, List.set_cons_zero, List.set_cons_succ])
        refine' wpAnyH_take (i := 8) (oi := _) (v := _) ?hi72 (by kernel_rfl) (by kernel_rfl) (by kernel_rfl) ?hq72 (Or.inl ⟨?hw72, ?hy72⟩) (by assumption) ?rest72
        case hi72 => (simp only [List.getElem?_toArray, List.getElem?_cons_succ, List.getElem?_cons_zero]; rfl)
        case hq72 => exact fun _ _ _ h => h
        case hw72 => rfl
        case hy72 => (intro wq hSw; (try dsimp only at hSw); go_simp; (try with_reducible rfl))
        (try simp only [Act.put, List.setIfInBounds_toArray, List.set_cons_zero, List.set_cons_succ])
        refine' wpAnyH_take (i := 9) (oi := _) (v := _) ?hi73 (by kernel_rfl) (by kernel_rfl) (by kernel_rfl) ?hq73 (Or.inl ⟨?hw73, ?hy73⟩) (by assumption) ?rest73
        case hi73 => (simp only [List.getElem?_toArray, List.getElem?_cons_succ, List.getElem?_cons_zero]; rfl)
        case hq73 => exact fun _ _ _ h => h
        case hw73 => rfl
        case hy73 => (intro wq hSw; (try dsimp only at hSw); go_simp; (try with_reducible rfl))
        (try simp only [Act.put, List.setIfInBounds_toArray, List.set_cons_zero, List.set_cons_succ])
        refine' wpAnyH_take (i := 10) (oi := _) (v := Value.bool false) ?hi74 (by kernel_rfl) (by kernel_rfl) (by kernel_rfl) ?hq74 (Or.inl ⟨?hw74, ?hy74⟩) (by assumption) ?rest74
        case hi74 => (simp only [List.getElem?_toArray, List.getElem?_cons_succ, List.getElem?_cons_zero]; rfl)
        case hq74 => exact fun _ _ _ h => h
        case hw74 => rfl
        case hy74 => (intro wq hSw; (try dsimp only at hSw); (try go_simp); (first | done | (with_reducible rfl) | rfl | exact HXb.out | (rw [HXb.out]; done) | (rw [HXb.out]; rfl) | simp [HXx.out] | simp))
        (try simp only [Act.put, List.setIfInBounds_toArray, List.set_cons_zero, List.set_cons_succ])
        refine' wpAnyH_take (i := 11) (oi := _) (v := Value.bool false) ?hi75 (by kernel_rfl) (by kernel_rfl) (by kernel_rfl) ?hq75 (Or.inl ⟨?hw75, ?hy75⟩) (by assumption) ?rest75
        case hi75 => (simp only [List.getElem?_toArray, List.getElem?_cons_succ, List.getElem?_cons_zero]; rfl)
        case hq75 => exact fun _ _ _ h => h
        case hw75 => rfl
        case hy75 => (intro wq hSw; (try dsimp only at hSw); (try go_simp); (first | done | (with_reducible rfl) | rfl | simp))
        (try simp only [Act.put, List.setIfInBounds_toArray, List.set_cons_zero, List.set_cons_succ])
        refine' wpAnyH_take (i := 12) (oi := _) (v := Value.bool false) ?hi76 (by kernel_rfl) (by kernel_rfl) (by kernel_rfl) ?hq76 (Or.inl ⟨?hw76, ?hy76⟩) (by assumption) ?rest76
        case hi76 => (simp only [List.getElem?_toArray, List.getElem?_cons_succ, List.getElem?_cons_zero]; rfl)
        case hq76 => exact fun _ _ _ h => h
        case hw76 => rfl
        case hy76 => (intro wq hSw; (try dsimp only at hSw); (try go_simp); (first | done | (with_reducible rfl) | rfl | simp))
        (try simp only [Act.put, List.setIfInBounds_toArray, List.set_cons_zero, List.set_cons_succ])
        refine' wpAnyH_take (i := 13) (oi := _) (v := _) ?hi77 (by kernel_rfl) (by kernel_rfl) (by kernel_rfl) ?hq77 (Or.inl ⟨?hw77, ?hy77⟩) (by assumption) ?rest77
        case hi77 => (simp only [List.getElem?_toArray, List.getElem?_cons_succ, List.getElem?_cons_zero]; rfl)
        case hq77 => exact fun _ _ _ h => h
        case hw77 => rfl
        case hy77 => (intro wq hSw; (try dsimp only at hSw); go_simp; (try with_reducible rfl))
        (try simp only [Act.put, List.setIfInBounds_toArray, List.set_cons_zero, List.set_cons_succ])
        refine' wpAnyH_take (i := 14) (oi := _) (v := _) ?hi78 (by kernel_rfl) (by kernel_rfl) (by kernel_rfl) ?hq78 (Or.inl ⟨?hw78, ?hy78⟩) (by assumption) ?rest78
        case hi78 => (simp only [List.getElem?_toArray, List.getElem?_cons_succ, List.getElem?_cons_zero]; rfl)
        case hq78 => exact fun _ _ _ h => h
        case hw78 => rfl
        case hy78 => (intro wq hSw; (try dsimp only at hSw); go_simp; (try with_reducible rfl))
        (try simp only [Act.put, List.setIfInBounds_toArray, List.set_cons_zero, List.set_cons_succ])
        refine' wpAnyH_take (i := 15) (oi := _) (v := _) ?hi79 (by kernel_rfl) (by kernel_rfl) (by kernel_rfl) ?hq79 (Or.inl ⟨?hw79, ?hy79⟩) (by assumption) ?rest79
        case hi79 => (simp only [List.getElem?_toArray, List.getElem?_cons_succ, List.getElem?_cons_zero]; rfl)
        case hq79 => exact fun _ _ _ h => h
        case hw79 => rfl
        case hy79 => (intro wq hSw; (try dsimp only at hSw); go_simp; (try with_reducible rfl))
        (try simp only [Act.put, List.setIfInBounds_toArray, List.set_cons_zero, List.set_cons_succ])
        refine' wpAnyH_take (i := 16) (oi := _) (v := _) ?hi80 (by kernel_rfl) (by kernel_rfl) (by kernel_rfl) ?hq80 (Or.inl ⟨?hw80, ?hy80⟩) (by assumption) ?rest80
        case hi80 => (simp only [List.getElem?_toArray, List.getElem?_cons_succ, List.getElem?_cons_zero]; rfl)
        case hq80 => exact fun _ _ _ h => h
        case hw80 => rfl
        case hy80 => (intro wq hSw; (try dsimp only at hSw); go_simp; (try with_reducible rfl))
        (try simp only [Act.put, List.setIfInBounds_toArray, List.set_cons_zero, List.set_cons_succ])
        refine' wpAnyH_take (i := 17) (oi := _) (v := _) ?hi81 (by kernel_rfl) (by kernel_rfl) (by kernel_rfl) ?hq81 (Or.inl ⟨?hw81, ?hy81⟩) (by assumption) ?rest81
        case hi81 => (simp only [List.getElem?_toArray, List.getElem?_cons_succ, List.getElem?_cons_zero]; rfl)
        case hq81 => exact fun _ _ _ h => h
        case hw81 => rfl
        case hy81 => (intro wq hSw; (try dsimp only at hSw); go_simp; (try with_reducible rfl))
        (try simp only [Act.put, List.setIfInBounds_toArray, List.set_cons_zero, List.set_cons_succ])
        refine' wpAnyH_take (i := 18) (oi := _) (v := _) ?hi82 (by kernel_rfl) (by kernel_rfl) (by kernel_rfl) ?hq82 (Or.inl ⟨?hw82, ?hy82⟩) (by assumption) ?rest82
        case hi82 => (simp only [List.getElem?_toArray, List.getElem?_cons_succ, List.getElem?_cons_zero]; rfl)
        case hq82 => exact fun _ _ _ h => h
        case hw82 => rfl
        case hy82 => (intro wq hSw; (try dsimp only at hSw); go_simp; (try with_reducible rfl))
        (try simp only [Act.put, List.setIfInBounds_toArray, List.set_cons_zero, List.set_cons_succ])
        refine' wpAnyH_take (i := 19) (oi := _) (v := Value.bool false) ?hi83 (by kernel_rfl) (by kernel_rfl) (by kernel_rfl) ?hq83 (Or.inl ⟨?hw83, ?hy83⟩) (by assumption) ?rest83
        case hi83 => (simp only [List.getElem?_toArray, List.getElem?_cons_succ, List.getElem?_cons_zero]; rfl)
        case hq83 => exact fun _ _ _ h => h
        case hw83 => rfl
        case hy83 => (intro wq hSw; (try dsimp only at hSw); (try go_simp); (first | done | (with_reducible rfl) | rfl | exact HYb.out | (rw [HYb.out]; done) | (rw [HYb.out]; rfl) | simp [HY.out] | simp))
        (try simp only [Act.put, List.setIfInBounds_toArray, List.set_cons_zero, List.set_cons_succ])
        refine' wpAnyH_take (i := 20) (oi := _) (v := Value.bool false) ?hi84 (by kernel_rfl) (by kernel_rfl) (by kernel_rfl) ?hq84 (Or.inl ⟨?hw84, ?hy84⟩) (by assumption) ?rest84
        case hi84 => (simp only [List.getElem?_toArray, List.getElem?_cons_succ, List.getElem?_cons_zero]; rfl)
        case hq84 => exact fun _ _ _ h => h
        case hw84 => rfl
        case hy84 => (intro wq hSw; (try dsimp only at hSw); (try go_simp); (first | done | (with_reducible rfl) | rfl | simp))
        (try simp only [Act.put, List.setIfInBounds_toArray, List.set_cons_zero, List.set_cons_succ])
        refine wpAnyH_done (by kernel_rfl) ?_ _
        have HC3 := Lib.hid (HC.out.sub (List.Sublist.refl _) (List.nil_sublist _))
        clear HC
        go_wp2
        go_roundw
        case rel => exact ⟨k + 1, by omega, by go_num, HA2, HC3⟩
        case measure => simp [intOf]; omega
      · have hkn : k = n := by omega
        have hok : mgOk ms = true := mgOk_yes (by rw [← Hn.out]; exact hn1) (fun i hi => by rw [← HX0.out, ← HY0.out]; exact HA.out i (by have := Hn.out; omega))
        have HOk := Lib.hid hok
        have HB := Lib.hid hI.out.below
        clear hok hI HA
        go_wp2
        go_ret
        exact ⟨ret_bool HOk.out.symm, HB.out⟩
/-- The state of planes that grow. -/
structure Plm (w wr : World) (v : Value) (k a b n : Nat) (G : Nat → Nat → Nat → Int) (As : Nat → Option Addr) (cs : Nat → Nat) : Prop where
  bel : Below w.heap.size w wr
  x1 : Bx wr w.heap.size 25 #[.int .i64 0, .int .i64 0, .int .i64 0, .slice none 0 0]
  ow : wr.ownsRow (w.heap.size + 1) 52 3 v k (plv a b n As cs k)
  rows : ∀ i, i < k → Rds .i64 wr wr.heap.size (As i) (img a b 1 (fun x y _ => G i x y)) ∧ n ≤ cs i
  sep : ∀ i, i < k → ∀ ad, As i = some ad → ∀ g, v.ownBlock = some g → ad.block ≠ g
  lt : ∀ i, i < k → ∀ ad, As i = some ad → ad.block < wr.heap.size
theorem Plm.call {w wr u : World} {v : Value} {k a b n : Nat} {G : Nat → Nat → Nat → Int} {As : Nat → Option Addr} {cs : Nat → Nat} (h : Plm w wr v k a b n G As cs) (hB : Below wr.heap.size wr u) : Plm w u v k a b n G As cs :=
  ⟨h.bel.trans (hB.mono h.bel.size), h.x1.below hB, ownsRow_keep h.ow (fun g e => hB.block g (h.ow.lt g e).2), fun i hi => ⟨((h.rows i hi).1.below hB).more hB.size, (h.rows i hi).2⟩, h.sep, fun i hi ad e => Nat.lt_of_lt_of_le (h.lt i hi ad e) hB.size⟩
theorem Plm.app {w u w' : World} {v v' : Value} {k a b n : Nat} {G : Nat → Nat → Nat → Int} {As : Nat → Option Addr} {cs : Nat → Nat} (h : Plm w u v k a b n G As cs) {A3 : Option Addr} {c3 : Nat} (h3 : Rds .i64 u u.heap.size A3 (img a b 1 (fun x y _ => G k x y))) (hc3 : n ≤ c3) (hs3 : ∀ ad, A3 = some ad → (∀ g, v.ownBlock = some g → ad.block ≠ g) ∧ ad.block < u.heap.size)
    (hO : w'.ownsRow (w.heap.size + 1) 52 3 v' (k + 1) (plv a b n As cs k ++ [.int .i64 (a : Int), .int .i64 (b : Int), .slice A3 n c3])) (hG : u.grownBy w' v.ownBlock) (hW : ∀ g, v'.ownBlock = some g → v.ownBlock = some g ∨ u.heap.size ≤ g) (hz : w.heap.size + 1 ≤ u.heap.size) :
    Plm w w' v' (k + 1) a b n G (fun i => if i = k then A3 else As i) (fun i => if i = k then c3 else cs i) := by
  have hlo : ∀ g, v.ownBlock = some g → w.heap.size + 1 ≤ g := fun g e => (h.ow.lt g e).1
  have keep : ∀ {B : Option Addr} {xs : List Int}, Rds .i64 u u.heap.size B xs → (∀ ad, B = some ad → ∀ g, v.ownBlock = some g → ad.block ≠ g) → Rds .i64 w' w'.heap.size B xs := by
    intro B xs hr hs
    rcases hr with e | ⟨bb, off, rfl, hb, hc⟩
    · exact .inl e
    · refine .inr ⟨bb, off, rfl, Nat.lt_of_lt_of_le hb hG.size, fun j hj => ?_⟩
      have : w'.cell? ⟨bb, off + j, none⟩ = u.cell? ⟨bb, off + j, none⟩ := World.cell?_of_block (hG.block bb hb (fun e => hs _ rfl bb e.symm rfl))
      rw [this]; exact hc j hj
  refine ⟨h.bel.grown hG h.bel.size (fun g e => by have := hlo g e; omega), h.x1.kept hG (fun e => by have := hlo _ e.symm; omega), ?_, fun i hi => ?_, fun i hi ad e g eg => ?_, fun i hi ad e => ?_⟩
  · have e : plv a b n (fun i => if i = k then A3 else As i) (fun i => if i = k then c3 else cs i) (k + 1) = plv a b n As cs k ++ [.int .i64 (a : Int), .int .i64 (b : Int), .slice A3 n c3] := by
      show plv a b n (fun i => if i = k then A3 else As i) (fun i => if i = k then c3 else cs i) k ++ [.int .i64 (a : Int), .int .i64 (b : Int), .slice (if k = k then A3 else As k) n (if k = k then c3 else cs k)] = _
      rw [if_pos rfl, if_pos rfl, plv_ext (Bs := As) (ds := cs) (fun i hi => ⟨if_neg (by omega), if_neg (by omega)⟩)]
    rw [e]; exact hO
  · by_cases e : i = k
    · subst e
      simp only [if_pos rfl]
      exact ⟨keep h3 (fun ad e => (hs3 ad e).1), hc3⟩
    · simp only [if_neg e]
      exact ⟨keep (h.rows i (by omega)).1 (h.sep i (by omega)), (h.rows i (by omega)).2⟩
  · have hk : (∀ g, v.ownBlock = some g → ad.block ≠ g) ∧ ad.block < u.heap.size := by
      by_cases e2 : i = k
      · simp only [if_pos e2] at e; exact hs3 ad e
      · simp only [if_neg e2] at e; exact ⟨h.sep i (by omega) ad e, h.lt i (by omega) ad e⟩
    rcases hW g eg with h1 | h1
    · exact hk.1 g h1
    · have := hk.2; omega
  · have hsz := hG.size
    by_cases e2 : i = k
    · simp only [if_pos e2] at e; exact Nat.lt_of_lt_of_le (hs3 ad e).2 hsz
    · simp only [if_neg e2] at e; exact Nat.lt_of_lt_of_le (h.lt i (by omega) ad e) hsz
set_option maxHeartbeats 16000000 in
theorem i_MergePlanes (A : Option Addr) (c n : Nat) (ms : List Imv) (hn : n = ms.length) (w : World) (hx : Rdim w w.heap.size A ms) (hnl : n ≤ 2000000) (hl : ∀ i, i < ms.length → (imv ms i).ds.length ≤ 2000000) :
    Calls Try.prog 12 #[.slice A n c] w (MgR (mgOk ms) (imv ms 0).X (imv ms 0).Y n (mgL (imv ms 0).X.toNat (imv ms 0).Y.toNat ms) w) := by
  have HX := Lib.hid hx
  have Hn := Lib.hid hn
  have HL := Lib.hid hl
  have S0 : GS w (w.alloc (.cells #[.int .i64 0, .int .i64 0, .int .i64 0, .slice none 0 0] 25)) [] [⟨w.heap.size, 25, #[.int .i64 0, .int .i64 0, .int .i64 0, .slice none 0 0]⟩] := GS.box' (GS.start w) _ _ w.heap.size (by simp)
  clear hx hn hl
  go_enter Try.func12, Try.ntmps12
  go_wp2_with fail
  generalize w.alloc (.cells #[.int .i64 0, .int .i64 0, .int .i64 0, .slice none 0 0] 25) = u0 at *
  refine (iCanMerge_any A c n ms Hn.out u0 ((HX.out.below S0.below).more S0.below.size) hnl HL.out).mono ?_
  rintro e u1 ⟨rfl, hB1⟩
  have S1 := S0.call hB1
  clear S0 hB1
  cases hok : mgOk ms
  · have Hv := Lib.hid hok
    obtain ⟨r0, r1, r2, r3⟩ := S1.b0_4
    have f0 := S1.f0 0
    have f1 := S1.f0 1
    have f2 := S1.f0 2
    have f3 := S1.f0 3
    have HE := Lib.hid (S1.e0_4 (.int .i64 0) (.int .i64 0) (.int .i64 0) (.slice none 0 0))
    clear S1 hok
    go_wp2
    exact bodyPost_ret (v := .tuple #[.agg #[.int .i64 0, .int .i64 0, .int .i64 0, .slice none 0 0], .bool false]) (by simp [results, Try.results12, go_sem, r0, r1, r2, r3]) rfl (MgR.no Hv.out HE.out.1)
  · obtain ⟨W, H, hW1, hW, hH1, hH, hn1, hn4, eX, eY, hall⟩ := mgOk_spec hok
    rw [← Hn.out] at hn1 hn4
    have HAll := Lib.hid hall
    have HX0 := Lib.hid eX
    have HY0 := Lib.hid eY
    have HOk := Lib.hid hok
    obtain ⟨N, hN⟩ : ∃ N, N = W * H := ⟨_, rfl⟩
    have HN := Lib.hid hN
    have HI0 : Hid (Plm w u1 (.slice none 0 0) 0 W H N (fun i x y => px W 1 (imv ms i).ds x y 0) (fun _ => none) (fun _ => 0) ∧ w.heap.size + 1 ≤ u1.heap.size) := Lib.hid
      ⟨⟨S1.below, S1.bx (List.Mem.head _), World.ownsRow_nil _ _ _ _, fun i hi => by omega, fun i hi => by omega, fun i hi => by omega⟩, S1.l0⟩
    clear S1 hok hall eX eY hN
    go_wp2
    go_loopw [4, 13] (fun v i wr => ∃ (k : Nat) (As : Nat → Option Addr) (cs : Nat → Nat), k ≤ n ∧ i = .int .i64 (k : Int) ∧ Hid (Plm w wr v k W H N (fun i x y => px W 1 (imv ms i).ds x y 0) As cs ∧ w.heap.size + 1 ≤ wr.heap.size)) (fun _ i _ => n - (intOf i).toNat)
    case atStart => exact ⟨0, _, _, Nat.zero_le _, rfl, HI0⟩
    case round =>
      obtain ⟨k, As, cs, hk, rfl, hI⟩ := hrel
      clear HI0
      by_cases hlt : k < n
      · have hkl : k < ms.length := by have := Hn.out; omega
        obtain ⟨b, off, Ai, ci, rfl, hb, hci, x0, x1, x2, x3, hri⟩ := HX.out.at hkl
        obtain ⟨e1, e2, e3, e4, _⟩ := HAll.out k hkl
        rw [e1] at x0
        rw [e2] at x1
        rw [e3] at x2
        rw [e4] at x3 hci
        have hx0 := (hI.out.1.bel.cell (p := ⟨b, off + k * 4, none⟩) hb).trans x0
        have hx1 := (hI.out.1.bel.cell (p := ⟨b, off + k * 4 + 1, none⟩) hb).trans x1
        have hx2 := (hI.out.1.bel.cell (p := ⟨b, off + k * 4 + 2, none⟩) hb).trans x2
        have hx3 := (hI.out.1.bel.cell (p := ⟨b, off + k * 4 + 3, none⟩) hb).trans x3
        have HRi := Lib.hid hri
        have He4 := Lib.hid e4
        have HI1 := Lib.hid (hI.out.1.call ((Below.refl wr.heap.size wr).alloc (Nat.le_refl _) (.cells #[.int .i64 (W : Int), .int .i64 (H : Int), .int .i64 1, .slice Ai (W * H) ci] 25)))
        have hz := hI.out.2
        have hwl : wr.heap.size < (wr.alloc (.cells #[.int .i64 (W : Int), .int .i64 (H : Int), .int .i64 1, .slice Ai (W * H) ci] 25)).heap.size := by simp
        clear x0 x1 x2 x3 hri e1 e2 e3 e4 hI
        go_wp2_with fail
        generalize wr.alloc (.cells #[.int .i64 (W : Int), .int .i64 (H : Int), .int .i64 1, .slice Ai (W * H) ci] 25) = wa at *
        have hpl := iPlane_any W H 1 0 hW hH (by omega) (by omega) Ai ci (imv ms k).ds (by rw [He4.out, Nat.mul_one]) wa ((HRi.out.below HI1.out.bel).more HI1.out.bel.size)
        rw [He4.out] at hpl
        refine hpl.mono ?_
        rintro e w2 ⟨v2, rfl, hO2, hB2⟩
        clear hpl
        have hl2 : (img W H 1 (fun x y _ => px W 1 (imv ms k).ds x y 0)).length = N := by rw [HN.out]; exact plL_len W H 1 (imv ms k).ds 0
        obtain ⟨A2, c2, rfl, hc2⟩ := hO2.slice
        rw [hl2] at hO2 hc2 ⊢
        have HP3 := Lib.hid ((HI1.out.call hB2).call ((Below.refl w2.heap.size w2).alloc (Nat.le_refl _) (.cells #[.int .i64 (W : Int), .int .i64 (H : Int), .slice A2 N c2] 52)))
        have HR3 : Hid (Rds .i64 (w2.alloc (.cells #[.int .i64 (W : Int), .int .i64 (H : Int), .slice A2 N c2] 52)) (w2.alloc (.cells #[.int .i64 (W : Int), .int .i64 (H : Int), .slice A2 N c2] 52)).heap.size A2 (img W H 1 (fun x y _ => px W 1 (imv ms k).ds x y 0))) := Lib.hid ((hO2.rds.2.alloc (Nat.le_refl _) _).more (by simp))
        have HS3 : Hid (∀ ad, A2 = some ad → (∀ g, u4.ownBlock = some g → ad.block ≠ g) ∧ ad.block < (w2.alloc (.cells #[.int .i64 (W : Int), .int .i64 (H : Int), .slice A2 N c2] 52)).heap.size) := Lib.hid (fun ad e => by
          subst e
          have h1 := hO2.lt ad.block rfl
          refine ⟨fun g eg => ?_, by simp; omega⟩
          have h2 := (HI1.out.ow.lt g eg).2
          omega)
        have HZ3 : Hid (w.heap.size + 1 ≤ (w2.alloc (.cells #[.int .i64 (W : Int), .int .i64 (H : Int), .slice A2 N c2] 52)).heap.size) := Lib.hid (by have := hB2.size; simp; omega)
        have HNw : Hid (∀ j u, [Value.int .i64 (W : Int), .int .i64 (H : Int), .slice A2 N c2][j]? = some u → (w2.alloc (.cells #[.int .i64 (W : Int), .int .i64 (H : Int), .slice A2 N c2] 52)).cell? ((⟨w2.heap.size, 0, none⟩ : Addr).add j) = some u) := Lib.hid (fun j u hj => by
          have h := heap_alloc_new w2 (.cells #[.int .i64 (W : Int), .int .i64 (H : Int), .slice A2 N c2] 52)
          rw [add_spot rfl j, Nat.zero_add, cell_of_row _ _ j _ _ _ h]
          simpa using hj)
        have hk1000 : k ≤ 1000 := by omega
        clear hO2 hB2 HI1
        go_wp2_with (at_builtin; refine wpList_app3 rfl (.tmp 17) (.tmp 20) rfl (w.heap.size + 1) u4 k (plv W H N As cs k) rfl HP3.out.ow ⟨w2.heap.size, 0, none⟩ 1 _ _ _ rfl HNw.out (by intro u hu; simp at hu; rcases hu with rfl | rfl | rfl <;> rfl) hk1000 HZ3.out ?_; intro v5 w5 hO5 hG5 hW5)
        have HNx := Lib.hid (And.intro (HP3.out.app HR3.out hc2 HS3.out hO5 hG5 hW5 HZ3.out) (show w.heap.size + 1 ≤ w5.heap.size by have := HZ3.out; have := hG5.size; omega))
        clear hO5 hG5 hW5 HP3 HR3 HS3 HNw
        go_roundw
        case rel => exact ⟨k + 1, _, _, by omega, by go_num, HNx⟩
        case measure => simp [intOf]; omega
      · have hkn : k = n := by omega
        subst hkn
        have hPl := hI.out.1
        rcases hPl.ow.2 with ⟨_, h0⟩ | ⟨g, cap, cur, rfl, hbg, hg, hnc, hcm, hcs, htake⟩
        · omega
        · have HX1 := Lib.hid hPl.x1
          have HB := Lib.hid hPl.bel
          have HJ := Lib.hid (join_any W H k hW1 hW hH1 hH hn1 hn4 g 0 cap (fun x y i => px W 1 (imv ms i).ds x y 0) As cs wr (hPl.ow.lt g rfl).2 (fun i hi => by
            have hgt := plv_get W H N As cs i k hi
            have hcl := hPl.ow.cells (g := g) rfl
            have e0 := hcl (i * 3) _ hgt.1
            have e1 := hcl (i * 3 + 1) _ hgt.2.1
            have e2 := hcl (i * 3 + 2) _ hgt.2.2
            rw [add_spot rfl] at e0 e1 e2
            rw [HN.out] at e2
            exact ⟨e0, by simpa [Nat.add_assoc] using e1, by simpa [Nat.add_assoc] using e2⟩) (fun i hi => ⟨(hPl.rows i hi).1, by have := (hPl.rows i hi).2; rw [HN.out] at this; exact this⟩))
          have HZ := Lib.hid hI.out.2
          have HMg : Hid (img W H k (fun x y i => px W 1 (imv ms i).ds x y 0) = mgL W H ms) := Lib.hid (by unfold mgL; rw [← Hn.out])
          clear hI hPl hg hcs htake hnc hcm
          go_wp2_with fail
          refine HJ.out.mono ?_
          rintro e w6 ⟨v6, rfl, hO6, hB6⟩
          rw [HMg.out] at hO6
          obtain ⟨A6, c6, rfl, _⟩ := hO6.slice
          have hX6 := HX1.out.below hB6
          obtain ⟨r0, r1, r2, r3⟩ := bx4 hX6
          have f0 := hX6.fz 0
          have f1 := hX6.fz 1
          have f2 := hX6.fz 2
          have f3 := hX6.fz 3
          have HE := Lib.hid (im_end (w := w) (r := w.heap.size) hO6 (by have := HZ.out; omega) (by omega) (HB.out.trans (hB6.mono HB.out.size)) (.int .i64 (W : Int)) (.int .i64 (H : Int)) (.int .i64 (k : Int)) (.slice A6 (mgL W H ms).length c6))
          clear hX6 hO6 hB6 HX1 HJ
          go_wp2
          exact bodyPost_ret (v := .tuple #[.agg #[.int .i64 (W : Int), .int .i64 (H : Int), .int .i64 (k : Int), .slice A6 (mgL W H ms).length c6], .bool true]) (by simp [results, Try.results12, go_sem, r0, r1, r2, r3]) rfl (by rw [HX0.out, HY0.out]; exact MgR.yes HOk.out HE.out.1 HE.out.2)
end Go.Proofs.Ytfeldhhbnhdodaa
