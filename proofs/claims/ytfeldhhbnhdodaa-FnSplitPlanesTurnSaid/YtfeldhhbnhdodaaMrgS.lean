/- Contract of MergePlanes in the model. -/
import Derived.Test.YtfeldhhbnhdodaaPlnM
import Derived.Test.YtfeldhhbnhdodaaIma
import Derived.Test.YtfeldhhbnhdodaaImgA
import Derived.Test.YtfeldhhbnhdodaaSpecM
import Derived.Test.YtfeldhhbnhdodaaInvI
import Derived.Deep.RegionHeld3
import Derived.Deep.Cut
import Derived.RegionTactic
import Derived.BigRegion
namespace Go.Proofs.Ytfeldhhbnhdodaa
open Go.RowKit Go.Shelf
set_option linter.unusedSimpArgs false
set_option linter.unusedVariables false
set_option maxRecDepth 20000

set_option maxHeartbeats 16000000 in
theorem s_MergePlanes (A : Option Addr) (c n : Nat) (ms : List Imv) (hn : n = ms.length) (w : World) (hx : Rdim w w.heap.size A ms) (hnl : n ≤ 2000000) (hl : ∀ i, i < ms.length → (imv ms i).ds.length ≤ 2000000) :
    Calls Try.prog 15 #[.slice A n c] w (MgR (mgOk ms) (imv ms 0).X (imv ms 0).Y n (mgL (imv ms 0).X.toNat (imv ms 0).Y.toNat ms) w) := by
  have HX := Lib.hid hx
  have Hn := Lib.hid hn
  have HL := Lib.hid hl
  have S0 : GS w (w.alloc (.cells #[.int .i64 0, .int .i64 0, .int .i64 0, .slice none 0 0] 25)) [] [⟨w.heap.size, 25, #[.int .i64 0, .int .i64 0, .int .i64 0, .slice none 0 0]⟩] := GS.box' (GS.start w) _ _ w.heap.size (by simp)
  clear hx hn hl
  go_enter Try.func15, Try.ntmps15
  go_wp2_with fail
  generalize w.alloc (.cells #[.int .i64 0, .int .i64 0, .int .i64 0, .slice none 0 0] 25) = u0 at *
  refine (sIn_any (n : Int) 1 4 _).mono ?_
  rintro e w2 ⟨rfl, rfl⟩
  by_cases h14 : 1 ≤ (n : Int) ∧ (n : Int) ≤ 4
  case neg =>
    rw [decide_eq_false h14]
    have Hv : Hid (mgOk ms = false) := Lib.hid (mgOk_len (by rw [← Hn.out]; omega))
    obtain ⟨r0, r1, r2, r3⟩ := S0.b0_4
    have f0 := S0.f0 0
    have f1 := S0.f0 1
    have f2 := S0.f0 2
    have f3 := S0.f0 3
    have HE := Lib.hid (S0.e0_4 (.int .i64 0) (.int .i64 0) (.int .i64 0) (.slice none 0 0))
    clear S0 h14
    go_wp2
    exact bodyPost_ret (v := .tuple #[.agg #[.int .i64 0, .int .i64 0, .int .i64 0, .slice none 0 0], .bool false]) (by simp [results, Try.results15, go_sem, r0, r1, r2, r3]) rfl (MgR.no Hv.out HE.out.1)
  case pos =>
    rw [decide_eq_true h14]
    have HI0 := Lib.hid S0
    have hn1 : 1 ≤ n ∧ n ≤ 4 := by omega
    have hn0 : 0 < n := by omega
    obtain ⟨X0, hX0⟩ : ∃ X, X = (imv ms 0).X := ⟨_, rfl⟩
    obtain ⟨Y0, hY0⟩ : ∃ Y, Y = (imv ms 0).Y := ⟨_, rfl⟩
    have HX0 := Lib.hid hX0
    have HY0 := Lib.hid hY0
    obtain ⟨b, off, A0, c0, rfl, hb, hc0, y0, y1, y2, y3, hr0⟩ := HX.out.at (i := 0) (by rw [← Hn.out]; omega)
    rw [Nat.zero_mul, Nat.add_zero, ← hX0] at y0
    rw [Nat.zero_mul, Nat.add_zero, ← hY0] at y1
    have y0 : w.cell? ⟨b, off, none⟩ = some (.int .i64 X0) := y0
    clear S0 h14 y2 y3 hr0 hX0 hY0 hc0 A0 c0
    go_wp2
    go_loopw [4] (fun i wr => ∃ k : Nat, k ≤ n ∧ i = .int .i64 k ∧ Hid (∀ j, j < k → mgA X0 Y0 (imv ms j) = true) ∧ Hid (GS w wr [] [⟨w.heap.size, 25, #[.int .i64 0, .int .i64 0, .int .i64 0, .slice none 0 0]⟩])) (fun i _ => n - (intOf i).toNat)
    case atStart => exact ⟨0, Nat.zero_le _, rfl, Lib.hid (fun j hj => by omega), HI0⟩
    case round =>
      clear HI0
      obtain ⟨k, hk, rfl, HA, hI⟩ := hrel
      by_cases hlt : k < n
      · have hkl : k < ms.length := by have := Hn.out; omega
        obtain ⟨b', off', Ai, ci, hA', hb', hci, x0, x1, x2, x3, hri⟩ := HX.out.at hkl
        injection hA' with hA'
        injection hA' with e1 e2
        subst e1 e2
        have HLm := Lib.hid (HL.out k hkl)
        have HRi := Lib.hid hri
        obtain ⟨m, hm⟩ : ∃ m, m = imv ms k := ⟨_, rfl⟩
        rw [← hm] at x0 x1 x2 x3 hci HLm HRi
        have HM := Lib.hid hm
        have HMA : Hid (mgA (imv ms 0).X (imv ms 0).Y m = (vim m.X m.Y m.Z m.ds && decide (m.Z = 1) && decide (m.X = X0) && decide (m.Y = Y0))) := Lib.hid (by rw [HX0.out, HY0.out]; rfl)
        have HC := Lib.hid hI.out.drew
        clear hI hm hri hb'
        cases hv : vim m.X m.Y m.Z m.ds
        · have HVI := Lib.hid hv
          clear hv
          go_upto_region 6 with fail
          refine wp_region_held_drew (S := (fun w' => w'.cell? ⟨b, off + k * 4, none⟩ = some (.int .i64 m.X) ∧ w'.cell? ⟨b, off + k * 4 + 1, none⟩ = some (.int .i64 m.Y) ∧ w'.cell? ⟨b, off + k * 4 + 2, none⟩ = some (.int .i64 m.Z) ∧ w'.cell? ⟨b, off + k * 4 + 3, none⟩ = some (.slice Ai m.ds.length ci) ∧ w'.cell? ⟨b, off, none⟩ = some (.int .i64 X0) ∧ w'.cell? ⟨b, off + 1, none⟩ = some (.int .i64 Y0))) (by kernel_rfl) (by exact ⟨(HC.out.below.cell (p := ⟨b, off + k * 4, none⟩) hb).trans x0, (HC.out.below.cell (p := ⟨b, off + k * 4 + 1, none⟩) hb).trans x1, (HC.out.below.cell (p := ⟨b, off + k * 4 + 2, none⟩) hb).trans x2, (HC.out.below.cell (p := ⟨b, off + k * 4 + 3, none⟩) hb).trans x3, (HC.out.below.cell (p := ⟨b, off, none⟩) hb).trans y0, (HC.out.below.cell (p := ⟨b, off + 1, none⟩) hb).trans y1⟩) (fun hHeld => ?_)
          refine' wpAnyH_take (i := 0) (oi := _) (v := _) ?hi1 (by kernel_rfl) (by kernel_rfl) (by kernel_rfl) ?hq1 (Or.inl ⟨?hw1, ?hy1⟩) (by assumption) ?rest1
          case hi1 => (simp only [List.getElem?_toArray, List.getElem?_cons_succ, List.getElem?_cons_zero]; rfl)
          case hq1 => exact fun _ _ _ h => h
          case hw1 => rfl
          case hy1 => (intro wq hSw; (try dsimp only at hSw); go_simp; (try with_reducible rfl))
          (try simp only [Act.put, List.setIfInBounds_toArray, List.set_cons_zero, List.set_cons_succ])
          refine' wpAnyH_take (i := 1) (oi := _) (v := _) ?hi2 (by kernel_rfl) (by kernel_rfl) (by kernel_rfl) ?hq2 (Or.inl ⟨?hw2, ?hy2⟩) (by assumption) ?rest2
          case hi2 => (simp only [List.getElem?_toArray, List.getElem?_cons_succ, List.getElem?_cons_zero]; rfl)
          case hq2 => exact fun _ _ _ h => h
          case hw2 => rfl
          case hy2 => (intro wq hSw; (try dsimp only at hSw); go_simp; (try with_reducible rfl))
          (try simp only [Act.put, List.setIfInBounds_toArray, List.set_cons_zero, List.set_cons_succ])
          refine' wpAnyH_take (i := 2) (oi := _) (v := _) ?hi3 (by kernel_rfl) (by kernel_rfl) (by kernel_rfl) ?hq3 (Or.inl ⟨?hw3, ?hy3⟩) (by assumption) ?rest3
          case hi3 => (simp only [List.getElem?_toArray, List.getElem?_cons_succ, List.getElem?_cons_zero]; rfl)
          case hq3 => exact fun _ _ _ h => h
          case hw3 => rfl
          case hy3 => (intro wq hSw; (try dsimp only at hSw); go_simp; (try with_reducible rfl))
          (try simp only [Act.put, List.setIfInBounds_toArray, List.set_cons_zero, List.set_cons_succ])
          refine' wpAnyH_take (i := 3) (oi := _) (v := _) ?hi4 (by kernel_rfl) (by kernel_rfl) (by kernel_rfl) ?hq4 (Or.inl ⟨?hw4, ?hy4⟩) (by assumption) ?rest4
          case hi4 => (simp only [List.getElem?_toArray, List.getElem?_cons_succ, List.getElem?_cons_zero]; rfl)
          case hq4 => exact fun _ _ _ h => h
          case hw4 => rfl
          case hy4 => (intro wq hSw; (try dsimp only at hSw); go_simp; (try with_reducible rfl))
          (try simp only [Act.put, List.setIfInBounds_toArray, List.set_cons_zero, List.set_cons_succ])
          refine wpAnyH_ready (rs := [4]) (by kernel_rfl) (by simp) ?_
          refine' AllReadyH.cons (o := _) ?hi5 (fun K hK => ?rest5) AllReadyH.nil
          case hi5 => (simp only [List.getElem?_toArray, List.getElem?_cons_succ, List.getElem?_cons_zero]; rfl)
          go_simp
          go_at_call 32
          refine (sVimg_any m.X m.Y m.Z Ai ci m.ds _ (HC.out.arg HRi.out) (HLm.out)).mono ?_
          rintro e u5 ⟨rfl, hB5⟩
          have HD := Lib.hid (HC.out.call hB5)
          clear HC hB5
          have HC := HD
          clear HD
          rw [HVI.out]
          go_wp2_with fail
          refine hK.out _ _ (by (try dsimp only); exact ⟨(HC.out.below.cell (p := ⟨b, off + k * 4, none⟩) hb).trans x0, (HC.out.below.cell (p := ⟨b, off + k * 4 + 1, none⟩) hb).trans x1, (HC.out.below.cell (p := ⟨b, off + k * 4 + 2, none⟩) hb).trans x2, (HC.out.below.cell (p := ⟨b, off + k * 4 + 3, none⟩) hb).trans x3, (HC.out.below.cell (p := ⟨b, off, none⟩) hb).trans y0, (HC.out.below.cell (p := ⟨b, off + 1, none⟩) hb).trans y1⟩) (fun hHeld => ?_)
          clear hK K
          (try simp only [Act.put, List.setIfInBounds_toArray, List.set_cons_zero, List.set_cons_succ])
          refine' wpAnyH_take (i := 5) (oi := _) (v := Value.bool true) ?hi6 (by kernel_rfl) (by kernel_rfl) (by kernel_rfl) ?hq6 (Or.inl ⟨?hw6, ?hy6⟩) (by assumption) ?rest6
          case hi6 => (simp only [List.getElem?_toArray, List.getElem?_cons_succ, List.getElem?_cons_zero]; rfl)
          case hq6 => exact fun _ _ _ h => h
          case hw6 => rfl
          case hy6 => (intro wq hSw; (try dsimp only at hSw); (try go_simp); (first | done | (with_reducible rfl) | rfl | simp))
          (try simp only [Act.put, List.setIfInBounds_toArray, List.set_cons_zero, List.set_cons_succ])
          refine' wpAnyH_take (i := 6) (oi := _) (v := Value.bool true) ?hi7 (by kernel_rfl) (by kernel_rfl) (by kernel_rfl) ?hq7 (Or.inl ⟨?hw7, ?hy7⟩) (by assumption) ?rest7
          case hi7 => (simp only [List.getElem?_toArray, List.getElem?_cons_succ, List.getElem?_cons_zero]; rfl)
          case hq7 => exact fun _ _ _ h => h
          case hw7 => rfl
          case hy7 => (intro wq hSw; (try dsimp only at hSw); (try go_simp); (first | done | (with_reducible rfl) | rfl | simp))
          (try simp only [Act.put, List.setIfInBounds_toArray, List.set_cons_zero, List.set_cons_succ])
          refine' wpAnyH_take (i := 7) (oi := _) (v := undef) ?hi8 (by kernel_rfl) (by kernel_rfl) (by kernel_rfl) ?hq8 (Or.inr ?hw8) (by assumption) ?rest8
          case hi8 => (simp only [List.getElem?_toArray, List.getElem?_cons_succ, List.getElem?_cons_zero]; rfl)
          case hq8 => exact fun _ _ _ h => h
          case hw8 => exact ⟨rfl, rfl⟩
          (try simp only [Act.put, List.setIfInBounds_toArray, List.set_cons_zero, List.set_cons_succ])
          refine' wpAnyH_take (i := 8) (oi := _) (v := undef) ?hi9 (by kernel_rfl) (by kernel_rfl) (by kernel_rfl) ?hq9 (Or.inr ?hw9) (by assumption) ?rest9
          case hi9 => (simp only [List.getElem?_toArray, List.getElem?_cons_succ, List.getElem?_cons_zero]; rfl)
          case hq9 => exact fun _ _ _ h => h
          case hw9 => exact ⟨rfl, rfl⟩
          (try simp only [Act.put, List.setIfInBounds_toArray, List.set_cons_zero, List.set_cons_succ])
          refine' wpAnyH_take (i := 9) (oi := _) (v := undef) ?hi10 (by kernel_rfl) (by kernel_rfl) (by kernel_rfl) ?hq10 (Or.inr ?hw10) (by assumption) ?rest10
          case hi10 => (simp only [List.getElem?_toArray, List.getElem?_cons_succ, List.getElem?_cons_zero]; rfl)
          case hq10 => exact fun _ _ _ h => h
          case hw10 => exact ⟨rfl, rfl⟩
          (try simp only [Act.put, List.setIfInBounds_toArray, List.set_cons_zero, List.set_cons_succ])
          refine' wpAnyH_take (i := 10) (oi := _) (v := undef) ?hi11 (by kernel_rfl) (by kernel_rfl) (by kernel_rfl) ?hq11 (Or.inr ?hw11) (by assumption) ?rest11
          case hi11 => (simp only [List.getElem?_toArray, List.getElem?_cons_succ, List.getElem?_cons_zero]; rfl)
          case hq11 => exact fun _ _ _ h => h
          case hw11 => exact ⟨rfl, rfl⟩
          (try simp only [Act.put, List.setIfInBounds_toArray, List.set_cons_zero, List.set_cons_succ])
          refine' wpAnyH_take (i := 11) (oi := _) (v := undef) ?hi12 (by kernel_rfl) (by kernel_rfl) (by kernel_rfl) ?hq12 (Or.inr ?hw12) (by assumption) ?rest12
          case hi12 => (simp only [List.getElem?_toArray, List.getElem?_cons_succ, List.getElem?_cons_zero]; rfl)
          case hq12 => exact fun _ _ _ h => h
          case hw12 => exact ⟨rfl, rfl⟩
          (try simp only [Act.put, List.setIfInBounds_toArray, List.set_cons_zero, List.set_cons_succ])
          refine' wpAnyH_take (i := 12) (oi := _) (v := undef) ?hi13 (by kernel_rfl) (by kernel_rfl) (by kernel_rfl) ?hq13 (Or.inr ?hw13) (by assumption) ?rest13
          case hi13 => (simp only [List.getElem?_toArray, List.getElem?_cons_succ, List.getElem?_cons_zero]; rfl)
          case hq13 => exact fun _ _ _ h => h
          case hw13 => exact ⟨rfl, rfl⟩
          (try simp only [Act.put, List.setIfInBounds_toArray, List.set_cons_zero, List.set_cons_succ])
          refine' wpAnyH_take (i := 13) (oi := _) (v := Value.bool true) ?hi14 (by kernel_rfl) (by kernel_rfl) (by kernel_rfl) ?hq14 (Or.inl ⟨?hw14, ?hy14⟩) (by assumption) ?rest14
          case hi14 => (simp only [List.getElem?_toArray, List.getElem?_cons_succ, List.getElem?_cons_zero]; rfl)
          case hq14 => exact fun _ _ _ h => h
          case hw14 => rfl
          case hy14 => (intro wq hSw; (try dsimp only at hSw); (try go_simp); (first | done | (with_reducible rfl) | rfl | simp))
          (try simp only [Act.put, List.setIfInBounds_toArray, List.set_cons_zero, List.set_cons_succ])
          refine' wpAnyH_take (i := 14) (oi := _) (v := Value.bool true) ?hi15 (by kernel_rfl) (by kernel_rfl) (by kernel_rfl) ?hq15 (Or.inl ⟨?hw15, ?hy15⟩) (by assumption) ?rest15
          case hi15 => (simp only [List.getElem?_toArray, List.getElem?_cons_succ, List.getElem?_cons_zero]; rfl)
          case hq15 => exact fun _ _ _ h => h
          case hw15 => rfl
          case hy15 => (intro wq hSw; (try dsimp only at hSw); (try go_simp); (first | done | (with_reducible rfl) | rfl | simp))
          (try simp only [Act.put, List.setIfInBounds_toArray, List.set_cons_zero, List.set_cons_succ])
          refine' wpAnyH_take (i := 15) (oi := _) (v := undef) ?hi16 (by kernel_rfl) (by kernel_rfl) (by kernel_rfl) ?hq16 (Or.inr ?hw16) (by assumption) ?rest16
          case hi16 => (simp only [List.getElem?_toArray, List.getElem?_cons_succ, List.getElem?_cons_zero]; rfl)
          case hq16 => exact fun _ _ _ h => h
          case hw16 => exact ⟨rfl, rfl⟩
          (try simp only [Act.put, List.setIfInBounds_toArray, List.set_cons_zero, List.set_cons_succ])
          refine' wpAnyH_take (i := 16) (oi := _) (v := undef) ?hi17 (by kernel_rfl) (by kernel_rfl) (by kernel_rfl) ?hq17 (Or.inr ?hw17) (by assumption) ?rest17
          case hi17 => (simp only [List.getElem?_toArray, List.getElem?_cons_succ, List.getElem?_cons_zero]; rfl)
          case hq17 => exact fun _ _ _ h => h
          case hw17 => exact ⟨rfl, rfl⟩
          (try simp only [Act.put, List.setIfInBounds_toArray, List.set_cons_zero, List.set_cons_succ])
          refine' wpAnyH_take (i := 17) (oi := _) (v := undef) ?hi18 (by kernel_rfl) (by kernel_rfl) (by kernel_rfl) ?hq18 (Or.inr ?hw18) (by assumption) ?rest18
          case hi18 => (simp only [List.getElem?_toArray, List.getElem?_cons_succ, List.getElem?_cons_zero]; rfl)
          case hq18 => exact fun _ _ _ h => h
          case hw18 => exact ⟨rfl, rfl⟩
          (try simp only [Act.put, List.setIfInBounds_toArray, List.set_cons_zero, List.set_cons_succ])
          refine' wpAnyH_take (i := 18) (oi := _) (v := undef) ?hi19 (by kernel_rfl) (by kernel_rfl) (by kernel_rfl) ?hq19 (Or.inr ?hw19) (by assumption) ?rest19
          case hi19 => (simp only [List.getElem?_toArray, List.getElem?_cons_succ, List.getElem?_cons_zero]; rfl)
          case hq19 => exact fun _ _ _ h => h
          case hw19 => exact ⟨rfl, rfl⟩
          (try simp only [Act.put, List.setIfInBounds_toArray, List.set_cons_zero, List.set_cons_succ])
          refine' wpAnyH_take (i := 19) (oi := _) (v := undef) ?hi20 (by kernel_rfl) (by kernel_rfl) (by kernel_rfl) ?hq20 (Or.inr ?hw20) (by assumption) ?rest20
          case hi20 => (simp only [List.getElem?_toArray, List.getElem?_cons_succ, List.getElem?_cons_zero]; rfl)
          case hq20 => exact fun _ _ _ h => h
          case hw20 => exact ⟨rfl, rfl⟩
          (try simp only [Act.put, List.setIfInBounds_toArray, List.set_cons_zero, List.set_cons_succ])
          refine' wpAnyH_take (i := 20) (oi := _) (v := undef) ?hi21 (by kernel_rfl) (by kernel_rfl) (by kernel_rfl) ?hq21 (Or.inr ?hw21) (by assumption) ?rest21
          case hi21 => (simp only [List.getElem?_toArray, List.getElem?_cons_succ, List.getElem?_cons_zero]; rfl)
          case hq21 => exact fun _ _ _ h => h
          case hw21 => exact ⟨rfl, rfl⟩
          (try simp only [Act.put, List.setIfInBounds_toArray, List.set_cons_zero, List.set_cons_succ])
          refine' wpAnyH_take (i := 21) (oi := _) (v := undef) ?hi22 (by kernel_rfl) (by kernel_rfl) (by kernel_rfl) ?hq22 (Or.inr ?hw22) (by assumption) ?rest22
          case hi22 => (simp only [List.getElem?_toArray, List.getElem?_cons_succ, List.getElem?_cons_zero]; rfl)
          case hq22 => exact fun _ _ _ h => h
          case hw22 => exact ⟨rfl, rfl⟩
          (try simp only [Act.put, List.setIfInBounds_toArray, List.set_cons_zero, List.set_cons_succ])
          refine' wpAnyH_take (i := 22) (oi := _) (v := undef) ?hi23 (by kernel_rfl) (by kernel_rfl) (by kernel_rfl) ?hq23 (Or.inr ?hw23) (by assumption) ?rest23
          case hi23 => (simp only [List.getElem?_toArray, List.getElem?_cons_succ, List.getElem?_cons_zero]; rfl)
          case hq23 => exact fun _ _ _ h => h
          case hw23 => exact ⟨rfl, rfl⟩
          (try simp only [Act.put, List.setIfInBounds_toArray, List.set_cons_zero, List.set_cons_succ])
          refine' wpAnyH_take (i := 23) (oi := _) (v := undef) ?hi24 (by kernel_rfl) (by kernel_rfl) (by kernel_rfl) ?hq24 (Or.inr ?hw24) (by assumption) ?rest24
          case hi24 => (simp only [List.getElem?_toArray, List.getElem?_cons_succ, List.getElem?_cons_zero]; rfl)
          case hq24 => exact fun _ _ _ h => h
          case hw24 => exact ⟨rfl, rfl⟩
          (try simp only [Act.put, List.setIfInBounds_toArray, List.set_cons_zero, List.set_cons_succ])
          refine' wpAnyH_take (i := 24) (oi := _) (v := undef) ?hi25 (by kernel_rfl) (by kernel_rfl) (by kernel_rfl) ?hq25 (Or.inr ?hw25) (by assumption) ?rest25
          case hi25 => (simp only [List.getElem?_toArray, List.getElem?_cons_succ, List.getElem?_cons_zero]; rfl)
          case hq25 => exact fun _ _ _ h => h
          case hw25 => exact ⟨rfl, rfl⟩
          (try simp only [Act.put, List.setIfInBounds_toArray, List.set_cons_zero, List.set_cons_succ])
          refine' wpAnyH_take (i := 25) (oi := _) (v := Value.bool true) ?hi26 (by kernel_rfl) (by kernel_rfl) (by kernel_rfl) ?hq26 (Or.inl ⟨?hw26, ?hy26⟩) (by assumption) ?rest26
          case hi26 => (simp only [List.getElem?_toArray, List.getElem?_cons_succ, List.getElem?_cons_zero]; rfl)
          case hq26 => exact fun _ _ _ h => h
          case hw26 => rfl
          case hy26 => (intro wq hSw; (try dsimp only at hSw); (try go_simp); (first | done | (with_reducible rfl) | rfl | simp))
          (try simp only [Act.put, List.setIfInBounds_toArray, List.set_cons_zero, List.set_cons_succ])
          refine' wpAnyH_take (i := 26) (oi := _) (v := Value.bool true) ?hi27 (by kernel_rfl) (by kernel_rfl) (by kernel_rfl) ?hq27 (Or.inl ⟨?hw27, ?hy27⟩) (by assumption) ?rest27
          case hi27 => (simp only [List.getElem?_toArray, List.getElem?_cons_succ, List.getElem?_cons_zero]; rfl)
          case hq27 => exact fun _ _ _ h => h
          case hw27 => rfl
          case hy27 => (intro wq hSw; (try dsimp only at hSw); (try go_simp); (first | done | (with_reducible rfl) | rfl | simp))
          (try simp only [Act.put, List.setIfInBounds_toArray, List.set_cons_zero, List.set_cons_succ])
          refine' wpAnyH_take (i := 27) (oi := _) (v := undef) ?hi28 (by kernel_rfl) (by kernel_rfl) (by kernel_rfl) ?hq28 (Or.inr ?hw28) (by assumption) ?rest28
          case hi28 => (simp only [List.getElem?_toArray, List.getElem?_cons_succ, List.getElem?_cons_zero]; rfl)
          case hq28 => exact fun _ _ _ h => h
          case hw28 => exact ⟨rfl, rfl⟩
          (try simp only [Act.put, List.setIfInBounds_toArray, List.set_cons_zero, List.set_cons_succ])
          refine' wpAnyH_take (i := 28) (oi := _) (v := undef) ?hi29 (by kernel_rfl) (by kernel_rfl) (by kernel_rfl) ?hq29 (Or.inr ?hw29) (by assumption) ?rest29
          case hi29 => (simp only [List.getElem?_toArray, List.getElem?_cons_succ, List.getElem?_cons_zero]; rfl)
          case hq29 => exact fun _ _ _ h => h
          case hw29 => exact ⟨rfl, rfl⟩
          (try simp only [Act.put, List.setIfInBounds_toArray, List.set_cons_zero, List.set_cons_succ])
          refine' wpAnyH_take (i := 29) (oi := _) (v := undef) ?hi30 (by kernel_rfl) (by kernel_rfl) (by kernel_rfl) ?hq30 (Or.inr ?hw30) (by assumption) ?rest30
          case hi30 => (simp only [List.getElem?_toArray, List.getElem?_cons_succ, List.getElem?_cons_zero]; rfl)
          case hq30 => exact fun _ _ _ h => h
          case hw30 => exact ⟨rfl, rfl⟩
          (try simp only [Act.put, List.setIfInBounds_toArray, List.set_cons_zero, List.set_cons_succ])
          refine' wpAnyH_take (i := 30) (oi := _) (v := undef) ?hi31 (by kernel_rfl) (by kernel_rfl) (by kernel_rfl) ?hq31 (Or.inr ?hw31) (by assumption) ?rest31
          case hi31 => (simp only [List.getElem?_toArray, List.getElem?_cons_succ, List.getElem?_cons_zero]; rfl)
          case hq31 => exact fun _ _ _ h => h
          case hw31 => exact ⟨rfl, rfl⟩
          (try simp only [Act.put, List.setIfInBounds_toArray, List.set_cons_zero, List.set_cons_succ])
          refine' wpAnyH_take (i := 31) (oi := _) (v := undef) ?hi32 (by kernel_rfl) (by kernel_rfl) (by kernel_rfl) ?hq32 (Or.inr ?hw32) (by assumption) ?rest32
          case hi32 => (simp only [List.getElem?_toArray, List.getElem?_cons_succ, List.getElem?_cons_zero]; rfl)
          case hq32 => exact fun _ _ _ h => h
          case hw32 => exact ⟨rfl, rfl⟩
          (try simp only [Act.put, List.setIfInBounds_toArray, List.set_cons_zero, List.set_cons_succ])
          refine' wpAnyH_take (i := 32) (oi := _) (v := undef) ?hi33 (by kernel_rfl) (by kernel_rfl) (by kernel_rfl) ?hq33 (Or.inr ?hw33) (by assumption) ?rest33
          case hi33 => (simp only [List.getElem?_toArray, List.getElem?_cons_succ, List.getElem?_cons_zero]; rfl)
          case hq33 => exact fun _ _ _ h => h
          case hw33 => exact ⟨rfl, rfl⟩
          (try simp only [Act.put, List.setIfInBounds_toArray, List.set_cons_zero, List.set_cons_succ])
          refine' wpAnyH_take (i := 33) (oi := _) (v := undef) ?hi34 (by kernel_rfl) (by kernel_rfl) (by kernel_rfl) ?hq34 (Or.inr ?hw34) (by assumption) ?rest34
          case hi34 => (simp only [List.getElem?_toArray, List.getElem?_cons_succ, List.getElem?_cons_zero]; rfl)
          case hq34 => exact fun _ _ _ h => h
          case hw34 => exact ⟨rfl, rfl⟩
          (try simp only [Act.put, List.setIfInBounds_toArray, List.set_cons_zero, List.set_cons_succ])
          refine' wpAnyH_take (i := 34) (oi := _) (v := undef) ?hi35 (by kernel_rfl) (by kernel_rfl) (by kernel_rfl) ?hq35 (Or.inr ?hw35) (by assumption) ?rest35
          case hi35 => (simp only [List.getElem?_toArray, List.getElem?_cons_succ, List.getElem?_cons_zero]; rfl)
          case hq35 => exact fun _ _ _ h => h
          case hw35 => exact ⟨rfl, rfl⟩
          (try simp only [Act.put, List.setIfInBounds_toArray, List.set_cons_zero, List.set_cons_succ])
          refine' wpAnyH_take (i := 35) (oi := _) (v := undef) ?hi36 (by kernel_rfl) (by kernel_rfl) (by kernel_rfl) ?hq36 (Or.inr ?hw36) (by assumption) ?rest36
          case hi36 => (simp only [List.getElem?_toArray, List.getElem?_cons_succ, List.getElem?_cons_zero]; rfl)
          case hq36 => exact fun _ _ _ h => h
          case hw36 => exact ⟨rfl, rfl⟩
          (try simp only [Act.put, List.setIfInBounds_toArray, List.set_cons_zero, List.set_cons_succ])
          refine' wpAnyH_take (i := 36) (oi := _) (v := undef) ?hi37 (by kernel_rfl) (by kernel_rfl) (by kernel_rfl) ?hq37 (Or.inr ?hw37) (by assumption) ?rest37
          case hi37 => (simp only [List.getElem?_toArray, List.getElem?_cons_succ, List.getElem?_cons_zero]; rfl)
          case hq37 => exact fun _ _ _ h => h
          case hw37 => exact ⟨rfl, rfl⟩
          (try simp only [Act.put, List.setIfInBounds_toArray, List.set_cons_zero, List.set_cons_succ])
          refine' wpAnyH_take (i := 37) (oi := _) (v := Value.bool true) ?hi38 (by kernel_rfl) (by kernel_rfl) (by kernel_rfl) ?hq38 (Or.inl ⟨?hw38, ?hy38⟩) (by assumption) ?rest38
          case hi38 => (simp only [List.getElem?_toArray, List.getElem?_cons_succ, List.getElem?_cons_zero]; rfl)
          case hq38 => exact fun _ _ _ h => h
          case hw38 => rfl
          case hy38 => (intro wq hSw; (try dsimp only at hSw); (try go_simp); (first | done | (with_reducible rfl) | rfl | simp))
          (try simp only [Act.put, List.setIfInBounds_toArray, List.set_cons_zero, List.set_cons_succ])
          refine wpAnyH_done (by kernel_rfl) ?_ _
          have Hv : Hid (mgOk ms = false) := Lib.hid (mgOk_no hkl (by rw [← HM.out, HMA.out, HVI.out]; rfl))
          obtain ⟨r0, r1, r2, r3⟩ := HC.out.b0_4
          have f0 := HC.out.f0 0
          have f1 := HC.out.f0 1
          have f2 := HC.out.f0 2
          have f3 := HC.out.f0 3
          have HE := Lib.hid (HC.out.e0_4 (.int .i64 0) (.int .i64 0) (.int .i64 0) (.slice none 0 0))
          clear HC
          go_wp2
          exact bodyPost_ret (v := .tuple #[.agg #[.int .i64 0, .int .i64 0, .int .i64 0, .slice none 0 0], .bool false]) (by simp [results, Try.results15, go_sem, r0, r1, r2, r3]) rfl (MgR.no Hv.out HE.out.1)
        have HVI := Lib.hid hv
        clear hv
        by_cases hZ : m.Z = 1
        case neg =>
          have HZb : Hid (decide (m.Z = 1) = false) := Lib.hid (decide_eq_false hZ)
          have HZ := Lib.hid hZ
          clear hZ
          go_upto_region 6 with fail
          refine wp_region_held_drew (S := (fun w' => w'.cell? ⟨b, off + k * 4, none⟩ = some (.int .i64 m.X) ∧ w'.cell? ⟨b, off + k * 4 + 1, none⟩ = some (.int .i64 m.Y) ∧ w'.cell? ⟨b, off + k * 4 + 2, none⟩ = some (.int .i64 m.Z) ∧ w'.cell? ⟨b, off + k * 4 + 3, none⟩ = some (.slice Ai m.ds.length ci) ∧ w'.cell? ⟨b, off, none⟩ = some (.int .i64 X0) ∧ w'.cell? ⟨b, off + 1, none⟩ = some (.int .i64 Y0))) (by kernel_rfl) (by exact ⟨(HC.out.below.cell (p := ⟨b, off + k * 4, none⟩) hb).trans x0, (HC.out.below.cell (p := ⟨b, off + k * 4 + 1, none⟩) hb).trans x1, (HC.out.below.cell (p := ⟨b, off + k * 4 + 2, none⟩) hb).trans x2, (HC.out.below.cell (p := ⟨b, off + k * 4 + 3, none⟩) hb).trans x3, (HC.out.below.cell (p := ⟨b, off, none⟩) hb).trans y0, (HC.out.below.cell (p := ⟨b, off + 1, none⟩) hb).trans y1⟩) (fun hHeld => ?_)
          refine' wpAnyH_take (i := 0) (oi := _) (v := _) ?hi39 (by kernel_rfl) (by kernel_rfl) (by kernel_rfl) ?hq39 (Or.inl ⟨?hw39, ?hy39⟩) (by assumption) ?rest39
          case hi39 => (simp only [List.getElem?_toArray, List.getElem?_cons_succ, List.getElem?_cons_zero]; rfl)
          case hq39 => exact fun _ _ _ h => h
          case hw39 => rfl
          case hy39 => (intro wq hSw; (try dsimp only at hSw); go_simp; (try with_reducible rfl))
          (try simp only [Act.put, List.setIfInBounds_toArray, List.set_cons_zero, List.set_cons_succ])
          refine' wpAnyH_take (i := 1) (oi := _) (v := _) ?hi40 (by kernel_rfl) (by kernel_rfl) (by kernel_rfl) ?hq40 (Or.inl ⟨?hw40, ?hy40⟩) (by assumption) ?rest40
          case hi40 => (simp only [List.getElem?_toArray, List.getElem?_cons_succ, List.getElem?_cons_zero]; rfl)
          case hq40 => exact fun _ _ _ h => h
          case hw40 => rfl
          case hy40 => (intro wq hSw; (try dsimp only at hSw); go_simp; (try with_reducible rfl))
          (try simp only [Act.put, List.setIfInBounds_toArray, List.set_cons_zero, List.set_cons_succ])
          refine' wpAnyH_take (i := 2) (oi := _) (v := _) ?hi41 (by kernel_rfl) (by kernel_rfl) (by kernel_rfl) ?hq41 (Or.inl ⟨?hw41, ?hy41⟩) (by assumption) ?rest41
          case hi41 => (simp only [List.getElem?_toArray, List.getElem?_cons_succ, List.getElem?_cons_zero]; rfl)
          case hq41 => exact fun _ _ _ h => h
          case hw41 => rfl
          case hy41 => (intro wq hSw; (try dsimp only at hSw); go_simp; (try with_reducible rfl))
          (try simp only [Act.put, List.setIfInBounds_toArray, List.set_cons_zero, List.set_cons_succ])
          refine' wpAnyH_take (i := 3) (oi := _) (v := _) ?hi42 (by kernel_rfl) (by kernel_rfl) (by kernel_rfl) ?hq42 (Or.inl ⟨?hw42, ?hy42⟩) (by assumption) ?rest42
          case hi42 => (simp only [List.getElem?_toArray, List.getElem?_cons_succ, List.getElem?_cons_zero]; rfl)
          case hq42 => exact fun _ _ _ h => h
          case hw42 => rfl
          case hy42 => (intro wq hSw; (try dsimp only at hSw); go_simp; (try with_reducible rfl))
          (try simp only [Act.put, List.setIfInBounds_toArray, List.set_cons_zero, List.set_cons_succ])
          refine wpAnyH_ready (rs := [4]) (by kernel_rfl) (by simp) ?_
          refine' AllReadyH.cons (o := _) ?hi43 (fun K hK => ?rest43) AllReadyH.nil
          case hi43 => (simp only [List.getElem?_toArray, List.getElem?_cons_succ, List.getElem?_cons_zero]; rfl)
          go_simp
          go_at_call 32
          refine (sVimg_any m.X m.Y m.Z Ai ci m.ds _ (HC.out.arg HRi.out) (HLm.out)).mono ?_
          rintro e u5 ⟨rfl, hB5⟩
          have HD := Lib.hid (HC.out.call hB5)
          clear HC hB5
          have HC := HD
          clear HD
          rw [HVI.out]
          go_wp2_with fail
          refine hK.out _ _ (by (try dsimp only); exact ⟨(HC.out.below.cell (p := ⟨b, off + k * 4, none⟩) hb).trans x0, (HC.out.below.cell (p := ⟨b, off + k * 4 + 1, none⟩) hb).trans x1, (HC.out.below.cell (p := ⟨b, off + k * 4 + 2, none⟩) hb).trans x2, (HC.out.below.cell (p := ⟨b, off + k * 4 + 3, none⟩) hb).trans x3, (HC.out.below.cell (p := ⟨b, off, none⟩) hb).trans y0, (HC.out.below.cell (p := ⟨b, off + 1, none⟩) hb).trans y1⟩) (fun hHeld => ?_)
          clear hK K
          (try simp only [Act.put, List.setIfInBounds_toArray, List.set_cons_zero, List.set_cons_succ])
          refine' wpAnyH_take (i := 5) (oi := _) (v := Value.bool false) ?hi44 (by kernel_rfl) (by kernel_rfl) (by kernel_rfl) ?hq44 (Or.inl ⟨?hw44, ?hy44⟩) (by assumption) ?rest44
          case hi44 => (simp only [List.getElem?_toArray, List.getElem?_cons_succ, List.getElem?_cons_zero]; rfl)
          case hq44 => exact fun _ _ _ h => h
          case hw44 => rfl
          case hy44 => (intro wq hSw; (try dsimp only at hSw); (try go_simp); (first | done | (with_reducible rfl) | rfl | simp))
          (try simp only [Act.put, List.setIfInBounds_toArray, List.set_cons_zero, List.set_cons_succ])
          refine' wpAnyH_take (i := 6) (oi := _) (v := Value.bool false) ?hi45 (by kernel_rfl) (by kernel_rfl) (by kernel_rfl) ?hq45 (Or.inl ⟨?hw45, ?hy45⟩) (by assumption) ?rest45
          case hi45 => (simp only [List.getElem?_toArray, List.getElem?_cons_succ, List.getElem?_cons_zero]; rfl)
          case hq45 => exact fun _ _ _ h => h
          case hw45 => rfl
          case hy45 => (intro wq hSw; (try dsimp only at hSw); (try go_simp); (first | done | (with_reducible rfl) | rfl | simp))
          (try simp only [Act.put, List.setIfInBounds_toArray, List.set_cons_zero, List.set_cons_succ])
          refine' wpAnyH_take (i := 7) (oi := _) (v := _) ?hi46 (by kernel_rfl) (by kernel_rfl) (by kernel_rfl) ?hq46 (Or.inl ⟨?hw46, ?hy46⟩) (by assumption) ?rest46
          case hi46 => (simp only [List.getElem?_toArray, List.getElem?_cons_succ, List.getElem?_cons_zero]; rfl)
          case hq46 => exact fun _ _ _ h => h
          case hw46 => rfl
          case hy46 => (intro wq hSw; (try dsimp only at hSw); go_simp; (try with_reducible rfl))
          (try simp only [Act.put, List.setIfInBounds_toArray, List.set_cons_zero, List.set_cons_succ])
          refine' wpAnyH_take (i := 8) (oi := _) (v := _) ?hi47 (by kernel_rfl) (by kernel_rfl) (by kernel_rfl) ?hq47 (Or.inl ⟨?hw47, ?hy47⟩) (by assumption) ?rest47
          case hi47 => (simp only [List.getElem?_toArray, List.getElem?_cons_succ, List.getElem?_cons_zero]; rfl)
          case hq47 => exact fun _ _ _ h => h
          case hw47 => rfl
          case hy47 => (intro wq hSw; (try dsimp only at hSw); go_simp; (try with_reducible rfl))
          (try simp only [Act.put, List.setIfInBounds_toArray, List.set_cons_zero, List.set_cons_succ])
          refine' wpAnyH_take (i := 9) (oi := _) (v := _) ?hi48 (by kernel_rfl) (by kernel_rfl) (by kernel_rfl) ?hq48 (Or.inl ⟨?hw48, ?hy48⟩) (by assumption) ?rest48
          case hi48 => (simp only [List.getElem?_toArray, List.getElem?_cons_succ, List.getElem?_cons_zero]; rfl)
          case hq48 => exact fun _ _ _ h => h
          case hw48 => rfl
          case hy48 => (intro wq hSw; (try dsimp only at hSw); go_simp; (try with_reducible rfl))
          (try simp only [Act.put, List.setIfInBounds_toArray, List.set_cons_zero, List.set_cons_succ])
          refine' wpAnyH_take (i := 10) (oi := _) (v := _) ?hi49 (by kernel_rfl) (by kernel_rfl) (by kernel_rfl) ?hq49 (Or.inl ⟨?hw49, ?hy49⟩) (by assumption) ?rest49
          case hi49 => (simp only [List.getElem?_toArray, List.getElem?_cons_succ, List.getElem?_cons_zero]; rfl)
          case hq49 => exact fun _ _ _ h => h
          case hw49 => rfl
          case hy49 => (intro wq hSw; (try dsimp only at hSw); go_simp; (try with_reducible rfl))
          (try simp only [Act.put, List.setIfInBounds_toArray, List.set_cons_zero, List.set_cons_succ])
          refine' wpAnyH_take (i := 11) (oi := _) (v := _) ?hi50 (by kernel_rfl) (by kernel_rfl) (by kernel_rfl) ?hq50 (Or.inl ⟨?hw50, ?hy50⟩) (by assumption) ?rest50
          case hi50 => (simp only [List.getElem?_toArray, List.getElem?_cons_succ, List.getElem?_cons_zero]; rfl)
          case hq50 => exact fun _ _ _ h => h
          case hw50 => rfl
          case hy50 => (intro wq hSw; (try dsimp only at hSw); go_simp; (try with_reducible rfl))
          (try simp only [Act.put, List.setIfInBounds_toArray, List.set_cons_zero, List.set_cons_succ])
          refine' wpAnyH_take (i := 12) (oi := _) (v := Value.bool true) ?hi51 (by kernel_rfl) (by kernel_rfl) (by kernel_rfl) ?hq51 (Or.inl ⟨?hw51, ?hy51⟩) (by assumption) ?rest51
          case hi51 => (simp only [List.getElem?_toArray, List.getElem?_cons_succ, List.getElem?_cons_zero]; rfl)
          case hq51 => exact fun _ _ _ h => h
          case hw51 => rfl
          case hy51 => (intro wq hSw; (try dsimp only at hSw); (try go_simp); (first | done | (with_reducible rfl) | rfl | exact HZb.out | (rw [HZb.out]; done) | (rw [HZb.out]; rfl) | simp [HZ.out] | simp))
          (try simp only [Act.put, List.setIfInBounds_toArray, List.set_cons_zero, List.set_cons_succ])
          refine' wpAnyH_take (i := 13) (oi := _) (v := Value.bool true) ?hi52 (by kernel_rfl) (by kernel_rfl) (by kernel_rfl) ?hq52 (Or.inl ⟨?hw52, ?hy52⟩) (by assumption) ?rest52
          case hi52 => (simp only [List.getElem?_toArray, List.getElem?_cons_succ, List.getElem?_cons_zero]; rfl)
          case hq52 => exact fun _ _ _ h => h
          case hw52 => rfl
          case hy52 => (intro wq hSw; (try dsimp only at hSw); (try go_simp); (first | done | (with_reducible rfl) | rfl | simp))
          (try simp only [Act.put, List.setIfInBounds_toArray, List.set_cons_zero, List.set_cons_succ])
          refine' wpAnyH_take (i := 14) (oi := _) (v := Value.bool true) ?hi53 (by kernel_rfl) (by kernel_rfl) (by kernel_rfl) ?hq53 (Or.inl ⟨?hw53, ?hy53⟩) (by assumption) ?rest53
          case hi53 => (simp only [List.getElem?_toArray, List.getElem?_cons_succ, List.getElem?_cons_zero]; rfl)
          case hq53 => exact fun _ _ _ h => h
          case hw53 => rfl
          case hy53 => (intro wq hSw; (try dsimp only at hSw); (try go_simp); (first | done | (with_reducible rfl) | rfl | simp))
          (try simp only [Act.put, List.setIfInBounds_toArray, List.set_cons_zero, List.set_cons_succ])
          refine' wpAnyH_take (i := 15) (oi := _) (v := undef) ?hi54 (by kernel_rfl) (by kernel_rfl) (by kernel_rfl) ?hq54 (Or.inr ?hw54) (by assumption) ?rest54
          case hi54 => (simp only [List.getElem?_toArray, List.getElem?_cons_succ, List.getElem?_cons_zero]; rfl)
          case hq54 => exact fun _ _ _ h => h
          case hw54 => exact ⟨rfl, rfl⟩
          (try simp only [Act.put, List.setIfInBounds_toArray, List.set_cons_zero, List.set_cons_succ])
          refine' wpAnyH_take (i := 16) (oi := _) (v := undef) ?hi55 (by kernel_rfl) (by kernel_rfl) (by kernel_rfl) ?hq55 (Or.inr ?hw55) (by assumption) ?rest55
          case hi55 => (simp only [List.getElem?_toArray, List.getElem?_cons_succ, List.getElem?_cons_zero]; rfl)
          case hq55 => exact fun _ _ _ h => h
          case hw55 => exact ⟨rfl, rfl⟩
          (try simp only [Act.put, List.setIfInBounds_toArray, List.set_cons_zero, List.set_cons_succ])
          refine' wpAnyH_take (i := 17) (oi := _) (v := undef) ?hi56 (by kernel_rfl) (by kernel_rfl) (by kernel_rfl) ?hq56 (Or.inr ?hw56) (by assumption) ?rest56
          case hi56 => (simp only [List.getElem?_toArray, List.getElem?_cons_succ, List.getElem?_cons_zero]; rfl)
          case hq56 => exact fun _ _ _ h => h
          case hw56 => exact ⟨rfl, rfl⟩
          (try simp only [Act.put, List.setIfInBounds_toArray, List.set_cons_zero, List.set_cons_succ])
          refine' wpAnyH_take (i := 18) (oi := _) (v := undef) ?hi57 (by kernel_rfl) (by kernel_rfl) (by kernel_rfl) ?hq57 (Or.inr ?hw57) (by assumption) ?rest57
          case hi57 => (simp only [List.getElem?_toArray, List.getElem?_cons_succ, List.getElem?_cons_zero]; rfl)
          case hq57 => exact fun _ _ _ h => h
          case hw57 => exact ⟨rfl, rfl⟩
          (try simp only [Act.put, List.setIfInBounds_toArray, List.set_cons_zero, List.set_cons_succ])
          refine' wpAnyH_take (i := 19) (oi := _) (v := undef) ?hi58 (by kernel_rfl) (by kernel_rfl) (by kernel_rfl) ?hq58 (Or.inr ?hw58) (by assumption) ?rest58
          case hi58 => (simp only [List.getElem?_toArray, List.getElem?_cons_succ, List.getElem?_cons_zero]; rfl)
          case hq58 => exact fun _ _ _ h => h
          case hw58 => exact ⟨rfl, rfl⟩
          (try simp only [Act.put, List.setIfInBounds_toArray, List.set_cons_zero, List.set_cons_succ])
          refine' wpAnyH_take (i := 20) (oi := _) (v := undef) ?hi59 (by kernel_rfl) (by kernel_rfl) (by kernel_rfl) ?hq59 (Or.inr ?hw59) (by assumption) ?rest59
          case hi59 => (simp only [List.getElem?_toArray, List.getElem?_cons_succ, List.getElem?_cons_zero]; rfl)
          case hq59 => exact fun _ _ _ h => h
          case hw59 => exact ⟨rfl, rfl⟩
          (try simp only [Act.put, List.setIfInBounds_toArray, List.set_cons_zero, List.set_cons_succ])
          refine' wpAnyH_take (i := 21) (oi := _) (v := undef) ?hi60 (by kernel_rfl) (by kernel_rfl) (by kernel_rfl) ?hq60 (Or.inr ?hw60) (by assumption) ?rest60
          case hi60 => (simp only [List.getElem?_toArray, List.getElem?_cons_succ, List.getElem?_cons_zero]; rfl)
          case hq60 => exact fun _ _ _ h => h
          case hw60 => exact ⟨rfl, rfl⟩
          (try simp only [Act.put, List.setIfInBounds_toArray, List.set_cons_zero, List.set_cons_succ])
          refine' wpAnyH_take (i := 22) (oi := _) (v := undef) ?hi61 (by kernel_rfl) (by kernel_rfl) (by kernel_rfl) ?hq61 (Or.inr ?hw61) (by assumption) ?rest61
          case hi61 => (simp only [List.getElem?_toArray, List.getElem?_cons_succ, List.getElem?_cons_zero]; rfl)
          case hq61 => exact fun _ _ _ h => h
          case hw61 => exact ⟨rfl, rfl⟩
          (try simp only [Act.put, List.setIfInBounds_toArray, List.set_cons_zero, List.set_cons_succ])
          refine' wpAnyH_take (i := 23) (oi := _) (v := undef) ?hi62 (by kernel_rfl) (by kernel_rfl) (by kernel_rfl) ?hq62 (Or.inr ?hw62) (by assumption) ?rest62
          case hi62 => (simp only [List.getElem?_toArray, List.getElem?_cons_succ, List.getElem?_cons_zero]; rfl)
          case hq62 => exact fun _ _ _ h => h
          case hw62 => exact ⟨rfl, rfl⟩
          (try simp only [Act.put, List.setIfInBounds_toArray, List.set_cons_zero, List.set_cons_succ])
          refine' wpAnyH_take (i := 24) (oi := _) (v := undef) ?hi63 (by kernel_rfl) (by kernel_rfl) (by kernel_rfl) ?hq63 (Or.inr ?hw63) (by assumption) ?rest63
          case hi63 => (simp only [List.getElem?_toArray, List.getElem?_cons_succ, List.getElem?_cons_zero]; rfl)
          case hq63 => exact fun _ _ _ h => h
          case hw63 => exact ⟨rfl, rfl⟩
          (try simp only [Act.put, List.setIfInBounds_toArray, List.set_cons_zero, List.set_cons_succ])
          refine' wpAnyH_take (i := 25) (oi := _) (v := Value.bool true) ?hi64 (by kernel_rfl) (by kernel_rfl) (by kernel_rfl) ?hq64 (Or.inl ⟨?hw64, ?hy64⟩) (by assumption) ?rest64
          case hi64 => (simp only [List.getElem?_toArray, List.getElem?_cons_succ, List.getElem?_cons_zero]; rfl)
          case hq64 => exact fun _ _ _ h => h
          case hw64 => rfl
          case hy64 => (intro wq hSw; (try dsimp only at hSw); (try go_simp); (first | done | (with_reducible rfl) | rfl | simp))
          (try simp only [Act.put, List.setIfInBounds_toArray, List.set_cons_zero, List.set_cons_succ])
          refine' wpAnyH_take (i := 26) (oi := _) (v := Value.bool true) ?hi65 (by kernel_rfl) (by kernel_rfl) (by kernel_rfl) ?hq65 (Or.inl ⟨?hw65, ?hy65⟩) (by assumption) ?rest65
          case hi65 => (simp only [List.getElem?_toArray, List.getElem?_cons_succ, List.getElem?_cons_zero]; rfl)
          case hq65 => exact fun _ _ _ h => h
          case hw65 => rfl
          case hy65 => (intro wq hSw; (try dsimp only at hSw); (try go_simp); (first | done | (with_reducible rfl) | rfl | simp))
          (try simp only [Act.put, List.setIfInBounds_toArray, List.set_cons_zero, List.set_cons_succ])
          refine' wpAnyH_take (i := 27) (oi := _) (v := undef) ?hi66 (by kernel_rfl) (by kernel_rfl) (by kernel_rfl) ?hq66 (Or.inr ?hw66) (by assumption) ?rest66
          case hi66 => (simp only [List.getElem?_toArray, List.getElem?_cons_succ, List.getElem?_cons_zero]; rfl)
          case hq66 => exact fun _ _ _ h => h
          case hw66 => exact ⟨rfl, rfl⟩
          (try simp only [Act.put, List.setIfInBounds_toArray, List.set_cons_zero, List.set_cons_succ])
          refine' wpAnyH_take (i := 28) (oi := _) (v := undef) ?hi67 (by kernel_rfl) (by kernel_rfl) (by kernel_rfl) ?hq67 (Or.inr ?hw67) (by assumption) ?rest67
          case hi67 => (simp only [List.getElem?_toArray, List.getElem?_cons_succ, List.getElem?_cons_zero]; rfl)
          case hq67 => exact fun _ _ _ h => h
          case hw67 => exact ⟨rfl, rfl⟩
          (try simp only [Act.put, List.setIfInBounds_toArray, List.set_cons_zero, List.set_cons_succ])
          refine' wpAnyH_take (i := 29) (oi := _) (v := undef) ?hi68 (by kernel_rfl) (by kernel_rfl) (by kernel_rfl) ?hq68 (Or.inr ?hw68) (by assumption) ?rest68
          case hi68 => (simp only [List.getElem?_toArray, List.getElem?_cons_succ, List.getElem?_cons_zero]; rfl)
          case hq68 => exact fun _ _ _ h => h
          case hw68 => exact ⟨rfl, rfl⟩
          (try simp only [Act.put, List.setIfInBounds_toArray, List.set_cons_zero, List.set_cons_succ])
          refine' wpAnyH_take (i := 30) (oi := _) (v := undef) ?hi69 (by kernel_rfl) (by kernel_rfl) (by kernel_rfl) ?hq69 (Or.inr ?hw69) (by assumption) ?rest69
          case hi69 => (simp only [List.getElem?_toArray, List.getElem?_cons_succ, List.getElem?_cons_zero]; rfl)
          case hq69 => exact fun _ _ _ h => h
          case hw69 => exact ⟨rfl, rfl⟩
          (try simp only [Act.put, List.setIfInBounds_toArray, List.set_cons_zero, List.set_cons_succ])
          refine' wpAnyH_take (i := 31) (oi := _) (v := undef) ?hi70 (by kernel_rfl) (by kernel_rfl) (by kernel_rfl) ?hq70 (Or.inr ?hw70) (by assumption) ?rest70
          case hi70 => (simp only [List.getElem?_toArray, List.getElem?_cons_succ, List.getElem?_cons_zero]; rfl)
          case hq70 => exact fun _ _ _ h => h
          case hw70 => exact ⟨rfl, rfl⟩
          (try simp only [Act.put, List.setIfInBounds_toArray, List.set_cons_zero, List.set_cons_succ])
          refine' wpAnyH_take (i := 32) (oi := _) (v := undef) ?hi71 (by kernel_rfl) (by kernel_rfl) (by kernel_rfl) ?hq71 (Or.inr ?hw71) (by assumption) ?rest71
          case hi71 => (simp only [List.getElem?_toArray, List.getElem?_cons_succ, List.getElem?_cons_zero]; rfl)
          case hq71 => exact fun _ _ _ h => h
          case hw71 => exact ⟨rfl, rfl⟩
          (try simp only [Act.put, List.setIfInBounds_toArray, List.set_cons_zero, List.set_cons_succ])
          refine' wpAnyH_take (i := 33) (oi := _) (v := undef) ?hi72 (by kernel_rfl) (by kernel_rfl) (by kernel_rfl) ?hq72 (Or.inr ?hw72) (by assumption) ?rest72
          case hi72 => (simp only [List.getElem?_toArray, List.getElem?_cons_succ, List.getElem?_cons_zero]; rfl)
          case hq72 => exact fun _ _ _ h => h
          case hw72 => exact ⟨rfl, rfl⟩
          (try simp only [Act.put, List.setIfInBounds_toArray, List.set_cons_zero, List.set_cons_succ])
          refine' wpAnyH_take (i := 34) (oi := _) (v := undef) ?hi73 (by kernel_rfl) (by kernel_rfl) (by kernel_rfl) ?hq73 (Or.inr ?hw73) (by assumption) ?rest73
          case hi73 => (simp only [List.getElem?_toArray, List.getElem?_cons_succ, List.getElem?_cons_zero]; rfl)
          case hq73 => exact fun _ _ _ h => h
          case hw73 => exact ⟨rfl, rfl⟩
          (try simp only [Act.put, List.setIfInBounds_toArray, List.set_cons_zero, List.set_cons_succ])
          refine' wpAnyH_take (i := 35) (oi := _) (v := undef) ?hi74 (by kernel_rfl) (by kernel_rfl) (by kernel_rfl) ?hq74 (Or.inr ?hw74) (by assumption) ?rest74
          case hi74 => (simp only [List.getElem?_toArray, List.getElem?_cons_succ, List.getElem?_cons_zero]; rfl)
          case hq74 => exact fun _ _ _ h => h
          case hw74 => exact ⟨rfl, rfl⟩
          (try simp only [Act.put, List.setIfInBounds_toArray, List.set_cons_zero, List.set_cons_succ])
          refine' wpAnyH_take (i := 36) (oi := _) (v := undef) ?hi75 (by kernel_rfl) (by kernel_rfl) (by kernel_rfl) ?hq75 (Or.inr ?hw75) (by assumption) ?rest75
          case hi75 => (simp only [List.getElem?_toArray, List.getElem?_cons_succ, List.getElem?_cons_zero]; rfl)
          case hq75 => exact fun _ _ _ h => h
          case hw75 => exact ⟨rfl, rfl⟩
          (try simp only [Act.put, List.setIfInBounds_toArray, List.set_cons_zero, List.set_cons_succ])
          refine' wpAnyH_take (i := 37) (oi := _) (v := Value.bool true) ?hi76 (by kernel_rfl) (by kernel_rfl) (by kernel_rfl) ?hq76 (Or.inl ⟨?hw76, ?hy76⟩) (by assumption) ?rest76
          case hi76 => (simp only [List.getElem?_toArray, List.getElem?_cons_succ, List.getElem?_cons_zero]; rfl)
          case hq76 => exact fun _ _ _ h => h
          case hw76 => rfl
          case hy76 => (intro wq hSw; (try dsimp only at hSw); (try go_simp); (first | done | (with_reducible rfl) | rfl | simp))
          (try simp only [Act.put, List.setIfInBounds_toArray, List.set_cons_zero, List.set_cons_succ])
          refine wpAnyH_done (by kernel_rfl) ?_ _
          have Hv : Hid (mgOk ms = false) := Lib.hid (mgOk_no hkl (by rw [← HM.out, HMA.out, HVI.out, HZb.out]; rfl))
          obtain ⟨r0, r1, r2, r3⟩ := HC.out.b0_4
          have f0 := HC.out.f0 0
          have f1 := HC.out.f0 1
          have f2 := HC.out.f0 2
          have f3 := HC.out.f0 3
          have HE := Lib.hid (HC.out.e0_4 (.int .i64 0) (.int .i64 0) (.int .i64 0) (.slice none 0 0))
          clear HC
          go_wp2
          exact bodyPost_ret (v := .tuple #[.agg #[.int .i64 0, .int .i64 0, .int .i64 0, .slice none 0 0], .bool false]) (by simp [results, Try.results15, go_sem, r0, r1, r2, r3]) rfl (MgR.no Hv.out HE.out.1)
        have HZb : Hid (decide (m.Z = 1) = true) := Lib.hid (decide_eq_true hZ)
        have HZ := Lib.hid hZ
        clear hZ
        by_cases hX : m.X = X0
        case neg =>
          have HXb : Hid (decide (m.X = X0) = false) := Lib.hid (decide_eq_false hX)
          have HXx := Lib.hid hX
          clear hX
          go_upto_region 6 with fail
          refine wp_region_held_drew (S := (fun w' => w'.cell? ⟨b, off + k * 4, none⟩ = some (.int .i64 m.X) ∧ w'.cell? ⟨b, off + k * 4 + 1, none⟩ = some (.int .i64 m.Y) ∧ w'.cell? ⟨b, off + k * 4 + 2, none⟩ = some (.int .i64 m.Z) ∧ w'.cell? ⟨b, off + k * 4 + 3, none⟩ = some (.slice Ai m.ds.length ci) ∧ w'.cell? ⟨b, off, none⟩ = some (.int .i64 X0) ∧ w'.cell? ⟨b, off + 1, none⟩ = some (.int .i64 Y0))) (by kernel_rfl) (by exact ⟨(HC.out.below.cell (p := ⟨b, off + k * 4, none⟩) hb).trans x0, (HC.out.below.cell (p := ⟨b, off + k * 4 + 1, none⟩) hb).trans x1, (HC.out.below.cell (p := ⟨b, off + k * 4 + 2, none⟩) hb).trans x2, (HC.out.below.cell (p := ⟨b, off + k * 4 + 3, none⟩) hb).trans x3, (HC.out.below.cell (p := ⟨b, off, none⟩) hb).trans y0, (HC.out.below.cell (p := ⟨b, off + 1, none⟩) hb).trans y1⟩) (fun hHeld => ?_)
          refine' wpAnyH_take (i := 0) (oi := _) (v := _) ?hi77 (by kernel_rfl) (by kernel_rfl) (by kernel_rfl) ?hq77 (Or.inl ⟨?hw77, ?hy77⟩) (by assumption) ?rest77
          case hi77 => (simp only [List.getElem?_toArray, List.getElem?_cons_succ, List.getElem?_cons_zero]; rfl)
          case hq77 => exact fun _ _ _ h => h
          case hw77 => rfl
          case hy77 => (intro wq hSw; (try dsimp only at hSw); go_simp; (try with_reducible rfl))
          (try simp only [Act.put, List.setIfInBounds_toArray, List.set_cons_zero, List.set_cons_succ])
          refine' wpAnyH_take (i := 1) (oi := _) (v := _) ?hi78 (by kernel_rfl) (by kernel_rfl) (by kernel_rfl) ?hq78 (Or.inl ⟨?hw78, ?hy78⟩) (by assumption) ?rest78
          case hi78 => (simp only [List.getElem?_toArray, List.getElem?_cons_succ, List.getElem?_cons_zero]; rfl)
          case hq78 => exact fun _ _ _ h => h
          case hw78 => rfl
          case hy78 => (intro wq hSw; (try dsimp only at hSw); go_simp; (try with_reducible rfl))
          (try simp only [Act.put, List.setIfInBounds_toArray, List.set_cons_zero, List.set_cons_succ])
          refine' wpAnyH_take (i := 2) (oi := _) (v := _) ?hi79 (by kernel_rfl) (by kernel_rfl) (by kernel_rfl) ?hq79 (Or.inl ⟨?hw79, ?hy79⟩) (by assumption) ?rest79
          case hi79 => (simp only [List.getElem?_toArray, List.getElem?_cons_succ, List.getElem?_cons_zero]; rfl)
          case hq79 => exact fun _ _ _ h => h
          case hw79 => rfl
          case hy79 => (intro wq hSw; (try dsimp only at hSw); go_simp; (try with_reducible rfl))
          (try simp only [Act.put, List.setIfInBounds_toArray, List.set_cons_zero, List.set_cons_succ])
          refine' wpAnyH_take (i := 3) (oi := _) (v := _) ?hi80 (by kernel_rfl) (by kernel_rfl) (by kernel_rfl) ?hq80 (Or.inl ⟨?hw80, ?hy80⟩) (by assumption) ?rest80
          case hi80 => (simp only [List.getElem?_toArray, List.getElem?_cons_succ, List.getElem?_cons_zero]; rfl)
          case hq80 => exact fun _ _ _ h => h
          case hw80 => rfl
          case hy80 => (intro wq hSw; (try dsimp only at hSw); go_simp; (try with_reducible rfl))
          (try simp only [Act.put, List.setIfInBounds_toArray, List.set_cons_zero, List.set_cons_succ])
          refine wpAnyH_ready (rs := [4]) (by kernel_rfl) (by simp) ?_
          refine' AllReadyH.cons (o := _) ?hi81 (fun K hK => ?rest81) AllReadyH.nil
          case hi81 => (simp only [List.getElem?_toArray, List.getElem?_cons_succ, List.getElem?_cons_zero]; rfl)
          go_simp
          go_at_call 32
          refine (sVimg_any m.X m.Y m.Z Ai ci m.ds _ (HC.out.arg HRi.out) (HLm.out)).mono ?_
          rintro e u5 ⟨rfl, hB5⟩
          have HD := Lib.hid (HC.out.call hB5)
          clear HC hB5
          have HC := HD
          clear HD
          rw [HVI.out]
          go_wp2_with fail
          refine hK.out _ _ (by (try dsimp only); exact ⟨(HC.out.below.cell (p := ⟨b, off + k * 4, none⟩) hb).trans x0, (HC.out.below.cell (p := ⟨b, off + k * 4 + 1, none⟩) hb).trans x1, (HC.out.below.cell (p := ⟨b, off + k * 4 + 2, none⟩) hb).trans x2, (HC.out.below.cell (p := ⟨b, off + k * 4 + 3, none⟩) hb).trans x3, (HC.out.below.cell (p := ⟨b, off, none⟩) hb).trans y0, (HC.out.below.cell (p := ⟨b, off + 1, none⟩) hb).trans y1⟩) (fun hHeld => ?_)
          clear hK K
          (try simp only [Act.put, List.setIfInBounds_toArray, List.set_cons_zero, List.set_cons_succ])
          refine' wpAnyH_take (i := 5) (oi := _) (v := Value.bool false) ?hi82 (by kernel_rfl) (by kernel_rfl) (by kernel_rfl) ?hq82 (Or.inl ⟨?hw82, ?hy82⟩) (by assumption) ?rest82
          case hi82 => (simp only [List.getElem?_toArray, List.getElem?_cons_succ, List.getElem?_cons_zero]; rfl)
          case hq82 => exact fun _ _ _ h => h
          case hw82 => rfl
          case hy82 => (intro wq hSw; (try dsimp only at hSw); (try go_simp); (first | done | (with_reducible rfl) | rfl | simp))
          (try simp only [Act.put, List.setIfInBounds_toArray, List.set_cons_zero, List.set_cons_succ])
          refine' wpAnyH_take (i := 6) (oi := _) (v := Value.bool false) ?hi83 (by kernel_rfl) (by kernel_rfl) (by kernel_rfl) ?hq83 (Or.inl ⟨?hw83, ?hy83⟩) (by assumption) ?rest83
          case hi83 => (simp only [List.getElem?_toArray, List.getElem?_cons_succ, List.getElem?_cons_zero]; rfl)
          case hq83 => exact fun _ _ _ h => h
          case hw83 => rfl
          case hy83 => (intro wq hSw; (try dsimp only at hSw); (try go_simp); (first | done | (with_reducible rfl) | rfl | simp))
          (try simp only [Act.put, List.setIfInBounds_toArray, List.set_cons_zero, List.set_cons_succ])
          refine' wpAnyH_take (i := 7) (oi := _) (v := _) ?hi84 (by kernel_rfl) (by kernel_rfl) (by kernel_rfl) ?hq84 (Or.inl ⟨?hw84, ?hy84⟩) (by assumption) ?rest84
          case hi84 => (simp only [List.getElem?_toArray, List.getElem?_cons_succ, List.getElem?_cons_zero]; rfl)
          case hq84 => exact fun _ _ _ h => h
          case hw84 => rfl
          case hy84 => (intro wq hSw; (try dsimp only at hSw); go_simp; (try with_reducible rfl))
          (try simp only [Act.put, List.setIfInBounds_toArray, List.set_cons_zero, List.set_cons_succ])
          refine' wpAnyH_take (i := 8) (oi := _) (v := _) ?hi85 (by kernel_rfl) (by kernel_rfl) (by kernel_rfl) ?hq85 (Or.inl ⟨?hw85, ?hy85⟩) (by assumption) ?rest85
          case hi85 => (simp only [List.getElem?_toArray, List.getElem?_cons_succ, List.getElem?_cons_zero]; rfl)
          case hq85 => exact fun _ _ _ h => h
          case hw85 => rfl
          case hy85 => (intro wq hSw; (try dsimp only at hSw); go_simp; (try with_reducible rfl))
          (try simp only [Act.put, List.setIfInBounds_toArray, List.set_cons_zero, List.set_cons_succ])
          refine' wpAnyH_take (i := 9) (oi := _) (v := _) ?hi86 (by kernel_rfl) (by kernel_rfl) (by kernel_rfl) ?hq86 (Or.inl ⟨?hw86, ?hy86⟩) (by assumption) ?rest86
          case hi86 => (simp only [List.getElem?_toArray, List.getElem?_cons_succ, List.getElem?_cons_zero]; rfl)
          case hq86 => exact fun _ _ _ h => h
          case hw86 => rfl
          case hy86 => (intro wq hSw; (try dsimp only at hSw); go_simp; (try with_reducible rfl))
          (try simp only [Act.put, List.setIfInBounds_toArray, List.set_cons_zero, List.set_cons_succ])
          refine' wpAnyH_take (i := 10) (oi := _) (v := _) ?hi87 (by kernel_rfl) (by kernel_rfl) (by kernel_rfl) ?hq87 (Or.inl ⟨?hw87, ?hy87⟩) (by assumption) ?rest87
          case hi87 => (simp only [List.getElem?_toArray, List.getElem?_cons_succ, List.getElem?_cons_zero]; rfl)
          case hq87 => exact fun _ _ _ h => h
          case hw87 => rfl
          case hy87 => (intro wq hSw; (try dsimp only at hSw); go_simp; (try with_reducible rfl))
          (try simp only [Act.put, List.setIfInBounds_toArray, List.set_cons_zero, List.set_cons_succ])
          refine' wpAnyH_take (i := 11) (oi := _) (v := _) ?hi88 (by kernel_rfl) (by kernel_rfl) (by kernel_rfl) ?hq88 (Or.inl ⟨?hw88, ?hy88⟩) (by assumption) ?rest88
          case hi88 => (simp only [List.getElem?_toArray, List.getElem?_cons_succ, List.getElem?_cons_zero]; rfl)
          case hq88 => exact fun _ _ _ h => h
          case hw88 => rfl
          case hy88 => (intro wq hSw; (try dsimp only at hSw); go_simp; (try with_reducible rfl))
          (try simp only [Act.put, List.setIfInBounds_toArray, List.set_cons_zero, List.set_cons_succ])
          refine' wpAnyH_take (i := 12) (oi := _) (v := Value.bool false) ?hi89 (by kernel_rfl) (by kernel_rfl) (by kernel_rfl) ?hq89 (Or.inl ⟨?hw89, ?hy89⟩) (by assumption) ?rest89
          case hi89 => (simp only [List.getElem?_toArray, List.getElem?_cons_succ, List.getElem?_cons_zero]; rfl)
          case hq89 => exact fun _ _ _ h => h
          case hw89 => rfl
          case hy89 => (intro wq hSw; (try dsimp only at hSw); (try go_simp); (first | done | (with_reducible rfl) | rfl | exact HZb.out | (rw [HZb.out]; done) | (rw [HZb.out]; rfl) | simp [HZ.out] | simp))
          (try simp only [Act.put, List.setIfInBounds_toArray, List.set_cons_zero, List.set_cons_succ])
          refine' wpAnyH_take (i := 13) (oi := _) (v := Value.bool false) ?hi90 (by kernel_rfl) (by kernel_rfl) (by kernel_rfl) ?hq90 (Or.inl ⟨?hw90, ?hy90⟩) (by assumption) ?rest90
          case hi90 => (simp only [List.getElem?_toArray, List.getElem?_cons_succ, List.getElem?_cons_zero]; rfl)
          case hq90 => exact fun _ _ _ h => h
          case hw90 => rfl
          case hy90 => (intro wq hSw; (try dsimp only at hSw); (try go_simp); (first | done | (with_reducible rfl) | rfl | simp))
          (try simp only [Act.put, List.setIfInBounds_toArray, List.set_cons_zero, List.set_cons_succ])
          refine' wpAnyH_take (i := 14) (oi := _) (v := Value.bool false) ?hi91 (by kernel_rfl) (by kernel_rfl) (by kernel_rfl) ?hq91 (Or.inl ⟨?hw91, ?hy91⟩) (by assumption) ?rest91
          case hi91 => (simp only [List.getElem?_toArray, List.getElem?_cons_succ, List.getElem?_cons_zero]; rfl)
          case hq91 => exact fun _ _ _ h => h
          case hw91 => rfl
          case hy91 => (intro wq hSw; (try dsimp only at hSw); (try go_simp); (first | done | (with_reducible rfl) | rfl | simp))
          (try simp only [Act.put, List.setIfInBounds_toArray, List.set_cons_zero, List.set_cons_succ])
          refine' wpAnyH_take (i := 15) (oi := _) (v := _) ?hi92 (by kernel_rfl) (by kernel_rfl) (by kernel_rfl) ?hq92 (Or.inl ⟨?hw92, ?hy92⟩) (by assumption) ?rest92
          case hi92 => (simp only [List.getElem?_toArray, List.getElem?_cons_succ, List.getElem?_cons_zero]; rfl)
          case hq92 => exact fun _ _ _ h => h
          case hw92 => rfl
          case hy92 => (intro wq hSw; (try dsimp only at hSw); go_simp; (try with_reducible rfl))
          (try simp only [Act.put, List.setIfInBounds_toArray, List.set_cons_zero, List.set_cons_succ])
          refine' wpAnyH_take (i := 16) (oi := _) (v := _) ?hi93 (by kernel_rfl) (by kernel_rfl) (by kernel_rfl) ?hq93 (Or.inl ⟨?hw93, ?hy93⟩) (by assumption) ?rest93
          case hi93 => (simp only [List.getElem?_toArray, List.getElem?_cons_succ, List.getElem?_cons_zero]; rfl)
          case hq93 => exact fun _ _ _ h => h
          case hw93 => rfl
          case hy93 => (intro wq hSw; (try dsimp only at hSw); go_simp; (try with_reducible rfl))
          (try simp only [Act.put, List.setIfInBounds_toArray, List.set_cons_zero, List.set_cons_succ])
          refine' wpAnyH_take (i := 17) (oi := _) (v := _) ?hi94 (by kernel_rfl) (by kernel_rfl) (by kernel_rfl) ?hq94 (Or.inl ⟨?hw94, ?hy94⟩) (by assumption) ?rest94
          case hi94 => (simp only [List.getElem?_toArray, List.getElem?_cons_succ, List.getElem?_cons_zero]; rfl)
          case hq94 => exact fun _ _ _ h => h
          case hw94 => rfl
          case hy94 => (intro wq hSw; (try dsimp only at hSw); go_simp; (try with_reducible rfl))
          (try simp only [Act.put, List.setIfInBounds_toArray, List.set_cons_zero, List.set_cons_succ])
          refine' wpAnyH_take (i := 18) (oi := _) (v := _) ?hi95 (by kernel_rfl) (by kernel_rfl) (by kernel_rfl) ?hq95 (Or.inl ⟨?hw95, ?hy95⟩) (by assumption) ?rest95
          case hi95 => (simp only [List.getElem?_toArray, List.getElem?_cons_succ, List.getElem?_cons_zero]; rfl)
          case hq95 => exact fun _ _ _ h => h
          case hw95 => rfl
          case hy95 => (intro wq hSw; (try dsimp only at hSw); go_simp; (try with_reducible rfl))
          (try simp only [Act.put, List.setIfInBounds_toArray, List.set_cons_zero, List.set_cons_succ])
          refine' wpAnyH_take (i := 19) (oi := _) (v := _) ?hi96 (by kernel_rfl) (by kernel_rfl) (by kernel_rfl) ?hq96 (Or.inl ⟨?hw96, ?hy96⟩) (by assumption) ?rest96
          case hi96 => (simp only [List.getElem?_toArray, List.getElem?_cons_succ, List.getElem?_cons_zero]; rfl)
          case hq96 => exact fun _ _ _ h => h
          case hw96 => rfl
          case hy96 => (intro wq hSw; (try dsimp only at hSw); go_simp; (try with_reducible rfl))
          (try simp only [Act.put, List.setIfInBounds_toArray, List.set_cons_zero, List.set_cons_succ])
          refine' wpAnyH_take (i := 20) (oi := _) (v := _) ?hi97 (by kernel_rfl) (by kernel_rfl) (by kernel_rfl) ?hq97 (Or.inl ⟨?hw97, ?hy97⟩) (by assumption) ?rest97
          case hi97 => (simp only [List.getElem?_toArray, List.getElem?_cons_succ, List.getElem?_cons_zero]; rfl)
          case hq97 => exact fun _ _ _ h => h
          case hw97 => rfl
          case hy97 => (intro wq hSw; (try dsimp only at hSw); go_simp; (try with_reducible rfl))
          (try simp only [Act.put, List.setIfInBounds_toArray, List.set_cons_zero, List.set_cons_succ])
          refine' wpAnyH_take (i := 21) (oi := _) (v := _) ?hi98 (by kernel_rfl) (by kernel_rfl) (by kernel_rfl) ?hq98 (Or.inl ⟨?hw98, ?hy98⟩) (by assumption) ?rest98
          case hi98 => (simp only [List.getElem?_toArray, List.getElem?_cons_succ, List.getElem?_cons_zero]; rfl)
          case hq98 => exact fun _ _ _ h => h
          case hw98 => rfl
          case hy98 => (intro wq hSw; (try dsimp only at hSw); go_simp; (try with_reducible rfl))
          (try simp only [Act.put, List.setIfInBounds_toArray, List.set_cons_zero, List.set_cons_succ])
          refine' wpAnyH_take (i := 22) (oi := _) (v := _) ?hi99 (by kernel_rfl) (by kernel_rfl) (by kernel_rfl) ?hq99 (Or.inl ⟨?hw99, ?hy99⟩) (by assumption) ?rest99
          case hi99 => (simp only [List.getElem?_toArray, List.getElem?_cons_succ, List.getElem?_cons_zero]; rfl)
          case hq99 => exact fun _ _ _ h => h
          case hw99 => rfl
          case hy99 => (intro wq hSw; (try dsimp only at hSw); go_simp; (try with_reducible rfl))
          (try simp only [Act.put, List.setIfInBounds_toArray, List.set_cons_zero, List.set_cons_succ])
          refine' wpAnyH_take (i := 23) (oi := _) (v := _) ?hi100 (by kernel_rfl) (by kernel_rfl) (by kernel_rfl) ?hq100 (Or.inl ⟨?hw100, ?hy100⟩) (by assumption) ?rest100
          case hi100 => (simp only [List.getElem?_toArray, List.getElem?_cons_succ, List.getElem?_cons_zero]; rfl)
          case hq100 => exact fun _ _ _ h => h
          case hw100 => rfl
          case hy100 => (intro wq hSw; (try dsimp only at hSw); go_simp; (try with_reducible rfl))
          (try simp only [Act.put, List.setIfInBounds_toArray, List.set_cons_zero, List.set_cons_succ])
          refine' wpAnyH_take (i := 24) (oi := _) (v := Value.bool true) ?hi101 (by kernel_rfl) (by kernel_rfl) (by kernel_rfl) ?hq101 (Or.inl ⟨?hw101, ?hy101⟩) (by assumption) ?rest101
          case hi101 => (simp only [List.getElem?_toArray, List.getElem?_cons_succ, List.getElem?_cons_zero]; rfl)
          case hq101 => exact fun _ _ _ h => h
          case hw101 => rfl
          case hy101 => (intro wq hSw; (try dsimp only at hSw); (try go_simp); (first | done | (with_reducible rfl) | rfl | exact HXb.out | (rw [HXb.out]; done) | (rw [HXb.out]; rfl) | simp [HXx.out] | simp))
          (try simp only [Act.put, List.setIfInBounds_toArray, List.set_cons_zero, List.set_cons_succ])
          refine' wpAnyH_take (i := 25) (oi := _) (v := Value.bool true) ?hi102 (by kernel_rfl) (by kernel_rfl) (by kernel_rfl) ?hq102 (Or.inl ⟨?hw102, ?hy102⟩) (by assumption) ?rest102
          case hi102 => (simp only [List.getElem?_toArray, List.getElem?_cons_succ, List.getElem?_cons_zero]; rfl)
          case hq102 => exact fun _ _ _ h => h
          case hw102 => rfl
          case hy102 => (intro wq hSw; (try dsimp only at hSw); (try go_simp); (first | done | (with_reducible rfl) | rfl | simp))
          (try simp only [Act.put, List.setIfInBounds_toArray, List.set_cons_zero, List.set_cons_succ])
          refine' wpAnyH_take (i := 26) (oi := _) (v := Value.bool true) ?hi103 (by kernel_rfl) (by kernel_rfl) (by kernel_rfl) ?hq103 (Or.inl ⟨?hw103, ?hy103⟩) (by assumption) ?rest103
          case hi103 => (simp only [List.getElem?_toArray, List.getElem?_cons_succ, List.getElem?_cons_zero]; rfl)
          case hq103 => exact fun _ _ _ h => h
          case hw103 => rfl
          case hy103 => (intro wq hSw; (try dsimp only at hSw); (try go_simp); (first | done | (with_reducible rfl) | rfl | simp))
          (try simp only [Act.put, List.setIfInBounds_toArray, List.set_cons_zero, List.set_cons_succ])
          refine' wpAnyH_take (i := 27) (oi := _) (v := undef) ?hi104 (by kernel_rfl) (by kernel_rfl) (by kernel_rfl) ?hq104 (Or.inr ?hw104) (by assumption) ?rest104
          case hi104 => (simp only [List.getElem?_toArray, List.getElem?_cons_succ, List.getElem?_cons_zero]; rfl)
          case hq104 => exact fun _ _ _ h => h
          case hw104 => exact ⟨rfl, rfl⟩
          (try simp only [Act.put, List.setIfInBounds_toArray, List.set_cons_zero, List.set_cons_succ])
          refine' wpAnyH_take (i := 28) (oi := _) (v := undef) ?hi105 (by kernel_rfl) (by kernel_rfl) (by kernel_rfl) ?hq105 (Or.inr ?hw105) (by assumption) ?rest105
          case hi105 => (simp only [List.getElem?_toArray, List.getElem?_cons_succ, List.getElem?_cons_zero]; rfl)
          case hq105 => exact fun _ _ _ h => h
          case hw105 => exact ⟨rfl, rfl⟩
          (try simp only [Act.put, List.setIfInBounds_toArray, List.set_cons_zero, List.set_cons_succ])
          refine' wpAnyH_take (i := 29) (oi := _) (v := undef) ?hi106 (by kernel_rfl) (by kernel_rfl) (by kernel_rfl) ?hq106 (Or.inr ?hw106) (by assumption) ?rest106
          case hi106 => (simp only [List.getElem?_toArray, List.getElem?_cons_succ, List.getElem?_cons_zero]; rfl)
          case hq106 => exact fun _ _ _ h => h
          case hw106 => exact ⟨rfl, rfl⟩
          (try simp only [Act.put, List.setIfInBounds_toArray, List.set_cons_zero, List.set_cons_succ])
          refine' wpAnyH_take (i := 30) (oi := _) (v := undef) ?hi107 (by kernel_rfl) (by kernel_rfl) (by kernel_rfl) ?hq107 (Or.inr ?hw107) (by assumption) ?rest107
          case hi107 => (simp only [List.getElem?_toArray, List.getElem?_cons_succ, List.getElem?_cons_zero]; rfl)
          case hq107 => exact fun _ _ _ h => h
          case hw107 => exact ⟨rfl, rfl⟩
          (try simp only [Act.put, List.setIfInBounds_toArray, List.set_cons_zero, List.set_cons_succ])
          refine' wpAnyH_take (i := 31) (oi := _) (v := undef) ?hi108 (by kernel_rfl) (by kernel_rfl) (by kernel_rfl) ?hq108 (Or.inr ?hw108) (by assumption) ?rest108
          case hi108 => (simp only [List.getElem?_toArray, List.getElem?_cons_succ, List.getElem?_cons_zero]; rfl)
          case hq108 => exact fun _ _ _ h => h
          case hw108 => exact ⟨rfl, rfl⟩
          (try simp only [Act.put, List.setIfInBounds_toArray, List.set_cons_zero, List.set_cons_succ])
          refine' wpAnyH_take (i := 32) (oi := _) (v := undef) ?hi109 (by kernel_rfl) (by kernel_rfl) (by kernel_rfl) ?hq109 (Or.inr ?hw109) (by assumption) ?rest109
          case hi109 => (simp only [List.getElem?_toArray, List.getElem?_cons_succ, List.getElem?_cons_zero]; rfl)
          case hq109 => exact fun _ _ _ h => h
          case hw109 => exact ⟨rfl, rfl⟩
          (try simp only [Act.put, List.setIfInBounds_toArray, List.set_cons_zero, List.set_cons_succ])
          refine' wpAnyH_take (i := 33) (oi := _) (v := undef) ?hi110 (by kernel_rfl) (by kernel_rfl) (by kernel_rfl) ?hq110 (Or.inr ?hw110) (by assumption) ?rest110
          case hi110 => (simp only [List.getElem?_toArray, List.getElem?_cons_succ, List.getElem?_cons_zero]; rfl)
          case hq110 => exact fun _ _ _ h => h
          case hw110 => exact ⟨rfl, rfl⟩
          (try simp only [Act.put, List.setIfInBounds_toArray, List.set_cons_zero, List.set_cons_succ])
          refine' wpAnyH_take (i := 34) (oi := _) (v := undef) ?hi111 (by kernel_rfl) (by kernel_rfl) (by kernel_rfl) ?hq111 (Or.inr ?hw111) (by assumption) ?rest111
          case hi111 => (simp only [List.getElem?_toArray, List.getElem?_cons_succ, List.getElem?_cons_zero]; rfl)
          case hq111 => exact fun _ _ _ h => h
          case hw111 => exact ⟨rfl, rfl⟩
          (try simp only [Act.put, List.setIfInBounds_toArray, List.set_cons_zero, List.set_cons_succ])
          refine' wpAnyH_take (i := 35) (oi := _) (v := undef) ?hi112 (by kernel_rfl) (by kernel_rfl) (by kernel_rfl) ?hq112 (Or.inr ?hw112) (by assumption) ?rest112
          case hi112 => (simp only [List.getElem?_toArray, List.getElem?_cons_succ, List.getElem?_cons_zero]; rfl)
          case hq112 => exact fun _ _ _ h => h
          case hw112 => exact ⟨rfl, rfl⟩
          (try simp only [Act.put, List.setIfInBounds_toArray, List.set_cons_zero, List.set_cons_succ])
          refine' wpAnyH_take (i := 36) (oi := _) (v := undef) ?hi113 (by kernel_rfl) (by kernel_rfl) (by kernel_rfl) ?hq113 (Or.inr ?hw113) (by assumption) ?rest113
          case hi113 => (simp only [List.getElem?_toArray, List.getElem?_cons_succ, List.getElem?_cons_zero]; rfl)
          case hq113 => exact fun _ _ _ h => h
          case hw113 => exact ⟨rfl, rfl⟩
          (try simp only [Act.put, List.setIfInBounds_toArray, List.set_cons_zero, List.set_cons_succ])
          refine' wpAnyH_take (i := 37) (oi := _) (v := Value.bool true) ?hi114 (by kernel_rfl) (by kernel_rfl) (by kernel_rfl) ?hq114 (Or.inl ⟨?hw114, ?hy114⟩) (by assumption) ?rest114
          case hi114 => (simp only [List.getElem?_toArray, List.getElem?_cons_succ, List.getElem?_cons_zero]; rfl)
          case hq114 => exact fun _ _ _ h => h
          case hw114 => rfl
          case hy114 => (intro wq hSw; (try dsimp only at hSw); (try go_simp); (first | done | (with_reducible rfl) | rfl | simp))
          (try simp only [Act.put, List.setIfInBounds_toArray, List.set_cons_zero, List.set_cons_succ])
          refine wpAnyH_done (by kernel_rfl) ?_ _
          have Hv : Hid (mgOk ms = false) := Lib.hid (mgOk_no hkl (by rw [← HM.out, HMA.out, HVI.out, HZb.out, HXb.out]; rfl))
          obtain ⟨r0, r1, r2, r3⟩ := HC.out.b0_4
          have f0 := HC.out.f0 0
          have f1 := HC.out.f0 1
          have f2 := HC.out.f0 2
          have f3 := HC.out.f0 3
          have HE := Lib.hid (HC.out.e0_4 (.int .i64 0) (.int .i64 0) (.int .i64 0) (.slice none 0 0))
          clear HC
          go_wp2
          exact bodyPost_ret (v := .tuple #[.agg #[.int .i64 0, .int .i64 0, .int .i64 0, .slice none 0 0], .bool false]) (by simp [results, Try.results15, go_sem, r0, r1, r2, r3]) rfl (MgR.no Hv.out HE.out.1)
        have HXb : Hid (decide (m.X = X0) = true) := Lib.hid (decide_eq_true hX)
        have HXx := Lib.hid hX
        clear hX
        by_cases hY : m.Y = Y0
        case neg =>
          have HYb : Hid (decide (m.Y = Y0) = false) := Lib.hid (decide_eq_false hY)
          have HY := Lib.hid hY
          clear hY
          go_upto_region 6 with fail
          refine wp_region_held_drew (S := (fun w' => w'.cell? ⟨b, off + k * 4, none⟩ = some (.int .i64 m.X) ∧ w'.cell? ⟨b, off + k * 4 + 1, none⟩ = some (.int .i64 m.Y) ∧ w'.cell? ⟨b, off + k * 4 + 2, none⟩ = some (.int .i64 m.Z) ∧ w'.cell? ⟨b, off + k * 4 + 3, none⟩ = some (.slice Ai m.ds.length ci) ∧ w'.cell? ⟨b, off, none⟩ = some (.int .i64 X0) ∧ w'.cell? ⟨b, off + 1, none⟩ = some (.int .i64 Y0))) (by kernel_rfl) (by exact ⟨(HC.out.below.cell (p := ⟨b, off + k * 4, none⟩) hb).trans x0, (HC.out.below.cell (p := ⟨b, off + k * 4 + 1, none⟩) hb).trans x1, (HC.out.below.cell (p := ⟨b, off + k * 4 + 2, none⟩) hb).trans x2, (HC.out.below.cell (p := ⟨b, off + k * 4 + 3, none⟩) hb).trans x3, (HC.out.below.cell (p := ⟨b, off, none⟩) hb).trans y0, (HC.out.below.cell (p := ⟨b, off + 1, none⟩) hb).trans y1⟩) (fun hHeld => ?_)
          refine' wpAnyH_take (i := 0) (oi := _) (v := _) ?hi115 (by kernel_rfl) (by kernel_rfl) (by kernel_rfl) ?hq115 (Or.inl ⟨?hw115, ?hy115⟩) (by assumption) ?rest115
          case hi115 => (simp only [List.getElem?_toArray, List.getElem?_cons_succ, List.getElem?_cons_zero]; rfl)
          case hq115 => exact fun _ _ _ h => h
          case hw115 => rfl
          case hy115 => (intro wq hSw; (try dsimp only at hSw); go_simp; (try with_reducible rfl))
          (try simp only [Act.put, List.setIfInBounds_toArray, List.set_cons_zero, List.set_cons_succ])
          refine' wpAnyH_take (i := 1) (oi := _) (v := _) ?hi116 (by kernel_rfl) (by kernel_rfl) (by kernel_rfl) ?hq116 (Or.inl ⟨?hw116, ?hy116⟩) (by assumption) ?rest116
          case hi116 => (simp only [List.getElem?_toArray, List.getElem?_cons_succ, List.getElem?_cons_zero]; rfl)
          case hq116 => exact fun _ _ _ h => h
          case hw116 => rfl
          case hy116 => (intro wq hSw; (try dsimp only at hSw); go_simp; (try with_reducible rfl))
          (try simp only [Act.put, List.setIfInBounds_toArray, List.set_cons_zero, List.set_cons_succ])
          refine' wpAnyH_take (i := 2) (oi := _) (v := _) ?hi117 (by kernel_rfl) (by kernel_rfl) (by kernel_rfl) ?hq117 (Or.inl ⟨?hw117, ?hy117⟩) (by assumption) ?rest117
          case hi117 => (simp only [List.getElem?_toArray, List.getElem?_cons_succ, List.getElem?_cons_zero]; rfl)
          case hq117 => exact fun _ _ _ h => h
          case hw117 => rfl
          case hy117 => (intro wq hSw; (try dsimp only at hSw); go_simp; (try with_reducible rfl))
          (try simp only [Act.put, List.setIfInBounds_toArray, List.set_cons_zero, List.set_cons_succ])
          refine' wpAnyH_take (i := 3) (oi := _) (v := _) ?hi118 (by kernel_rfl) (by kernel_rfl) (by kernel_rfl) ?hq118 (Or.inl ⟨?hw118, ?hy118⟩) (by assumption) ?rest118
          case hi118 => (simp only [List.getElem?_toArray, List.getElem?_cons_succ, List.getElem?_cons_zero]; rfl)
          case hq118 => exact fun _ _ _ h => h
          case hw118 => rfl
          case hy118 => (intro wq hSw; (try dsimp only at hSw); go_simp; (try with_reducible rfl))
          (try simp only [Act.put, List.setIfInBounds_toArray, List.set_cons_zero, List.set_cons_succ])
          refine wpAnyH_ready (rs := [4]) (by kernel_rfl) (by simp) ?_
          refine' AllReadyH.cons (o := _) ?hi119 (fun K hK => ?rest119) AllReadyH.nil
          case hi119 => (simp only [List.getElem?_toArray, List.getElem?_cons_succ, List.getElem?_cons_zero]; rfl)
          go_simp
          go_at_call 32
          refine (sVimg_any m.X m.Y m.Z Ai ci m.ds _ (HC.out.arg HRi.out) (HLm.out)).mono ?_
          rintro e u5 ⟨rfl, hB5⟩
          have HD := Lib.hid (HC.out.call hB5)
          clear HC hB5
          have HC := HD
          clear HD
          rw [HVI.out]
          go_wp2_with fail
          refine hK.out _ _ (by (try dsimp only); exact ⟨(HC.out.below.cell (p := ⟨b, off + k * 4, none⟩) hb).trans x0, (HC.out.below.cell (p := ⟨b, off + k * 4 + 1, none⟩) hb).trans x1, (HC.out.below.cell (p := ⟨b, off + k * 4 + 2, none⟩) hb).trans x2, (HC.out.below.cell (p := ⟨b, off + k * 4 + 3, none⟩) hb).trans x3, (HC.out.below.cell (p := ⟨b, off, none⟩) hb).trans y0, (HC.out.below.cell (p := ⟨b, off + 1, none⟩) hb).trans y1⟩) (fun hHeld => ?_)
          clear hK K
          (try simp only [Act.put, List.setIfInBounds_toArray, List.set_cons_zero, List.set_cons_succ])
          refine' wpAnyH_take (i := 5) (oi := _) (v := Value.bool false) ?hi120 (by kernel_rfl) (by kernel_rfl) (by kernel_rfl) ?hq120 (Or.inl ⟨?hw120, ?hy120⟩) (by assumption) ?rest120
          case hi120 => (simp only [List.getElem?_toArray, List.getElem?_cons_succ, List.getElem?_cons_zero]; rfl)
          case hq120 => exact fun _ _ _ h => h
          case hw120 => rfl
          case hy120 => (intro wq hSw; (try dsimp only at hSw); (try go_simp); (first | done | (with_reducible rfl) | rfl | simp))
          (try simp only [Act.put, List.setIfInBounds_toArray, List.set_cons_zero, List.set_cons_succ])
          refine' wpAnyH_take (i := 6) (oi := _) (v := Value.bool false) ?hi121 (by kernel_rfl) (by kernel_rfl) (by kernel_rfl) ?hq121 (Or.inl ⟨?hw121, ?hy121⟩) (by assumption) ?rest121
          case hi121 => (simp only [List.getElem?_toArray, List.getElem?_cons_succ, List.getElem?_cons_zero]; rfl)
          case hq121 => exact fun _ _ _ h => h
          case hw121 => rfl
          case hy121 => (intro wq hSw; (try dsimp only at hSw); (try go_simp); (first | done | (with_reducible rfl) | rfl | simp))
          (try simp only [Act.put, List.setIfInBounds_toArray, List.set_cons_zero, List.set_cons_succ])
          refine' wpAnyH_take (i := 7) (oi := _) (v := _) ?hi122 (by kernel_rfl) (by kernel_rfl) (by kernel_rfl) ?hq122 (Or.inl ⟨?hw122, ?hy122⟩) (by assumption) ?rest122
          case hi122 => (simp only [List.getElem?_toArray, List.getElem?_cons_succ, List.getElem?_cons_zero]; rfl)
          case hq122 => exact fun _ _ _ h => h
          case hw122 => rfl
          case hy122 => (intro wq hSw; (try dsimp only at hSw); go_simp; (try with_reducible rfl))
          (try simp only [Act.put, List.setIfInBounds_toArray, List.set_cons_zero, List.set_cons_succ])
          refine' wpAnyH_take (i := 8) (oi := _) (v := _) ?hi123 (by kernel_rfl) (by kernel_rfl) (by kernel_rfl) ?hq123 (Or.inl ⟨?hw123, ?hy123⟩) (by assumption) ?rest123
          case hi123 => (simp only [List.getElem?_toArray, List.getElem?_cons_succ, List.getElem?_cons_zero]; rfl)
          case hq123 => exact fun _ _ _ h => h
          case hw123 => rfl
          case hy123 => (intro wq hSw; (try dsimp only at hSw); go_simp; (try with_reducible rfl))
          (try simp only [Act.put, List.setIfInBounds_toArray, List.set_cons_zero, List.set_cons_succ])
          refine' wpAnyH_take (i := 9) (oi := _) (v := _) ?hi124 (by kernel_rfl) (by kernel_rfl) (by kernel_rfl) ?hq124 (Or.inl ⟨?hw124, ?hy124⟩) (by assumption) ?rest124
          case hi124 => (simp only [List.getElem?_toArray, List.getElem?_cons_succ, List.getElem?_cons_zero]; rfl)
          case hq124 => exact fun _ _ _ h => h
          case hw124 => rfl
          case hy124 => (intro wq hSw; (try dsimp only at hSw); go_simp; (try with_reducible rfl))
          (try simp only [Act.put, List.setIfInBounds_toArray, List.set_cons_zero, List.set_cons_succ])
          refine' wpAnyH_take (i := 10) (oi := _) (v := _) ?hi125 (by kernel_rfl) (by kernel_rfl) (by kernel_rfl) ?hq125 (Or.inl ⟨?hw125, ?hy125⟩) (by assumption) ?rest125
          case hi125 => (simp only [List.getElem?_toArray, List.getElem?_cons_succ, List.getElem?_cons_zero]; rfl)
          case hq125 => exact fun _ _ _ h => h
          case hw125 => rfl
          case hy125 => (intro wq hSw; (try dsimp only at hSw); go_simp; (try with_reducible rfl))
          (try simp only [Act.put, List.setIfInBounds_toArray, List.set_cons_zero, List.set_cons_succ])
          refine' wpAnyH_take (i := 11) (oi := _) (v := _) ?hi126 (by kernel_rfl) (by kernel_rfl) (by kernel_rfl) ?hq126 (Or.inl ⟨?hw126, ?hy126⟩) (by assumption) ?rest126
          case hi126 => (simp only [List.getElem?_toArray, List.getElem?_cons_succ, List.getElem?_cons_zero]; rfl)
          case hq126 => exact fun _ _ _ h => h
          case hw126 => rfl
          case hy126 => (intro wq hSw; (try dsimp only at hSw); go_simp; (try with_reducible rfl))
          (try simp only [Act.put, List.setIfInBounds_toArray, List.set_cons_zero, List.set_cons_succ])
          refine' wpAnyH_take (i := 12) (oi := _) (v := Value.bool false) ?hi127 (by kernel_rfl) (by kernel_rfl) (by kernel_rfl) ?hq127 (Or.inl ⟨?hw127, ?hy127⟩) (by assumption) ?rest127
          case hi127 => (simp only [List.getElem?_toArray, List.getElem?_cons_succ, List.getElem?_cons_zero]; rfl)
          case hq127 => exact fun _ _ _ h => h
          case hw127 => rfl
          case hy127 => (intro wq hSw; (try dsimp only at hSw); (try go_simp); (first | done | (with_reducible rfl) | rfl | exact HZb.out | (rw [HZb.out]; done) | (rw [HZb.out]; rfl) | simp [HZ.out] | simp))
          (try simp only [Act.put, List.setIfInBounds_toArray, List.set_cons_zero, List.set_cons_succ])
          refine' wpAnyH_take (i := 13) (oi := _) (v := Value.bool false) ?hi128 (by kernel_rfl) (by kernel_rfl) (by kernel_rfl) ?hq128 (Or.inl ⟨?hw128, ?hy128⟩) (by assumption) ?rest128
          case hi128 => (simp only [List.getElem?_toArray, List.getElem?_cons_succ, List.getElem?_cons_zero]; rfl)
          case hq128 => exact fun _ _ _ h => h
          case hw128 => rfl
          case hy128 => (intro wq hSw; (try dsimp only at hSw); (try go_simp); (first | done | (with_reducible rfl) | rfl | simp))
          (try simp only [Act.put, List.setIfInBounds_toArray, List.set_cons_zero, List.set_cons_succ])
          refine' wpAnyH_take (i := 14) (oi := _) (v := Value.bool false) ?hi129 (by kernel_rfl) (by kernel_rfl) (by kernel_rfl) ?hq129 (Or.inl ⟨?hw129, ?hy129⟩) (by assumption) ?rest129
          case hi129 => (simp only [List.getElem?_toArray, List.getElem?_cons_succ, List.getElem?_cons_zero]; rfl)
          case hq129 => exact fun _ _ _ h => h
          case hw129 => rfl
          case hy129 => (intro wq hSw; (try dsimp only at hSw); (try go_simp); (first | done | (with_reducible rfl) | rfl | simp))
          (try simp only [Act.put, List.setIfInBounds_toArray, List.set_cons_zero, List.set_cons_succ])
          refine' wpAnyH_take (i := 15) (oi := _) (v := _) ?hi130 (by kernel_rfl) (by kernel_rfl) (by kernel_rfl) ?hq130 (Or.inl ⟨?hw130, ?hy130⟩) (by assumption) ?rest130
          case hi130 => (simp only [List.getElem?_toArray, List.getElem?_cons_succ, List.getElem?_cons_zero]; rfl)
          case hq130 => exact fun _ _ _ h => h
          case hw130 => rfl
          case hy130 => (intro wq hSw; (try dsimp only at hSw); go_simp; (try with_reducible rfl))
          (try simp only [Act.put, List.setIfInBounds_toArray, List.set_cons_zero, List.set_cons_succ])
          refine' wpAnyH_take (i := 16) (oi := _) (v := _) ?hi131 (by kernel_rfl) (by kernel_rfl) (by kernel_rfl) ?hq131 (Or.inl ⟨?hw131, ?hy131⟩) (by assumption) ?rest131
          case hi131 => (simp only [List.getElem?_toArray, List.getElem?_cons_succ, List.getElem?_cons_zero]; rfl)
          case hq131 => exact fun _ _ _ h => h
          case hw131 => rfl
          case hy131 => (intro wq hSw; (try dsimp only at hSw); go_simp; (try with_reducible rfl))
          (try simp only [Act.put, List.setIfInBounds_toArray, List.set_cons_zero, List.set_cons_succ])
          refine' wpAnyH_take (i := 17) (oi := _) (v := _) ?hi132 (by kernel_rfl) (by kernel_rfl) (by kernel_rfl) ?hq132 (Or.inl ⟨?hw132, ?hy132⟩) (by assumption) ?rest132
          case hi132 => (simp only [List.getElem?_toArray, List.getElem?_cons_succ, List.getElem?_cons_zero]; rfl)
          case hq132 => exact fun _ _ _ h => h
          case hw132 => rfl
          case hy132 => (intro wq hSw; (try dsimp only at hSw); go_simp; (try with_reducible rfl))
          (try simp only [Act.put, List.setIfInBounds_toArray, List.set_cons_zero, List.set_cons_succ])
          refine' wpAnyH_take (i := 18) (oi := _) (v := _) ?hi133 (by kernel_rfl) (by kernel_rfl) (by kernel_rfl) ?hq133 (Or.inl ⟨?hw133, ?hy133⟩) (by assumption) ?rest133
          case hi133 => (simp only [List.getElem?_toArray, List.getElem?_cons_succ, List.getElem?_cons_zero]; rfl)
          case hq133 => exact fun _ _ _ h => h
          case hw133 => rfl
          case hy133 => (intro wq hSw; (try dsimp only at hSw); go_simp; (try with_reducible rfl))
          (try simp only [Act.put, List.setIfInBounds_toArray, List.set_cons_zero, List.set_cons_succ])
          refine' wpAnyH_take (i := 19) (oi := _) (v := _) ?hi134 (by kernel_rfl) (by kernel_rfl) (by kernel_rfl) ?hq134 (Or.inl ⟨?hw134, ?hy134⟩) (by assumption) ?rest134
          case hi134 => (simp only [List.getElem?_toArray, List.getElem?_cons_succ, List.getElem?_cons_zero]; rfl)
          case hq134 => exact fun _ _ _ h => h
          case hw134 => rfl
          case hy134 => (intro wq hSw; (try dsimp only at hSw); go_simp; (try with_reducible rfl))
          (try simp only [Act.put, List.setIfInBounds_toArray, List.set_cons_zero, List.set_cons_succ])
          refine' wpAnyH_take (i := 20) (oi := _) (v := _) ?hi135 (by kernel_rfl) (by kernel_rfl) (by kernel_rfl) ?hq135 (Or.inl ⟨?hw135, ?hy135⟩) (by assumption) ?rest135
          case hi135 => (simp only [List.getElem?_toArray, List.getElem?_cons_succ, List.getElem?_cons_zero]; rfl)
          case hq135 => exact fun _ _ _ h => h
          case hw135 => rfl
          case hy135 => (intro wq hSw; (try dsimp only at hSw); go_simp; (try with_reducible rfl))
          (try simp only [Act.put, List.setIfInBounds_toArray, List.set_cons_zero, List.set_cons_succ])
          refine' wpAnyH_take (i := 21) (oi := _) (v := _) ?hi136 (by kernel_rfl) (by kernel_rfl) (by kernel_rfl) ?hq136 (Or.inl ⟨?hw136, ?hy136⟩) (by assumption) ?rest136
          case hi136 => (simp only [List.getElem?_toArray, List.getElem?_cons_succ, List.getElem?_cons_zero]; rfl)
          case hq136 => exact fun _ _ _ h => h
          case hw136 => rfl
          case hy136 => (intro wq hSw; (try dsimp only at hSw); go_simp; (try with_reducible rfl))
          (try simp only [Act.put, List.setIfInBounds_toArray, List.set_cons_zero, List.set_cons_succ])
          refine' wpAnyH_take (i := 22) (oi := _) (v := _) ?hi137 (by kernel_rfl) (by kernel_rfl) (by kernel_rfl) ?hq137 (Or.inl ⟨?hw137, ?hy137⟩) (by assumption) ?rest137
          case hi137 => (simp only [List.getElem?_toArray, List.getElem?_cons_succ, List.getElem?_cons_zero]; rfl)
          case hq137 => exact fun _ _ _ h => h
          case hw137 => rfl
          case hy137 => (intro wq hSw; (try dsimp only at hSw); go_simp; (try with_reducible rfl))
          (try simp only [Act.put, List.setIfInBounds_toArray, List.set_cons_zero, List.set_cons_succ])
          refine' wpAnyH_take (i := 23) (oi := _) (v := _) ?hi138 (by kernel_rfl) (by kernel_rfl) (by kernel_rfl) ?hq138 (Or.inl ⟨?hw138, ?hy138⟩) (by assumption) ?rest138
          case hi138 => (simp only [List.getElem?_toArray, List.getElem?_cons_succ, List.getElem?_cons_zero]; rfl)
          case hq138 => exact fun _ _ _ h => h
          case hw138 => rfl
          case hy138 => (intro wq hSw; (try dsimp only at hSw); go_simp; (try with_reducible rfl))
          (try simp only [Act.put, List.setIfInBounds_toArray, List.set_cons_zero, List.set_cons_succ])
          refine' wpAnyH_take (i := 24) (oi := _) (v := Value.bool false) ?hi139 (by kernel_rfl) (by kernel_rfl) (by kernel_rfl) ?hq139 (Or.inl ⟨?hw139, ?hy139⟩) (by assumption) ?rest139
          case hi139 => (simp only [List.getElem?_toArray, List.getElem?_cons_succ, List.getElem?_cons_zero]; rfl)
          case hq139 => exact fun _ _ _ h => h
          case hw139 => rfl
          case hy139 => (intro wq hSw; (try dsimp only at hSw); (try go_simp); (first | done | (with_reducible rfl) | rfl | exact HXb.out | (rw [HXb.out]; done) | (rw [HXb.out]; rfl) | simp [HXx.out] | simp))
          (try simp only [Act.put, List.setIfInBounds_toArray, List.set_cons_zero, List.set_cons_succ])
          refine' wpAnyH_take (i := 25) (oi := _) (v := Value.bool false) ?hi140 (by kernel_rfl) (by kernel_rfl) (by kernel_rfl) ?hq140 (Or.inl ⟨?hw140, ?hy140⟩) (by assumption) ?rest140
          case hi140 => (simp only [List.getElem?_toArray, List.getElem?_cons_succ, List.getElem?_cons_zero]; rfl)
          case hq140 => exact fun _ _ _ h => h
          case hw140 => rfl
          case hy140 => (intro wq hSw; (try dsimp only at hSw); (try go_simp); (first | done | (with_reducible rfl) | rfl | simp))
          (try simp only [Act.put, List.setIfInBounds_toArray, List.set_cons_zero, List.set_cons_succ])
          refine' wpAnyH_take (i := 26) (oi := _) (v := Value.bool false) ?hi141 (by kernel_rfl) (by kernel_rfl) (by kernel_rfl) ?hq141 (Or.inl ⟨?hw141, ?hy141⟩) (by assumption) ?rest141
          case hi141 => (simp only [List.getElem?_toArray, List.getElem?_cons_succ, List.getElem?_cons_zero]; rfl)
          case hq141 => exact fun _ _ _ h => h
          case hw141 => rfl
          case hy141 => (intro wq hSw; (try dsimp only at hSw); (try go_simp); (first | done | (with_reducible rfl) | rfl | simp))
          (try simp only [Act.put, List.setIfInBounds_toArray, List.set_cons_zero, List.set_cons_succ])
          refine' wpAnyH_take (i := 27) (oi := _) (v := _) ?hi142 (by kernel_rfl) (by kernel_rfl) (by kernel_rfl) ?hq142 (Or.inl ⟨?hw142, ?hy142⟩) (by assumption) ?rest142
          case hi142 => (simp only [List.getElem?_toArray, List.getElem?_cons_succ, List.getElem?_cons_zero]; rfl)
          case hq142 => exact fun _ _ _ h => h
          case hw142 => rfl
          case hy142 => (intro wq hSw; (try dsimp only at hSw); go_simp; (try with_reducible rfl))
          (try simp only [Act.put, List.setIfInBounds_toArray, List.set_cons_zero, List.set_cons_succ])
          refine' wpAnyH_take (i := 28) (oi := _) (v := _) ?hi143 (by kernel_rfl) (by kernel_rfl) (by kernel_rfl) ?hq143 (Or.inl ⟨?hw143, ?hy143⟩) (by assumption) ?rest143
          case hi143 => (simp only [List.getElem?_toArray, List.getElem?_cons_succ, List.getElem?_cons_zero]; rfl)
          case hq143 => exact fun _ _ _ h => h
          case hw143 => rfl
          case hy143 => (intro wq hSw; (try dsimp only at hSw); go_simp; (try with_reducible rfl))
          (try simp only [Act.put, List.setIfInBounds_toArray, List.set_cons_zero, List.set_cons_succ])
          refine' wpAnyH_take (i := 29) (oi := _) (v := _) ?hi144 (by kernel_rfl) (by kernel_rfl) (by kernel_rfl) ?hq144 (Or.inl ⟨?hw144, ?hy144⟩) (by assumption) ?rest144
          case hi144 => (simp only [List.getElem?_toArray, List.getElem?_cons_succ, List.getElem?_cons_zero]; rfl)
          case hq144 => exact fun _ _ _ h => h
          case hw144 => rfl
          case hy144 => (intro wq hSw; (try dsimp only at hSw); go_simp; (try with_reducible rfl))
          (try simp only [Act.put, List.setIfInBounds_toArray, List.set_cons_zero, List.set_cons_succ])
          refine' wpAnyH_take (i := 30) (oi := _) (v := _) ?hi145 (by kernel_rfl) (by kernel_rfl) (by kernel_rfl) ?hq145 (Or.inl ⟨?hw145, ?hy145⟩) (by assumption) ?rest145
          case hi145 => (simp only [List.getElem?_toArray, List.getElem?_cons_succ, List.getElem?_cons_zero]; rfl)
          case hq145 => exact fun _ _ _ h => h
          case hw145 => rfl
          case hy145 => (intro wq hSw; (try dsimp only at hSw); go_simp; (try with_reducible rfl))
          (try simp only [Act.put, List.setIfInBounds_toArray, List.set_cons_zero, List.set_cons_succ])
          refine' wpAnyH_take (i := 31) (oi := _) (v := _) ?hi146 (by kernel_rfl) (by kernel_rfl) (by kernel_rfl) ?hq146 (Or.inl ⟨?hw146, ?hy146⟩) (by assumption) ?rest146
          case hi146 => (simp only [List.getElem?_toArray, List.getElem?_cons_succ, List.getElem?_cons_zero]; rfl)
          case hq146 => exact fun _ _ _ h => h
          case hw146 => rfl
          case hy146 => (intro wq hSw; (try dsimp only at hSw); go_simp; (try with_reducible rfl))
          (try simp only [Act.put, List.setIfInBounds_toArray, List.set_cons_zero, List.set_cons_succ])
          refine' wpAnyH_take (i := 32) (oi := _) (v := _) ?hi147 (by kernel_rfl) (by kernel_rfl) (by kernel_rfl) ?hq147 (Or.inl ⟨?hw147, ?hy147⟩) (by assumption) ?rest147
          case hi147 => (simp only [List.getElem?_toArray, List.getElem?_cons_succ, List.getElem?_cons_zero]; rfl)
          case hq147 => exact fun _ _ _ h => h
          case hw147 => rfl
          case hy147 => (intro wq hSw; (try dsimp only at hSw); go_simp; (try with_reducible rfl))
          (try simp only [Act.put, List.setIfInBounds_toArray, List.set_cons_zero, List.set_cons_succ])
          refine' wpAnyH_take (i := 33) (oi := _) (v := _) ?hi148 (by kernel_rfl) (by kernel_rfl) (by kernel_rfl) ?hq148 (Or.inl ⟨?hw148, ?hy148⟩) (by assumption) ?rest148
          case hi148 => (simp only [List.getElem?_toArray, List.getElem?_cons_succ, List.getElem?_cons_zero]; rfl)
          case hq148 => exact fun _ _ _ h => h
          case hw148 => rfl
          case hy148 => (intro wq hSw; (try dsimp only at hSw); go_simp; (try with_reducible rfl))
          (try simp only [Act.put, List.setIfInBounds_toArray, List.set_cons_zero, List.set_cons_succ])
          refine' wpAnyH_take (i := 34) (oi := _) (v := _) ?hi149 (by kernel_rfl) (by kernel_rfl) (by kernel_rfl) ?hq149 (Or.inl ⟨?hw149, ?hy149⟩) (by assumption) ?rest149
          case hi149 => (simp only [List.getElem?_toArray, List.getElem?_cons_succ, List.getElem?_cons_zero]; rfl)
          case hq149 => exact fun _ _ _ h => h
          case hw149 => rfl
          case hy149 => (intro wq hSw; (try dsimp only at hSw); go_simp; (try with_reducible rfl))
          (try simp only [Act.put, List.setIfInBounds_toArray, List.set_cons_zero, List.set_cons_succ])
          refine' wpAnyH_take (i := 35) (oi := _) (v := _) ?hi150 (by kernel_rfl) (by kernel_rfl) (by kernel_rfl) ?hq150 (Or.inl ⟨?hw150, ?hy150⟩) (by assumption) ?rest150
          case hi150 => (simp only [List.getElem?_toArray, List.getElem?_cons_succ, List.getElem?_cons_zero]; rfl)
          case hq150 => exact fun _ _ _ h => h
          case hw150 => rfl
          case hy150 => (intro wq hSw; (try dsimp only at hSw); go_simp; (try with_reducible rfl))
          (try simp only [Act.put, List.setIfInBounds_toArray, List.set_cons_zero, List.set_cons_succ])
          refine' wpAnyH_take (i := 36) (oi := _) (v := Value.bool true) ?hi151 (by kernel_rfl) (by kernel_rfl) (by kernel_rfl) ?hq151 (Or.inl ⟨?hw151, ?hy151⟩) (by assumption) ?rest151
          case hi151 => (simp only [List.getElem?_toArray, List.getElem?_cons_succ, List.getElem?_cons_zero]; rfl)
          case hq151 => exact fun _ _ _ h => h
          case hw151 => rfl
          case hy151 => (intro wq hSw; (try dsimp only at hSw); (try go_simp); (first | done | (with_reducible rfl) | rfl | exact HYb.out | (rw [HYb.out]; done) | (rw [HYb.out]; rfl) | simp [HY.out] | simp))
          (try simp only [Act.put, List.setIfInBounds_toArray, List.set_cons_zero, List.set_cons_succ])
          refine' wpAnyH_take (i := 37) (oi := _) (v := Value.bool true) ?hi152 (by kernel_rfl) (by kernel_rfl) (by kernel_rfl) ?hq152 (Or.inl ⟨?hw152, ?hy152⟩) (by assumption) ?rest152
          case hi152 => (simp only [List.getElem?_toArray, List.getElem?_cons_succ, List.getElem?_cons_zero]; rfl)
          case hq152 => exact fun _ _ _ h => h
          case hw152 => rfl
          case hy152 => (intro wq hSw; (try dsimp only at hSw); (try go_simp); (first | done | (with_reducible rfl) | rfl | simp))
          (try simp only [Act.put, List.setIfInBounds_toArray, List.set_cons_zero, List.set_cons_succ])
          refine wpAnyH_done (by kernel_rfl) ?_ _
          have Hv : Hid (mgOk ms = false) := Lib.hid (mgOk_no hkl (by rw [← HM.out, HMA.out, HVI.out, HZb.out, HXb.out, HYb.out]; rfl))
          obtain ⟨r0, r1, r2, r3⟩ := HC.out.b0_4
          have f0 := HC.out.f0 0
          have f1 := HC.out.f0 1
          have f2 := HC.out.f0 2
          have f3 := HC.out.f0 3
          have HE := Lib.hid (HC.out.e0_4 (.int .i64 0) (.int .i64 0) (.int .i64 0) (.slice none 0 0))
          clear HC
          go_wp2
          exact bodyPost_ret (v := .tuple #[.agg #[.int .i64 0, .int .i64 0, .int .i64 0, .slice none 0 0], .bool false]) (by simp [results, Try.results15, go_sem, r0, r1, r2, r3]) rfl (MgR.no Hv.out HE.out.1)
        have HYb : Hid (decide (m.Y = Y0) = true) := Lib.hid (decide_eq_true hY)
        have HY := Lib.hid hY
        clear hY
        have HA2 : Hid (∀ j, j < k + 1 → mgA X0 Y0 (imv ms j) = true) := Lib.hid (fun j hj => by
          by_cases e : j = k
          · subst e
            have h := HMA.out
            rw [HVI.out, HZb.out, HXb.out, HYb.out, HM.out, ← HX0.out, ← HY0.out] at h
            exact h
          · exact HA.out j (by omega))
        go_upto_region 6 with fail
        refine wp_region_held_drew (S := (fun w' => w'.cell? ⟨b, off + k * 4, none⟩ = some (.int .i64 m.X) ∧ w'.cell? ⟨b, off + k * 4 + 1, none⟩ = some (.int .i64 m.Y) ∧ w'.cell? ⟨b, off + k * 4 + 2, none⟩ = some (.int .i64 m.Z) ∧ w'.cell? ⟨b, off + k * 4 + 3, none⟩ = some (.slice Ai m.ds.length ci) ∧ w'.cell? ⟨b, off, none⟩ = some (.int .i64 X0) ∧ w'.cell? ⟨b, off + 1, none⟩ = some (.int .i64 Y0))) (by kernel_rfl) (by exact ⟨(HC.out.below.cell (p := ⟨b, off + k * 4, none⟩) hb).trans x0, (HC.out.below.cell (p := ⟨b, off + k * 4 + 1, none⟩) hb).trans x1, (HC.out.below.cell (p := ⟨b, off + k * 4 + 2, none⟩) hb).trans x2, (HC.out.below.cell (p := ⟨b, off + k * 4 + 3, none⟩) hb).trans x3, (HC.out.below.cell (p := ⟨b, off, none⟩) hb).trans y0, (HC.out.below.cell (p := ⟨b, off + 1, none⟩) hb).trans y1⟩) (fun hHeld => ?_)
        refine' wpAnyH_take (i := 0) (oi := _) (v := _) ?hi153 (by kernel_rfl) (by kernel_rfl) (by kernel_rfl) ?hq153 (Or.inl ⟨?hw153, ?hy153⟩) (by assumption) ?rest153
        case hi153 => (simp only [List.getElem?_toArray, List.getElem?_cons_succ, List.getElem?_cons_zero]; rfl)
        case hq153 => exact fun _ _ _ h => h
        case hw153 => rfl
        case hy153 => (intro wq hSw; (try dsimp only at hSw); go_simp; (try with_reducible rfl))
        (try simp only [Act.put, List.setIfInBounds_toArray, List.set_cons_zero, List.set_cons_succ])
        refine' wpAnyH_take (i := 1) (oi := _) (v := _) ?hi154 (by kernel_rfl) (by kernel_rfl) (by kernel_rfl) ?hq154 (Or.inl ⟨?hw154, ?hy154⟩) (by assumption) ?rest154
        case hi154 => (simp only [List.getElem?_toArray, List.getElem?_cons_succ, List.getElem?_cons_zero]; rfl)
        case hq154 => exact fun _ _ _ h => h
        case hw154 => rfl
        case hy154 => (intro wq hSw; (try dsimp only at hSw); go_simp; (try with_reducible rfl))
        (try simp only [Act.put, List.setIfInBounds_toArray, List.set_cons_zero, List.set_cons_succ])
        refine' wpAnyH_take (i := 2) (oi := _) (v := _) ?hi155 (by kernel_rfl) (by kernel_rfl) (by kernel_rfl) ?hq155 (Or.inl ⟨?hw155, ?hy155⟩) (by assumption) ?rest155
        case hi155 => (simp only [List.getElem?_toArray, List.getElem?_cons_succ, List.getElem?_cons_zero]; rfl)
        case hq155 => exact fun _ _ _ h => h
        case hw155 => rfl
        case hy155 => (intro wq hSw; (try dsimp only at hSw); go_simp; (try with_reducible rfl))
        (try simp only [Act.put, List.setIfInBounds_toArray, List.set_cons_zero, List.set_cons_succ])
        refine' wpAnyH_take (i := 3) (oi := _) (v := _) ?hi156 (by kernel_rfl) (by kernel_rfl) (by kernel_rfl) ?hq156 (Or.inl ⟨?hw156, ?hy156⟩) (by assumption) ?rest156
        case hi156 => (simp only [List.getElem?_toArray, List.getElem?_cons_succ, List.getElem?_cons_zero]; rfl)
        case hq156 => exact fun _ _ _ h => h
        case hw156 => rfl
        case hy156 => (intro wq hSw; (try dsimp only at hSw); go_simp; (try with_reducible rfl))
        (try simp only [Act.put, List.setIfInBounds_toArray, List.set_cons_zero, List.set_cons_succ])
        refine wpAnyH_ready (rs := [4]) (by kernel_rfl) (by simp) ?_
        refine' AllReadyH.cons (o := _) ?hi157 (fun K hK => ?rest157) AllReadyH.nil
        case hi157 => (simp only [List.getElem?_toArray, List.getElem?_cons_succ, List.getElem?_cons_zero]; rfl)
        go_simp
        go_at_call 32
        refine (sVimg_any m.X m.Y m.Z Ai ci m.ds _ (HC.out.arg HRi.out) (HLm.out)).mono ?_
        rintro e u5 ⟨rfl, hB5⟩
        have HD := Lib.hid (HC.out.call hB5)
        clear HC hB5
        have HC := HD
        clear HD
        rw [HVI.out]
        go_wp2_with fail
        refine hK.out _ _ (by (try dsimp only); exact ⟨(HC.out.below.cell (p := ⟨b, off + k * 4, none⟩) hb).trans x0, (HC.out.below.cell (p := ⟨b, off + k * 4 + 1, none⟩) hb).trans x1, (HC.out.below.cell (p := ⟨b, off + k * 4 + 2, none⟩) hb).trans x2, (HC.out.below.cell (p := ⟨b, off + k * 4 + 3, none⟩) hb).trans x3, (HC.out.below.cell (p := ⟨b, off, none⟩) hb).trans y0, (HC.out.below.cell (p := ⟨b, off + 1, none⟩) hb).trans y1⟩) (fun hHeld => ?_)
        clear hK K
        (try simp only [Act.put, List.setIfInBounds_toArray, List.set_cons_zero, List.set_cons_succ])
        refine' wpAnyH_take (i := 5) (oi := _) (v := Value.bool false) ?hi158 (by kernel_rfl) (by kernel_rfl) (by kernel_rfl) ?hq158 (Or.inl ⟨?hw158, ?hy158⟩) (by assumption) ?rest158
        case hi158 => (simp only [List.getElem?_toArray, List.getElem?_cons_succ, List.getElem?_cons_zero]; rfl)
        case hq158 => exact fun _ _ _ h => h
        case hw158 => rfl
        case hy158 => (intro wq hSw; (try dsimp only at hSw); (try go_simp); (first | done | (with_reducible rfl) | rfl | simp))
        (try simp only [Act.put, List.setIfInBounds_toArray, List.set_cons_zero, List.set_cons_succ])
        refine' wpAnyH_take (i := 6) (oi := _) (v := Value.bool false) ?hi159 (by kernel_rfl) (by kernel_rfl) (by kernel_rfl) ?hq159 (Or.inl ⟨?hw159, ?hy159⟩) (by assumption) ?rest159
        case hi159 => (simp only [List.getElem?_toArray, List.getElem?_cons_succ, List.getElem?_cons_zero]; rfl)
        case hq159 => exact fun _ _ _ h => h
        case hw159 => rfl
        case hy159 => (intro wq hSw; (try dsimp only at hSw); (try go_simp); (first | done | (with_reducible rfl) | rfl | simp))
        (try simp only [Act.put, List.setIfInBounds_toArray, List.set_cons_zero, List.set_cons_succ])
        refine' wpAnyH_take (i := 7) (oi := _) (v := _) ?hi160 (by kernel_rfl) (by kernel_rfl) (by kernel_rfl) ?hq160 (Or.inl ⟨?hw160, ?hy160⟩) (by assumption) ?rest160
        case hi160 => (simp only [List.getElem?_toArray, List.getElem?_cons_succ, List.getElem?_cons_zero]; rfl)
        case hq160 => exact fun _ _ _ h => h
        case hw160 => rfl
        case hy160 => (intro wq hSw; (try dsimp only at hSw); go_simp; (try with_reducible rfl))
        (try simp only [Act.put, List.setIfInBounds_toArray, List.set_cons_zero, List.set_cons_succ])
        refine' wpAnyH_take (i := 8) (oi := _) (v := _) ?hi161 (by kernel_rfl) (by kernel_rfl) (by kernel_rfl) ?hq161 (Or.inl ⟨?hw161, ?hy161⟩) (by assumption) ?rest161
        case hi161 => (simp only [List.getElem?_toArray, List.getElem?_cons_succ, List.getElem?_cons_zero]; rfl)
        case hq161 => exact fun _ _ _ h => h
        case hw161 => rfl
        case hy161 => (intro wq hSw; (try dsimp only at hSw); go_simp; (try with_reducible rfl))
        (try simp only [Act.put, List.setIfInBounds_toArray, List.set_cons_zero, List.set_cons_succ])
        refine' wpAnyH_take (i := 9) (oi := _) (v := _) ?hi162 (by kernel_rfl) (by kernel_rfl) (by kernel_rfl) ?hq162 (Or.inl ⟨?hw162, ?hy162⟩) (by assumption) ?rest162
        case hi162 => (simp only [List.getElem?_toArray, List.getElem?_cons_succ, List.getElem?_cons_zero]; rfl)
        case hq162 => exact fun _ _ _ h => h
        case hw162 => rfl
        case hy162 => (intro wq hSw; (try dsimp only at hSw); go_simp; (try with_reducible rfl))
        (try simp only [Act.put, List.setIfInBounds_toArray, List.set_cons_zero, List.set_cons_succ])
        refine' wpAnyH_take (i := 10) (oi := _) (v := _) ?hi163 (by kernel_rfl) (by kernel_rfl) (by kernel_rfl) ?hq163 (Or.inl ⟨?hw163, ?hy163⟩) (by assumption) ?rest163
        case hi163 => (simp only [List.getElem?_toArray, List.getElem?_cons_succ, List.getElem?_cons_zero]; rfl)
        case hq163 => exact fun _ _ _ h => h
        case hw163 => rfl
        case hy163 => (intro wq hSw; (try dsimp only at hSw); go_simp; (try with_reducible rfl))
        (try simp only [Act.put, List.setIfInBounds_toArray, List.set_cons_zero, List.set_cons_succ])
        refine' wpAnyH_take (i := 11) (oi := _) (v := _) ?hi164 (by kernel_rfl) (by kernel_rfl) (by kernel_rfl) ?hq164 (Or.inl ⟨?hw164, ?hy164⟩) (by assumption) ?rest164
        case hi164 => (simp only [List.getElem?_toArray, List.getElem?_cons_succ, List.getElem?_cons_zero]; rfl)
        case hq164 => exact fun _ _ _ h => h
        case hw164 => rfl
        case hy164 => (intro wq hSw; (try dsimp only at hSw); go_simp; (try with_reducible rfl))
        (try simp only [Act.put, List.setIfInBounds_toArray, List.set_cons_zero, List.set_cons_succ])
        refine' wpAnyH_take (i := 12) (oi := _) (v := Value.bool false) ?hi165 (by kernel_rfl) (by kernel_rfl) (by kernel_rfl) ?hq165 (Or.inl ⟨?hw165, ?hy165⟩) (by assumption) ?rest165
        case hi165 => (simp only [List.getElem?_toArray, List.getElem?_cons_succ, List.getElem?_cons_zero]; rfl)
        case hq165 => exact fun _ _ _ h => h
        case hw165 => rfl
        case hy165 => (intro wq hSw; (try dsimp only at hSw); (try go_simp); (first | done | (with_reducible rfl) | rfl | exact HZb.out | (rw [HZb.out]; done) | (rw [HZb.out]; rfl) | simp [HZ.out] | simp))
        (try simp only [Act.put, List.setIfInBounds_toArray, List.set_cons_zero, List.set_cons_succ])
        refine' wpAnyH_take (i := 13) (oi := _) (v := Value.bool false) ?hi166 (by kernel_rfl) (by kernel_rfl) (by kernel_rfl) ?hq166 (Or.inl ⟨?hw166, ?hy166⟩) (by assumption) ?rest166
        case hi166 => (simp only [List.getElem?_toArray, List.getElem?_cons_succ, List.getElem?_cons_zero]; rfl)
        case hq166 => exact fun _ _ _ h => h
        case hw166 => rfl
        case hy166 => (intro wq hSw; (try dsimp only at hSw); (try go_simp); (first | done | (with_reducible rfl) | rfl | simp))
        (try simp only [Act.put, List.setIfInBounds_toArray, List.set_cons_zero, List.set_cons_succ])
        refine' wpAnyH_take (i := 14) (oi := _) (v := Value.bool false) ?hi167 (by kernel_rfl) (by kernel_rfl) (by kernel_rfl) ?hq167 (Or.inl ⟨?hw167, ?hy167⟩) (by assumption) ?rest167
        case hi167 => (simp only [List.getElem?_toArray, List.getElem?_cons_succ, List.getElem?_cons_zero]; rfl)
        case hq167 => exact fun _ _ _ h => h
        case hw167 => rfl
        case hy167 => (intro wq hSw; (try dsimp only at hSw); (try go_simp); (first | done | (with_reducible rfl) | rfl | simp))
        (try simp only [Act.put, List.setIfInBounds_toArray, List.set_cons_zero, List.set_cons_succ])
        refine' wpAnyH_take (i := 15) (oi := _) (v := _) ?hi168 (by kernel_rfl) (by kernel_rfl) (by kernel_rfl) ?hq168 (Or.inl ⟨?hw168, ?hy168⟩) (by assumption) ?rest168
        case hi168 => (simp only [List.getElem?_toArray, List.getElem?_cons_succ, List.getElem?_cons_zero]; rfl)
        case hq168 => exact fun _ _ _ h => h
        case hw168 => rfl
        case hy168 => (intro wq hSw; (try dsimp only at hSw); go_simp; (try with_reducible rfl))
        (try simp only [Act.put, List.setIfInBounds_toArray, List.set_cons_zero, List.set_cons_succ])
        refine' wpAnyH_take (i := 16) (oi := _) (v := _) ?hi169 (by kernel_rfl) (by kernel_rfl) (by kernel_rfl) ?hq169 (Or.inl ⟨?hw169, ?hy169⟩) (by assumption) ?rest169
        case hi169 => (simp only [List.getElem?_toArray, List.getElem?_cons_succ, List.getElem?_cons_zero]; rfl)
        case hq169 => exact fun _ _ _ h => h
        case hw169 => rfl
        case hy169 => (intro wq hSw; (try dsimp only at hSw); go_simp; (try with_reducible rfl))
        (try simp only [Act.put, List.setIfInBounds_toArray, List.set_cons_zero, List.set_cons_succ])
        refine' wpAnyH_take (i := 17) (oi := _) (v := _) ?hi170 (by kernel_rfl) (by kernel_rfl) (by kernel_rfl) ?hq170 (Or.inl ⟨?hw170, ?hy170⟩) (by assumption) ?rest170
        case hi170 => (simp only [List.getElem?_toArray, List.getElem?_cons_succ, List.getElem?_cons_zero]; rfl)
        case hq170 => exact fun _ _ _ h => h
        case hw170 => rfl
        case hy170 => (intro wq hSw; (try dsimp only at hSw); go_simp; (try with_reducible rfl))
        (try simp only [Act.put, List.setIfInBounds_toArray, List.set_cons_zero, List.set_cons_succ])
        refine' wpAnyH_take (i := 18) (oi := _) (v := _) ?hi171 (by kernel_rfl) (by kernel_rfl) (by kernel_rfl) ?hq171 (Or.inl ⟨?hw171, ?hy171⟩) (by assumption) ?rest171
        case hi171 => (simp only [List.getElem?_toArray, List.getElem?_cons_succ, List.getElem?_cons_zero]; rfl)
        case hq171 => exact fun _ _ _ h => h
        case hw171 => rfl
        case hy171 => (intro wq hSw; (try dsimp only at hSw); go_simp; (try with_reducible rfl))
        (try simp only [Act.put, List.setIfInBounds_toArray, List.set_cons_zero, List.set_cons_succ])
        refine' wpAnyH_take (i := 19) (oi := _) (v := _) ?hi172 (by kernel_rfl) (by kernel_rfl) (by kernel_rfl) ?hq172 (Or.inl ⟨?hw172, ?hy172⟩) (by assumption) ?rest172
        case hi172 => (simp only [List.getElem?_toArray, List.getElem?_cons_succ, List.getElem?_cons_zero]; rfl)
        case hq172 => exact fun _ _ _ h => h
        case hw172 => rfl
        case hy172 => (intro wq hSw; (try dsimp only at hSw); go_simp; (try with_reducible rfl))
        (try simp only [Act.put, List.setIfInBounds_toArray, List.set_cons_zero, List.set_cons_succ])
        refine' wpAnyH_take (i := 20) (oi := _) (v := _) ?hi173 (by kernel_rfl) (by kernel_rfl) (by kernel_rfl) ?hq173 (Or.inl ⟨?hw173, ?hy173⟩) (by assumption) ?rest173
        case hi173 => (simp only [List.getElem?_toArray, List.getElem?_cons_succ, List.getElem?_cons_zero]; rfl)
        case hq173 => exact fun _ _ _ h => h
        case hw173 => rfl
        case hy173 => (intro wq hSw; (try dsimp only at hSw); go_simp; (try with_reducible rfl))
        (try simp only [Act.put, List.setIfInBounds_toArray, List.set_cons_zero, List.set_cons_succ])
        refine' wpAnyH_take (i := 21) (oi := _) (v := _) ?hi174 (by kernel_rfl) (by kernel_rfl) (by kernel_rfl) ?hq174 (Or.inl ⟨?hw174, ?hy174⟩) (by assumption) ?rest174
        case hi174 => (simp only [List.getElem?_toArray, List.getElem?_cons_succ, List.getElem?_cons_zero]; rfl)
        case hq174 => exact fun _ _ _ h => h
        case hw174 => rfl
        case hy174 => (intro wq hSw; (try dsimp only at hSw); go_simp; (try with_reducible rfl))
        (try simp only [Act.put, List.setIfInBounds_toArray, List.set_cons_zero, List.set_cons_succ])
        refine' wpAnyH_take (i := 22) (oi := _) (v := _) ?hi175 (by kernel_rfl) (by kernel_rfl) (by kernel_rfl) ?hq175 (Or.inl ⟨?hw175, ?hy175⟩) (by assumption) ?rest175
        case hi175 => (simp only [List.getElem?_toArray, List.getElem?_cons_succ, List.getElem?_cons_zero]; rfl)
        case hq175 => exact fun _ _ _ h => h
        case hw175 => rfl
        case hy175 => (intro wq hSw; (try dsimp only at hSw); go_simp; (try with_reducible rfl))
        (try simp only [Act.put, List.setIfInBounds_toArray, List.set_cons_zero, List.set_cons_succ])
        refine' wpAnyH_take (i := 23) (oi := _) (v := _) ?hi176 (by kernel_rfl) (by kernel_rfl) (by kernel_rfl) ?hq176 (Or.inl ⟨?hw176, ?hy176⟩) (by assumption) ?rest176
        case hi176 => (simp only [List.getElem?_toArray, List.getElem?_cons_succ, List.getElem?_cons_zero]; rfl)
        case hq176 => exact fun _ _ _ h => h
        case hw176 => rfl
        case hy176 => (intro wq hSw; (try dsimp only at hSw); go_simp; (try with_reducible rfl))
        (try simp only [Act.put, List.setIfInBounds_toArray, List.set_cons_zero, List.set_cons_succ])
        refine' wpAnyH_take (i := 24) (oi := _) (v := Value.bool false) ?hi177 (by kernel_rfl) (by kernel_rfl) (by kernel_rfl) ?hq177 (Or.inl ⟨?hw177, ?hy177⟩) (by assumption) ?rest177
        case hi177 => (simp only [List.getElem?_toArray, List.getElem?_cons_succ, List.getElem?_cons_zero]; rfl)
        case hq177 => exact fun _ _ _ h => h
        case hw177 => rfl
        case hy177 => (intro wq hSw; (try dsimp only at hSw); (try go_simp); (first | done | (with_reducible rfl) | rfl | exact HXb.out | (rw [HXb.out]; done) | (rw [HXb.out]; rfl) | simp [HXx.out] | simp))
        (try simp only [Act.put, List.setIfInBounds_toArray, List.set_cons_zero, List.set_cons_succ])
        refine' wpAnyH_take (i := 25) (oi := _) (v := Value.bool false) ?hi178 (by kernel_rfl) (by kernel_rfl) (by kernel_rfl) ?hq178 (Or.inl ⟨?hw178, ?hy178⟩) (by assumption) ?rest178
        case hi178 => (simp only [List.getElem?_toArray, List.getElem?_cons_succ, List.getElem?_cons_zero]; rfl)
        case hq178 => exact fun _ _ _ h => h
        case hw178 => rfl
        case hy178 => (intro wq hSw; (try dsimp only at hSw); (try go_simp); (first | done | (with_reducible rfl) | rfl | simp))
        (try simp only [Act.put, List.setIfInBounds_toArray, List.set_cons_zero, List.set_cons_succ])
        refine' wpAnyH_take (i := 26) (oi := _) (v := Value.bool false) ?hi179 (by kernel_rfl) (by kernel_rfl) (by kernel_rfl) ?hq179 (Or.inl ⟨?hw179, ?hy179⟩) (by assumption) ?rest179
        case hi179 => (simp only [List.getElem?_toArray, List.getElem?_cons_succ, List.getElem?_cons_zero]; rfl)
        case hq179 => exact fun _ _ _ h => h
        case hw179 => rfl
        case hy179 => (intro wq hSw; (try dsimp only at hSw); (try go_simp); (first | done | (with_reducible rfl) | rfl | simp))
        (try simp only [Act.put, List.setIfInBounds_toArray, List.set_cons_zero, List.set_cons_succ])
        refine' wpAnyH_take (i := 27) (oi := _) (v := _) ?hi180 (by kernel_rfl) (by kernel_rfl) (by kernel_rfl) ?hq180 (Or.inl ⟨?hw180, ?hy180⟩) (by assumption) ?rest180
        case hi180 => (simp only [List.getElem?_toArray, List.getElem?_cons_succ, List.getElem?_cons_zero]; rfl)
        case hq180 => exact fun _ _ _ h => h
        case hw180 => rfl
        case hy180 => (intro wq hSw; (try dsimp only at hSw); go_simp; (try with_reducible rfl))
        (try simp only [Act.put, List.setIfInBounds_toArray, List.set_cons_zero, List.set_cons_succ])
        refine' wpAnyH_take (i := 28) (oi := _) (v := _) ?hi181 (by kernel_rfl) (by kernel_rfl) (by kernel_rfl) ?hq181 (Or.inl ⟨?hw181, ?hy181⟩) (by assumption) ?rest181
        case hi181 => (simp only [List.getElem?_toArray, List.getElem?_cons_succ, List.getElem?_cons_zero]; rfl)
        case hq181 => exact fun _ _ _ h => h
        case hw181 => rfl
        case hy181 => (intro wq hSw; (try dsimp only at hSw); go_simp; (try with_reducible rfl))
        (try simp only [Act.put, List.setIfInBounds_toArray, List.set_cons_zero, List.set_cons_succ])
        refine' wpAnyH_take (i := 29) (oi := _) (v := _) ?hi182 (by kernel_rfl) (by kernel_rfl) (by kernel_rfl) ?hq182 (Or.inl ⟨?hw182, ?hy182⟩) (by assumption) ?rest182
        case hi182 => (simp only [List.getElem?_toArray, List.getElem?_cons_succ, List.getElem?_cons_zero]; rfl)
        case hq182 => exact fun _ _ _ h => h
        case hw182 => rfl
        case hy182 => (intro wq hSw; (try dsimp only at hSw); go_simp; (try with_reducible rfl))
        (try simp only [Act.put, List.setIfInBounds_toArray, List.set_cons_zero, List.set_cons_succ])
        refine' wpAnyH_take (i := 30) (oi := _) (v := _) ?hi183 (by kernel_rfl) (by kernel_rfl) (by kernel_rfl) ?hq183 (Or.inl ⟨?hw183, ?hy183⟩) (by assumption) ?rest183
        case hi183 => (simp only [List.getElem?_toArray, List.getElem?_cons_succ, List.getElem?_cons_zero]; rfl)
        case hq183 => exact fun _ _ _ h => h
        case hw183 => rfl
        case hy183 => (intro wq hSw; (try dsimp only at hSw); go_simp; (try with_reducible rfl))
        (try simp only [Act.put, List.setIfInBounds_toArray, List.set_cons_zero, List.set_cons_succ])
        refine' wpAnyH_take (i := 31) (oi := _) (v := _) ?hi184 (by kernel_rfl) (by kernel_rfl) (by kernel_rfl) ?hq184 (Or.inl ⟨?hw184, ?hy184⟩) (by assumption) ?rest184
        case hi184 => (simp only [List.getElem?_toArray, List.getElem?_cons_succ, List.getElem?_cons_zero]; rfl)
        case hq184 => exact fun _ _ _ h => h
        case hw184 => rfl
        case hy184 => (intro wq hSw; (try dsimp only at hSw); go_simp; (try with_reducible rfl))
        (try simp only [Act.put, List.setIfInBounds_toArray, List.set_cons_zero, List.set_cons_succ])
        refine' wpAnyH_take (i := 32) (oi := _) (v := _) ?hi185 (by kernel_rfl) (by kernel_rfl) (by kernel_rfl) ?hq185 (Or.inl ⟨?hw185, ?hy185⟩) (by assumption) ?rest185
        case hi185 => (simp only [List.getElem?_toArray, List.getElem?_cons_succ, List.getElem?_cons_zero]; rfl)
        case hq185 => exact fun _ _ _ h => h
        case hw185 => rfl
        case hy185 => (intro wq hSw; (try dsimp only at hSw); go_simp; (try with_reducible rfl))
        (try simp only [Act.put, List.setIfInBounds_toArray, List.set_cons_zero, List.set_cons_succ])
        refine' wpAnyH_take (i := 33) (oi := _) (v := _) ?hi186 (by kernel_rfl) (by kernel_rfl) (by kernel_rfl) ?hq186 (Or.inl ⟨?hw186, ?hy186⟩) (by assumption) ?rest186
        case hi186 => (simp only [List.getElem?_toArray, List.getElem?_cons_succ, List.getElem?_cons_zero]; rfl)
        case hq186 => exact fun _ _ _ h => h
        case hw186 => rfl
        case hy186 => (intro wq hSw; (try dsimp only at hSw); go_simp; (try with_reducible rfl))
        (try simp only [Act.put, List.setIfInBounds_toArray, List.set_cons_zero, List.set_cons_succ])
        refine' wpAnyH_take (i := 34) (oi := _) (v := _) ?hi187 (by kernel_rfl) (by kernel_rfl) (by kernel_rfl) ?hq187 (Or.inl ⟨?hw187, ?hy187⟩) (by assumption) ?rest187
        case hi187 => (simp only [List.getElem?_toArray, List.getElem?_cons_succ, List.getElem?_cons_zero]; rfl)
        case hq187 => exact fun _ _ _ h => h
        case hw187 => rfl
        case hy187 => (intro wq hSw; (try dsimp only at hSw); go_simp; (try with_reducible rfl))
        (try simp only [Act.put, List.setIfInBounds_toArray, List.set_cons_zero, List.set_cons_succ])
        refine' wpAnyH_take (i := 35) (oi := _) (v := _) ?hi188 (by kernel_rfl) (by kernel_rfl) (by kernel_rfl) ?hq188 (Or.inl ⟨?hw188, ?hy188⟩) (by assumption) ?rest188
        case hi188 => (simp only [List.getElem?_toArray, List.getElem?_cons_succ, List.getElem?_cons_zero]; rfl)
        case hq188 => exact fun _ _ _ h => h
        case hw188 => rfl
        case hy188 => (intro wq hSw; (try dsimp only at hSw); go_simp; (try with_reducible rfl))
        (try simp only [Act.put, List.setIfInBounds_toArray, List.set_cons_zero, List.set_cons_succ])
        refine' wpAnyH_take (i := 36) (oi := _) (v := Value.bool false) ?hi189 (by kernel_rfl) (by kernel_rfl) (by kernel_rfl) ?hq189 (Or.inl ⟨?hw189, ?hy189⟩) (by assumption) ?rest189
        case hi189 => (simp only [List.getElem?_toArray, List.getElem?_cons_succ, List.getElem?_cons_zero]; rfl)
        case hq189 => exact fun _ _ _ h => h
        case hw189 => rfl
        case hy189 => (intro wq hSw; (try dsimp only at hSw); (try go_simp); (first | done | (with_reducible rfl) | rfl | exact HYb.out | (rw [HYb.out]; done) | (rw [HYb.out]; rfl) | simp [HY.out] | simp))
        (try simp only [Act.put, List.setIfInBounds_toArray, List.set_cons_zero, List.set_cons_succ])
        refine' wpAnyH_take (i := 37) (oi := _) (v := Value.bool false) ?hi190 (by kernel_rfl) (by kernel_rfl) (by kernel_rfl) ?hq190 (Or.inl ⟨?hw190, ?hy190⟩) (by assumption) ?rest190
        case hi190 => (simp only [List.getElem?_toArray, List.getElem?_cons_succ, List.getElem?_cons_zero]; rfl)
        case hq190 => exact fun _ _ _ h => h
        case hw190 => rfl
        case hy190 => (intro wq hSw; (try dsimp only at hSw); (try go_simp); (first | done | (with_reducible rfl) | rfl | simp))
        (try simp only [Act.put, List.setIfInBounds_toArray, List.set_cons_zero, List.set_cons_succ])
        refine wpAnyH_done (by kernel_rfl) ?_ _
        go_wp2
        go_roundw
        case rel => exact ⟨k + 1, by omega, by go_num, HA2, HC⟩
        case measure => simp [intOf]; omega
      · have hkn : k = n := by omega
        have hok : mgOk ms = true := mgOk_yes (by rw [← Hn.out]; exact hn1) (fun i hi => by rw [← HX0.out, ← HY0.out]; exact HA.out i (by have := Hn.out; omega))
        obtain ⟨W, H, hW1, hW, hH1, hH, _, _, eX, eY, hall⟩ := mgOk_spec hok
        have HOk := Lib.hid hok
        have HAll := Lib.hid hall
        obtain rfl : X0 = (W : Int) := by rw [HX0.out]; exact eX
        obtain rfl : Y0 = (H : Int) := by rw [HY0.out]; exact eY
        have HC := Lib.hid hI.out.drew
        rw [← HX0.out, ← HY0.out]
        have hl0 : w.heap.size < wr.heap.size := HC.out.l0
        clear hI hok hall eX eY HA hkn
        have hn4 : n ≤ 4 := hn1.2
        obtain ⟨N, hN⟩ : ∃ N, N = W * H * n := ⟨_, rfl⟩
        have hzl : (zeros (W * H * n)).length = N := by simp [zeros, hN]
        have hN0 : 0 < N := by rw [hN]; exact Nat.mul_pos (Nat.mul_pos hW1 hH1) hn0
        have HN := Lib.hid hN
        have Hzl := Lib.hid hzl
        have HZ0 : Hid (zeros (W * H * n) = zeros N) := Lib.hid (by rw [hN])
        clear hN hzl
        go_upto_region 8 with fail
        go_cut [5] from 7 (fun s5 wx => ∃ (lo3 hi3 g c2 b3 : Nat), s5 = .pointer (some ⟨b3, 0, none⟩) ∧ Hid (GS w wx [ri lo3 hi3 (.slice (some ⟨g, 0, none⟩) N c2) (zeros N)] [⟨b3, 25, #[.int .i64 (W : Int), .int .i64 (H : Int), .int .i64 (n : Int), .slice (some ⟨g, 0, none⟩) N c2]⟩, ⟨w.heap.size, 25, #[.int .i64 0, .int .i64 0, .int .i64 0, .slice none 0 0]⟩] ∧ b3 ≠ g ∧ w.heap.size ≠ g ∧ w.heap.size ≤ g))
        case first =>
          refine wp_region_held_drew (S := (fun w' => w'.cell? ⟨b, off, none⟩ = some (.int .i64 (W : Int)) ∧ w'.cell? ⟨b, off + 1, none⟩ = some (.int .i64 (H : Int)))) (by kernel_rfl) (by exact ⟨(HC.out.below.cell (p := ⟨b, off, none⟩) hb).trans y0, (HC.out.below.cell (p := ⟨b, off + 1, none⟩) hb).trans y1⟩) (fun hHeld => ?_)
          refine' wpAnyH_take (i := 0) (oi := _) (v := _) ?hi191 (by kernel_rfl) (by kernel_rfl) (by kernel_rfl) ?hq191 (Or.inl ⟨?hw191, ?hy191⟩) (by assumption) ?rest191
          case hi191 => (simp only [List.getElem?_toArray, List.getElem?_cons_succ, List.getElem?_cons_zero]; rfl)
          case hq191 => exact fun _ _ _ h => h
          case hw191 => rfl
          case hy191 => (intro wq hSw; (try dsimp only at hSw); go_simp; (try with_reducible rfl))
          (try simp only [Act.put, List.setIfInBounds_toArray, List.set_cons_zero, List.set_cons_succ])
          refine' wpAnyH_take (i := 1) (oi := _) (v := _) ?hi192 (by kernel_rfl) (by kernel_rfl) (by kernel_rfl) ?hq192 (Or.inl ⟨?hw192, ?hy192⟩) (by assumption) ?rest192
          case hi192 => (simp only [List.getElem?_toArray, List.getElem?_cons_succ, List.getElem?_cons_zero]; rfl)
          case hq192 => exact fun _ _ _ h => h
          case hw192 => rfl
          case hy192 => (intro wq hSw; (try dsimp only at hSw); go_simp; (try with_reducible rfl))
          (try simp only [Act.put, List.setIfInBounds_toArray, List.set_cons_zero, List.set_cons_succ])
          refine' wpAnyH_take (i := 2) (oi := _) (v := _) ?hi193 (by kernel_rfl) (by kernel_rfl) (by kernel_rfl) ?hq193 (Or.inl ⟨?hw193, ?hy193⟩) (by assumption) ?rest193
          case hi193 => (simp only [List.getElem?_toArray, List.getElem?_cons_succ, List.getElem?_cons_zero]; rfl)
          case hq193 => exact fun _ _ _ h => h
          case hw193 => rfl
          case hy193 => (intro wq hSw; (try dsimp only at hSw); go_simp; (try with_reducible rfl))
          (try simp only [Act.put, List.setIfInBounds_toArray, List.set_cons_zero, List.set_cons_succ])
          refine' wpAnyH_take (i := 3) (oi := _) (v := _) ?hi194 (by kernel_rfl) (by kernel_rfl) (by kernel_rfl) ?hq194 (Or.inl ⟨?hw194, ?hy194⟩) (by assumption) ?rest194
          case hi194 => (simp only [List.getElem?_toArray, List.getElem?_cons_succ, List.getElem?_cons_zero]; rfl)
          case hq194 => exact fun _ _ _ h => h
          case hw194 => rfl
          case hy194 => (intro wq hSw; (try dsimp only at hSw); go_simp; (try with_reducible rfl))
          (try simp only [Act.put, List.setIfInBounds_toArray, List.set_cons_zero, List.set_cons_succ])
          refine' wpAnyH_take (i := 4) (oi := _) (v := _) ?hi195 (by kernel_rfl) (by kernel_rfl) (by kernel_rfl) ?hq195 (Or.inl ⟨?hw195, ?hy195⟩) (by assumption) ?rest195
          case hi195 => (simp only [List.getElem?_toArray, List.getElem?_cons_succ, List.getElem?_cons_zero]; rfl)
          case hq195 => exact fun _ _ _ h => h
          case hw195 => rfl
          case hy195 => (intro wq hSw; (try dsimp only at hSw); go_simp; (try with_reducible rfl))
          (try simp only [Act.put, List.setIfInBounds_toArray, List.set_cons_zero, List.set_cons_succ])
          refine' wpAnyH_take (i := 5) (oi := _) (v := _) ?hi196 (by kernel_rfl) (by kernel_rfl) (by kernel_rfl) ?hq196 (Or.inl ⟨?hw196, ?hy196⟩) (by assumption) ?rest196
          case hi196 => (simp only [List.getElem?_toArray, List.getElem?_cons_succ, List.getElem?_cons_zero]; rfl)
          case hq196 => exact fun _ _ _ h => h
          case hw196 => rfl
          case hy196 => (intro wq hSw; (try dsimp only at hSw); go_simp; (try with_reducible rfl))
          (try simp only [Act.put, List.setIfInBounds_toArray, List.set_cons_zero, List.set_cons_succ])
          refine' wpAnyH_take (i := 6) (oi := _) (v := _) ?hi197 (by kernel_rfl) (by kernel_rfl) (by kernel_rfl) ?hq197 (Or.inl ⟨?hw197, ?hy197⟩) (by assumption) ?rest197
          case hi197 => (simp only [List.getElem?_toArray, List.getElem?_cons_succ, List.getElem?_cons_zero]; rfl)
          case hq197 => exact fun _ _ _ h => h
          case hw197 => rfl
          case hy197 => (intro wq hSw; (try dsimp only at hSw); go_simp; (try with_reducible rfl))
          (try simp only [Act.put, List.setIfInBounds_toArray, List.set_cons_zero, List.set_cons_succ])
          refine' wpAnyH_take (i := 7) (oi := _) (v := _) ?hi198 (by kernel_rfl) (by kernel_rfl) (by kernel_rfl) ?hq198 (Or.inl ⟨?hw198, ?hy198⟩) (by assumption) ?rest198
          case hi198 => (simp only [List.getElem?_toArray, List.getElem?_cons_succ, List.getElem?_cons_zero]; rfl)
          case hq198 => exact fun _ _ _ h => h
          case hw198 => rfl
          case hy198 => (intro wq hSw; (try dsimp only at hSw); go_simp; (try with_reducible rfl))
          (try simp only [Act.put, List.setIfInBounds_toArray, List.set_cons_zero, List.set_cons_succ])
          refine' wpAnyH_take (i := 8) (oi := _) (v := _) ?hi199 (by kernel_rfl) (by kernel_rfl) (by kernel_rfl) ?hq199 (Or.inl ⟨?hw199, ?hy199⟩) (by assumption) ?rest199
          case hi199 => (simp only [List.getElem?_toArray, List.getElem?_cons_succ, List.getElem?_cons_zero]; rfl)
          case hq199 => exact fun _ _ _ h => h
          case hw199 => rfl
          case hy199 => (intro wq hSw; (try dsimp only at hSw); go_simp; (try with_reducible rfl))
          (try simp only [Act.put, List.setIfInBounds_toArray, List.set_cons_zero, List.set_cons_succ])
          refine' wpAnyH_take (i := 9) (oi := _) (v := _) ?hi200 (by kernel_rfl) (by kernel_rfl) (by kernel_rfl) ?hq200 (Or.inl ⟨?hw200, ?hy200⟩) (by assumption) ?rest200
          case hi200 => (simp only [List.getElem?_toArray, List.getElem?_cons_succ, List.getElem?_cons_zero]; rfl)
          case hq200 => exact fun _ _ _ h => h
          case hw200 => rfl
          case hy200 => (intro wq hSw; (try dsimp only at hSw); go_simp; (try with_reducible rfl))
          (try simp only [Act.put, List.setIfInBounds_toArray, List.set_cons_zero, List.set_cons_succ])
          refine wpAnyH_ready (rs := [10, 11]) (by kernel_rfl) (by simp) ?_
          refine' (AllReadyH.cons (o := _) ?hj1_10 (fun K hK => ?rj1_10) (AllReadyH.cons (o := _) ?hj1_11 (fun K hK => ?rj1_11) AllReadyH.nil))
          case hj1_10 => (simp only [List.getElem?_toArray, List.getElem?_cons_succ, List.getElem?_cons_zero]; rfl)
          case hj1_11 => (simp only [List.getElem?_toArray, List.getElem?_cons_succ, List.getElem?_cons_zero]; rfl)
          case rj1_10 =>
            go_simp
            go_at_call 33
            refine (newImage_any W H n hW hH hn4 _).mono ?_
            rintro e u5 ⟨v5, rfl, hO5, hB5⟩
            obtain ⟨g, c2, rfl, hg1, hg2⟩ := hO5.form (by rw [Hzl.out]; exact hN0)
            have HD := (HC.out).add hO5 hB5
            rw [Hzl.out] at HD ⊢
            rw [HZ0.out] at HD
            have HC2 := Lib.hid HD
            have hg3 : wr.heap.size + 0 ≤ g := hg1
            clear HD hO5 hB5
            go_wp2_with fail
            refine hK.out _ _ (by (try dsimp only); exact ⟨(HC2.out.below.cell (p := ⟨b, off, none⟩) hb).trans y0, (HC2.out.below.cell (p := ⟨b, off + 1, none⟩) hb).trans y1⟩) (fun hHeld => ?_)
            clear hK K
            (try simp only [Act.put, List.setIfInBounds_toArray, List.set_cons_zero, List.set_cons_succ])
            refine wpAnyH_ready (rs := [11]) (by kernel_rfl) (by simp) ?_
            refine' (AllReadyH.cons (o := _) ?hj2_11 (fun K hK => ?rj2_11) AllReadyH.nil)
            case hj2_11 => (simp only [List.getElem?_toArray, List.getElem?_cons_succ, List.getElem?_cons_zero]; rfl)
            go_simp
            refine hK.out _ _ (by (try dsimp only); exact ⟨((GS.box HC2.out 25 #[.int .i64 0, .int .i64 0, .int .i64 0, .slice none 0 0]).below.cell (p := ⟨b, off, none⟩) hb).trans y0, ((GS.box HC2.out 25 #[.int .i64 0, .int .i64 0, .int .i64 0, .slice none 0 0]).below.cell (p := ⟨b, off + 1, none⟩) hb).trans y1⟩) (fun hHeld => ?_)
            clear hK K
            (try simp only [Act.put, List.setIfInBounds_toArray, List.set_cons_zero, List.set_cons_succ])
            refine wpAnyH_ready (rs := [12]) (by kernel_rfl) (by simp) ?_
            refine' (AllReadyH.cons (o := _) ?hj3_12 (fun K hK => ?rj3_12) AllReadyH.nil)
            case hj3_12 => (simp only [List.getElem?_toArray, List.getElem?_cons_succ, List.getElem?_cons_zero]; rfl)
            have z := ((GS.box HC2.out 25 #[.int .i64 0, .int .i64 0, .int .i64 0, .slice none 0 0])).b0_4
            obtain ⟨z0, z1, z2, z3⟩ := z
            have zf0 := ((GS.box HC2.out 25 #[.int .i64 0, .int .i64 0, .int .i64 0, .slice none 0 0])).f0 0
            have zf1 := ((GS.box HC2.out 25 #[.int .i64 0, .int .i64 0, .int .i64 0, .slice none 0 0])).f0 1
            have zf2 := ((GS.box HC2.out 25 #[.int .i64 0, .int .i64 0, .int .i64 0, .slice none 0 0])).f0 2
            have zf3 := ((GS.box HC2.out 25 #[.int .i64 0, .int .i64 0, .int .i64 0, .slice none 0 0])).f0 3
            go_simp
            go_wp2_with fail
            refine hK.out _ _ (by (try dsimp only); exact ⟨((GS.box HC2.out 25 #[.int .i64 (W : Int), .int .i64 (H : Int), .int .i64 (n : Int), .slice (some ⟨g, 0, none⟩) N c2]).below.cell (p := ⟨b, off, none⟩) hb).trans y0, ((GS.box HC2.out 25 #[.int .i64 (W : Int), .int .i64 (H : Int), .int .i64 (n : Int), .slice (some ⟨g, 0, none⟩) N c2]).below.cell (p := ⟨b, off + 1, none⟩) hb).trans y1⟩) (fun hHeld => ?_)
            clear hK K
            (try simp only [Act.put, List.setIfInBounds_toArray, List.set_cons_zero, List.set_cons_succ])
            refine wpAnyH_done (by kernel_rfl) ?_ _
            go_wp2_with fail
            go_meet
            exact ⟨_, _, g, c2, _, rfl, Lib.hid ⟨GS.box HC2.out 25 #[.int .i64 (W : Int), .int .i64 (H : Int), .int .i64 (n : Int), .slice (some ⟨g, 0, none⟩) N c2], by omega, by omega, by omega⟩⟩
          case rj1_11 =>
            go_simp
            refine hK.out _ _ (by (try dsimp only); exact ⟨((GS.box HC.out 25 #[.int .i64 0, .int .i64 0, .int .i64 0, .slice none 0 0]).below.cell (p := ⟨b, off, none⟩) hb).trans y0, ((GS.box HC.out 25 #[.int .i64 0, .int .i64 0, .int .i64 0, .slice none 0 0]).below.cell (p := ⟨b, off + 1, none⟩) hb).trans y1⟩) (fun hHeld => ?_)
            clear hK K
            (try simp only [Act.put, List.setIfInBounds_toArray, List.set_cons_zero, List.set_cons_succ])
            refine wpAnyH_ready (rs := [10]) (by kernel_rfl) (by simp) ?_
            refine' (AllReadyH.cons (o := _) ?hj4_10 (fun K hK => ?rj4_10) AllReadyH.nil)
            case hj4_10 => (simp only [List.getElem?_toArray, List.getElem?_cons_succ, List.getElem?_cons_zero]; rfl)
            go_simp
            go_at_call 33
            refine (newImage_any W H n hW hH hn4 _).mono ?_
            rintro e u5 ⟨v5, rfl, hO5, hB5⟩
            obtain ⟨g, c2, rfl, hg1, hg2⟩ := hO5.form (by rw [Hzl.out]; exact hN0)
            have HD := (GS.box' HC.out 25 #[.int .i64 0, .int .i64 0, .int .i64 0, .slice none 0 0] wr.heap.size rfl).add hO5 hB5
            rw [Hzl.out] at HD ⊢
            rw [HZ0.out] at HD
            have HC2 := Lib.hid HD
            have hg3 : wr.heap.size + 1 ≤ g := Nat.le_trans (Nat.le_of_eq (World.size_alloc ..).symm) hg1
            clear HD hO5 hB5
            go_wp2_with fail
            refine hK.out _ _ (by (try dsimp only); exact ⟨(HC2.out.below.cell (p := ⟨b, off, none⟩) hb).trans y0, (HC2.out.below.cell (p := ⟨b, off + 1, none⟩) hb).trans y1⟩) (fun hHeld => ?_)
            clear hK K
            (try simp only [Act.put, List.setIfInBounds_toArray, List.set_cons_zero, List.set_cons_succ])
            refine wpAnyH_ready (rs := [12]) (by kernel_rfl) (by simp) ?_
            refine' (AllReadyH.cons (o := _) ?hj5_12 (fun K hK => ?rj5_12) AllReadyH.nil)
            case hj5_12 => (simp only [List.getElem?_toArray, List.getElem?_cons_succ, List.getElem?_cons_zero]; rfl)
            have z := (HC2.out).b0_4
            obtain ⟨z0, z1, z2, z3⟩ := z
            have zf0 := (HC2.out).f0 0
            have zf1 := (HC2.out).f0 1
            have zf2 := (HC2.out).f0 2
            have zf3 := (HC2.out).f0 3
            go_simp
            go_wp2_with fail
            refine hK.out _ _ (by (try dsimp only); exact ⟨((GS.fill4 HC2.out (.int .i64 (W : Int)) (.int .i64 (H : Int)) (.int .i64 (n : Int)) (.slice (some ⟨g, 0, none⟩) N c2)).below.cell (p := ⟨b, off, none⟩) hb).trans y0, ((GS.fill4 HC2.out (.int .i64 (W : Int)) (.int .i64 (H : Int)) (.int .i64 (n : Int)) (.slice (some ⟨g, 0, none⟩) N c2)).below.cell (p := ⟨b, off + 1, none⟩) hb).trans y1⟩) (fun hHeld => ?_)
            clear hK K
            (try simp only [Act.put, List.setIfInBounds_toArray, List.set_cons_zero, List.set_cons_succ])
            refine wpAnyH_done (by kernel_rfl) ?_ _
            go_wp2_with fail
            go_meet
            exact ⟨_, _, g, c2, _, rfl, Lib.hid ⟨GS.fill4 HC2.out (.int .i64 (W : Int)) (.int .i64 (H : Int)) (.int .i64 (n : Int)) (.slice (some ⟨g, 0, none⟩) N c2), by omega, by omega, by omega⟩⟩
        case rest =>
          obtain ⟨lo3, hi3, g, c2, b3, rfl, HG⟩ := hcut
          have hzb := HG.out.2.1
          have HG3 := Lib.hid HG.out.2.2.2
          have hwg := HG.out.2.2.1
          have HI0 := Lib.hid HG.out.1
          have HLm : Hid ((mgL W H ms).length = N) := Lib.hid (by rw [mgL_len, HN.out, ← Hn.out])
          have hWH : W * H ≤ 256 := Nat.mul_le_mul hW hH
          have hN1024 : N ≤ 1024 := by
            rw [HN.out]
            have h1 := Nat.mul_le_mul hW hH
            have h2 := Nat.mul_le_mul h1 hn4
            omega
          clear HC hlt hk HG HZ0 Hzl
          go_wp2
          go_loopw [6] (fun i wr => ∃ j : Nat, j ≤ N ∧ i = .int .i64 j ∧ Hid (GS w wr [ri lo3 hi3 (.slice (some ⟨g, 0, none⟩) N c2) ((mgL W H ms).take j ++ zeros (N - j))] [⟨b3, 25, #[.int .i64 (W : Int), .int .i64 (H : Int), .int .i64 (n : Int), .slice (some ⟨g, 0, none⟩) N c2]⟩, ⟨w.heap.size, 25, #[.int .i64 0, .int .i64 0, .int .i64 0, .slice none 0 0]⟩])) (fun i _ => N - (intOf i).toNat)
          case atStart => exact ⟨0, Nat.zero_le _, rfl, by simpa using HI0⟩
          case round =>
            clear HI0
            obtain ⟨j, hj, rfl, hJ⟩ := hrel
            have hlj : ((mgL W H ms).take j ++ zeros (N - j)).length = N := by simp [zeros, HLm.out]; omega
            obtain ⟨o0, o1, o2, o3⟩ := hJ.out.b0_4
            by_cases hjlt : j < N
            · obtain ⟨p, hp⟩ : ∃ p, p = j % n := ⟨_, rfl⟩
              obtain ⟨q, hq⟩ : ∃ q, q = j / n := ⟨_, rfl⟩
              have hpn : p < n := by rw [hp]; exact Nat.mod_lt _ hn0
              have hjq : q * n + p = j := by rw [hp, hq, Nat.mul_comm]; exact Nat.div_add_mod j n
              have hqW : q < W * H := by
                rw [hq]
                exact Nat.div_lt_of_lt_mul (by rw [Nat.mul_comm n, ← HN.out]; exact hjlt)
              have hpl : p < ms.length := by have := Hn.out; omega
              obtain ⟨b', off', Ai, ci, hA', hb', hci, x0, x1, x2, x3, hri⟩ := HX.out.at hpl
              injection hA' with hA'
              injection hA' with e1 e2
              subst e1 e2
              have hdl := (HAll.out p hpl).2.2.2.1
              obtain ⟨bi, oi, rfl, hbi, hci2⟩ := hri.cells_ (j := q) (by omega)
              have hcq := (hJ.out.below.cell (p := ⟨bi, oi + q, none⟩) hbi).trans (hci2 q (by omega))
              have hc3 := (hJ.out.below.cell (p := ⟨b, off + p * 4 + 3, none⟩) hb).trans x3
              have hown := hJ.out.o0
              have hcw := hown.cell hlj.symm (j := j) (by omega)
              have hfw := hown.frozen hlj.symm j
              have hput := (show Own wr.drew lo3 (.slice (some ⟨g, 0, none⟩) N c2) ((mgL W H ms).take j ++ zeros (N - j)) from hown).put hlj.symm j ((imv ms p).ds.getD q 0)
              have hset := take_set_next (mgL W H ms) j (by rw [HLm.out]; exact hjlt)
              have hget := mgL_get (W := W) (H := H) (ms := ms) hqW hpl
              rw [← Hn.out, hjq] at hget
              rw [hget, HLm.out] at hset
              rw [hset] at hput
              have HNx := Lib.hid (hJ.out.drew.mark0 hput.1 (by simp [zeros, HLm.out]; omega) hput.2)
              have hne1 : ¬ b = g := by have := HG3.out; omega
              have hne2 : ¬ bi = g := by have := HG3.out; omega
              have hne3 : ¬ b3 = g := hzb
              have rm : (j : Int).tmod (n : Int) = (p : Int) := by rw [hp, Int.tmod_eq_emod_of_nonneg (by omega)]; exact (Int.natCast_emod j n).symm
              have rd : (j : Int).tdiv (n : Int) = (q : Int) := by rw [hq]; rfl
              have hPz : ((n : Int) == 0) = false := beq_eq_false_iff_ne.2 (by omega)
              have wq : IntKind.i64.wrap (q : Int) = (q : Int) := IntWalk.i64_in _ (by omega)
              have hqI : (q : Int) < ((imv ms p).ds.length : Int) := by omega
              have hpI : (p : Int) < (n : Int) := by omega
              clear hci2 hput hlj hown hset hget hp hq hJ x0 x1 x2 x3 hri hci hb'
              generalize (imv ms p).ds.getD q 0 = y at *
              generalize (imv ms p).ds.length = m at *
              generalize (List.getD ((mgL W H ms).take j ++ zeros (N - j)) j 0) = z at *
              go_wp2
              go_region
              all_goals
                (try go_wp2)
                go_roundw
                case rel => exact ⟨j + 1, by omega, by go_num, HNx⟩
                case measure => simp [intOf]; omega
            · have hjn : j = N := by omega
              have hE1 : (mgL W H ms).take j ++ zeros (N - j) = mgL W H ms := by rw [hjn, Nat.sub_self, List.take_of_length_le (by rw [HLm.out]; exact Nat.le_refl _)]; simp [zeros]
              have hG := hJ.out
              rw [hE1] at hG
              obtain ⟨r0, r1, r2, r3⟩ := hG.b1_4
              have f0 := hG.f1 0
              have f1 := hG.f1 1
              have f2 := hG.f1 2
              have f3 := hG.f1 3
              have HE := Lib.hid (hG.e1_4 (.int .i64 (W : Int)) (.int .i64 (H : Int)) (.int .i64 (n : Int)) (.slice (some ⟨g, 0, none⟩) N c2))
              clear hJ hG hE1 hlj
              go_wp2
              exact bodyPost_ret (v := .tuple #[.agg #[.int .i64 (W : Int), .int .i64 (H : Int), .int .i64 (n : Int), .slice (some ⟨g, 0, none⟩) N c2], .bool true]) (by simp [results, Try.results15, go_sem, r0, r1, r2, r3]) rfl (by rw [← HX0.out, ← HY0.out]; exact MgR.yes HOk.out (HE.out.2 _ (List.Mem.head _)) HE.out.1)
end Go.Proofs.Ytfeldhhbnhdodaa
