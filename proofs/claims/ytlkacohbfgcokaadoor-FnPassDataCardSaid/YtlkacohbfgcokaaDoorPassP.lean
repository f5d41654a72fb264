/- Contract of PassSize in the program: under the table that it lays. -/
import Derived.Test.YtlkacohbfgcokaaDoorPassI
import Derived.Test.YtlkacohbfgcokaaDoorLevel
import Derived.Test.YtlkacohbfgcokaaDoorBx
import Derived.Deep.RegionHeld3
namespace Go.Proofs.YtlkacohbfgcokaaDoor
open Go.RowKit
set_option linter.unusedSimpArgs false
set_option linter.unusedVariables false
set_option maxRecDepth 20000

theorem bx4 {u : World} {b : Nat} {T : TypeId} {c0 c1 c2 c3 : Value} (h : Bx u b T #[c0, c1, c2, c3]) : u.cell? ⟨b, 0, none⟩ = some c0 ∧ u.cell? ⟨b, 1, none⟩ = some c1 ∧ u.cell? ⟨b, 2, none⟩ = some c2 ∧ u.cell? ⟨b, 3, none⟩ = some c3 :=
  ⟨cell_of_row u b 0 _ _ _ h, cell_of_row u b 1 _ _ _ h, cell_of_row u b 2 _ _ _ h, cell_of_row u b 3 _ _ _ h⟩
set_option maxHeartbeats 16000000 in
theorem i_PassSize (W H p : Int) (w : World) (hP : Pats w) : Calls Tryd.prog 13 #[.int .i64 W, .int .i64 H, .int .i64 p] w fun e w' => e = .returned (.tuple #[.int .i64 (psW W H p), .int .i64 (psH W H p)]) ∧ Below w.heap.size w w' := by
  have HP := Lib.hid hP
  clear hP
  cases h1 : decide (1 ≤ W ∧ W ≤ 16)
  · have HE : Hid (psW W H p = -1 ∧ psH W H p = -1) := Lib.hid (by simp only [psW, psH, pok, h1, Bool.false_and]; exact ⟨rfl, rfl⟩)
    go_enter Tryd.func13, Tryd.ntmps13
    go_wp2_with fail
    refine (iRng_any W 1 16 _).mono ?_
    rintro e w1 ⟨rfl, rfl⟩
    rw [h1]
    go_wp2
    exact bodyPost_ret (v := .tuple #[.int .i64 (-1), .int .i64 (-1)]) (by simp [results, Tryd.results13, go_sem]) rfl ⟨by rw [HE.out.1, HE.out.2], Below.refl _ _⟩
  · cases h2 : decide (1 ≤ H ∧ H ≤ 16)
    · have HE : Hid (psW W H p = -1 ∧ psH W H p = -1) := Lib.hid (by simp only [psW, psH, pok, h2, Bool.false_and, Bool.and_false]; exact ⟨rfl, rfl⟩)
      go_enter Tryd.func13, Tryd.ntmps13
      go_wp2_with fail
      refine (iRng_any W 1 16 _).mono ?_
      rintro e w1 ⟨rfl, rfl⟩
      rw [h1]
      go_wp2_with fail
      refine (iRng_any H 1 16 _).mono ?_
      rintro e w1 ⟨rfl, rfl⟩
      rw [h2]
      go_wp2
      exact bodyPost_ret (v := .tuple #[.int .i64 (-1), .int .i64 (-1)]) (by simp [results, Tryd.results13, go_sem]) rfl ⟨by rw [HE.out.1, HE.out.2], Below.refl _ _⟩
    · cases h3 : decide (0 ≤ p ∧ p ≤ 6)
      · have HE : Hid (psW W H p = -1 ∧ psH W H p = -1) := Lib.hid (by simp only [psW, psH, pok, h3, Bool.and_false]; exact ⟨rfl, rfl⟩)
        go_enter Tryd.func13, Tryd.ntmps13
        go_wp2_with fail
        refine (iRng_any W 1 16 _).mono ?_
        rintro e w1 ⟨rfl, rfl⟩
        rw [h1]
        go_wp2_with fail
        refine (iRng_any H 1 16 _).mono ?_
        rintro e w1 ⟨rfl, rfl⟩
        rw [h2]
        go_wp2_with fail
        refine (i_validPass p _).mono ?_
        rintro e w1 ⟨rfl, rfl⟩
        rw [h3]
        go_wp2
        exact bodyPost_ret (v := .tuple #[.int .i64 (-1), .int .i64 (-1)]) (by simp [results, Tryd.results13, go_sem]) rfl ⟨by rw [HE.out.1, HE.out.2], Below.refl _ _⟩
      · have hok : pok W H p = true := by unfold pok; rw [h1, h2, h3]; rfl
        have hW := of_decide_eq_true h1
        have hH := of_decide_eq_true h2
        obtain ⟨k, rfl⟩ := Int.eq_ofNat_of_zero_le (of_decide_eq_true h3).1
        have hk : k ≤ 6 := by have := (of_decide_eq_true h3).2; omega
        obtain ⟨⟨hx0, hx1, hx2⟩, hy0, hy1, hy2⟩ := pass_bd k hk
        obtain ⟨q0, q1, q2, q3⟩ := HP.out k hk
        rw [Nat.mul_comm 4 k] at q0 q1 q2 q3
        have HE : Hid (psW W H (k : Int) = pcnt W (psx k) (pdx k) ∧ psH W H (k : Int) = pcnt H (psy k) (pdy k)) := Lib.hid (by unfold psW psH; rw [if_pos hok, if_pos hok]; exact ⟨rfl, rfl⟩)
        obtain ⟨u, hu⟩ : ∃ u, u = w.alloc (.cells #[.int .i64 (psx k), .int .i64 (pdx k), .int .i64 (psy k), .int .i64 (pdy k)] 65) := ⟨_, rfl⟩
        obtain ⟨b8, hb8⟩ : ∃ b, b = w.heap.size := ⟨_, rfl⟩
        have HXd : Hid (Bx u.drew b8 65 #[.int .i64 (psx k), .int .i64 (pdx k), .int .i64 (psy k), .int .i64 (pdy k)]) := Lib.hid (by rw [hu, hb8]; exact Bx.new w _ _)
        have HBd : Hid (Below w.heap.size w u.drew) := Lib.hid (by rw [hu]; exact ((Below.refl _ _).alloc (Nat.le_refl _) _).drew)
        have l8 : b8 < u.heap.size := by rw [hu, hb8]; simp
        have HU := Lib.hid hu
        have Hb8 := Lib.hid hb8
        clear hu hb8 hok
        go_enter Tryd.func13, Tryd.ntmps13
        go_wp2_with fail
        refine (iRng_any W 1 16 _).mono ?_
        rintro e w1 ⟨rfl, rfl⟩
        rw [h1]
        go_wp2_with fail
        refine (iRng_any H 1 16 _).mono ?_
        rintro e w1 ⟨rfl, rfl⟩
        rw [h2]
        go_wp2_with fail
        refine (i_validPass (k : Int) _).mono ?_
        rintro e w1 ⟨rfl, rfl⟩
        rw [h3]
        clear h1 h2 h3
        go_upto_region 4 with fail
        rw [← HU.out, ← Hb8.out]
        clear HU Hb8 q0 q1 q2 q3
        refine wp_region_held_drew (S := (fun w' => w'.cell? ⟨b8, 0, none⟩ = some (.int .i64 (psx k)) ∧ w'.cell? ⟨b8, 1, none⟩ = some (.int .i64 (pdx k)) ∧ w'.cell? ⟨b8, 2, none⟩ = some (.int .i64 (psy k)) ∧ w'.cell? ⟨b8, 3, none⟩ = some (.int .i64 (pdy k)))) (by kernel_rfl) (by exact bx4 HXd.out) (fun hHeld => ?_)
        refine' wpAnyH_take (i := 0) (oi := _) (v := _) ?hi1 (by kernel_rfl) (by kernel_rfl) (by kernel_rfl) ?hq1 (Or.inl ⟨?hw1, ?hy1⟩) (by assumption) ?rest1
        case hi1 => (simp only [List.getElem?_toArray, List.getElem?_cons_succ, List.getElem?_cons_zero]; rfl)
        case hq1 => exact fun _ _ _ h => h
        case hw1 => rfl
        case hy1 => (intro wq hSw; (try dsimp only at hSw); go_simp; (try with_reducible rfl))
        (try simp only [Act.put, List.setIfInBounds_toArray, List.set_cons_zero, List.set_cons_succ])
        refine' wpAnyH_take (i := 1) (oi := _) (v := _) ?hi2 (by kernel_rfl) (by kernel_rfl) (by kernel_rfl) ?hq2 (Or.inl ⟨?hw2, ?hy2⟩) (by assumption) ?rest2
        case hi2 => (simp only [List.getElem?_toArray, List.getElem?_cons_succ, List.getElem?_cons_zero]; rfl)
        case hq2 => exact fun _ _ _ h => h
        case hw2 => rfl
        case hy2 => (intro wq hSw; (try dsimp only at hSw); go_simp; (try with_reducible rfl))
        (try simp only [Act.put, List.setIfInBounds_toArray, List.set_cons_zero, List.set_cons_succ])
        refine' wpAnyH_take (i := 2) (oi := _) (v := _) ?hi3 (by kernel_rfl) (by kernel_rfl) (by kernel_rfl) ?hq3 (Or.inl ⟨?hw3, ?hy3⟩) (by assumption) ?rest3
        case hi3 => (simp only [List.getElem?_toArray, List.getElem?_cons_succ, List.getElem?_cons_zero]; rfl)
        case hq3 => exact fun _ _ _ h => h
        case hw3 => rfl
        case hy3 => (intro wq hSw; (try dsimp only at hSw); go_simp; (try with_reducible rfl))
        (try simp only [Act.put, List.setIfInBounds_toArray, List.set_cons_zero, List.set_cons_succ])
        refine' wpAnyH_take (i := 4) (oi := _) (v := _) ?hi4 (by kernel_rfl) (by kernel_rfl) (by kernel_rfl) ?hq4 (Or.inl ⟨?hw4, ?hy4⟩) (by assumption) ?rest4
        case hi4 => (simp only [List.getElem?_toArray, List.getElem?_cons_succ, List.getElem?_cons_zero]; rfl)
        case hq4 => exact fun _ _ _ h => h
        case hw4 => rfl
        case hy4 => (intro wq hSw; (try dsimp only at hSw); go_simp; (try with_reducible rfl))
        (try simp only [Act.put, List.setIfInBounds_toArray, List.set_cons_zero, List.set_cons_succ])
        refine' wpAnyH_take (i := 5) (oi := _) (v := _) ?hi5 (by kernel_rfl) (by kernel_rfl) (by kernel_rfl) ?hq5 (Or.inl ⟨?hw5, ?hy5⟩) (by assumption) ?rest5
        case hi5 => (simp only [List.getElem?_toArray, List.getElem?_cons_succ, List.getElem?_cons_zero]; rfl)
        case hq5 => exact fun _ _ _ h => h
        case hw5 => rfl
        case hy5 => (intro wq hSw; (try dsimp only at hSw); go_simp; (try with_reducible rfl))
        (try simp only [Act.put, List.setIfInBounds_toArray, List.set_cons_zero, List.set_cons_succ])
        refine' wpAnyH_take (i := 6) (oi := _) (v := _) ?hi6 (by kernel_rfl) (by kernel_rfl) (by kernel_rfl) ?hq6 (Or.inl ⟨?hw6, ?hy6⟩) (by assumption) ?rest6
        case hi6 => (simp only [List.getElem?_toArray, List.getElem?_cons_succ, List.getElem?_cons_zero]; rfl)
        case hq6 => exact fun _ _ _ h => h
        case hw6 => rfl
        case hy6 => (intro wq hSw; (try dsimp only at hSw); go_simp; (try with_reducible rfl))
        (try simp only [Act.put, List.setIfInBounds_toArray, List.set_cons_zero, List.set_cons_succ])
        refine wpAnyH_ready (rs := [3]) (by kernel_rfl) (by simp) ?_
        refine' AllReadyH.cons (o := _) ?hi7 (fun K hK => ?rest7) AllReadyH.nil
        case hi7 => (simp only [List.getElem?_toArray, List.getElem?_cons_succ, List.getElem?_cons_zero]; rfl)
        go_simp
        go_at_call 44
        refine (i_count W (psx k) (pdx k) hW.1 hW.2 hx0 hx1 hx2 u.drew).mono ?_
        rintro e w5 ⟨rfl, hb⟩
        have HX5 := Lib.hid (show Bx w5 b8 65 #[.int .i64 (psx k), .int .i64 (pdx k), .int .i64 (psy k), .int .i64 (pdy k)] from (hb.block b8 HXd.out.lt).trans HXd.out)
        have HB5 := Lib.hid (HBd.out.trans (hb.mono HBd.out.size))
        clear hb HXd HBd
        go_wp2_with fail
        refine hK.out _ _ (by (try dsimp only); exact bx4 HX5.out) (fun hHeld => ?_)
        clear hK K
        (try simp only [Act.put, List.setIfInBounds_toArray, List.set_cons_zero, List.set_cons_succ])
        refine wpAnyH_ready (rs := [7]) (by kernel_rfl) (by simp) ?_
        refine' AllReadyH.cons (o := _) ?hi8 (fun K hK => ?rest8) AllReadyH.nil
        case hi8 => (simp only [List.getElem?_toArray, List.getElem?_cons_succ, List.getElem?_cons_zero]; rfl)
        go_simp
        go_at_call 44
        refine (i_count H (psy k) (pdy k) hH.1 hH.2 hy0 hy1 hy2 w5).mono ?_
        rintro e w6 ⟨rfl, hb⟩
        have HX6 := Lib.hid (show Bx w6 b8 65 #[.int .i64 (psx k), .int .i64 (pdx k), .int .i64 (psy k), .int .i64 (pdy k)] from (hb.block b8 HX5.out.lt).trans HX5.out)
        have HB6 := Lib.hid (HB5.out.trans (hb.mono HB5.out.size))
        clear hb HX5 HB5
        go_wp2_with fail
        refine hK.out _ _ (by (try dsimp only); exact bx4 HX6.out) (fun hHeld => ?_)
        clear hK K
        (try simp only [Act.put, List.setIfInBounds_toArray, List.set_cons_zero, List.set_cons_succ])
        refine' wpAnyH_take (i := 8) (oi := _) (v := _) ?hi9 (by kernel_rfl) (by kernel_rfl) (by kernel_rfl) ?hq9 (Or.inl ⟨?hw9, ?hy9⟩) (by assumption) ?rest9
        case hi9 => (simp only [List.getElem?_toArray, List.getElem?_cons_succ, List.getElem?_cons_zero]; rfl)
        case hq9 => exact fun _ _ _ h => h
        case hw9 => rfl
        case hy9 => (intro wq hSw; (try dsimp only at hSw); go_simp; (try with_reducible rfl))
        (try simp only [Act.put, List.setIfInBounds_toArray, List.set_cons_zero, List.set_cons_succ])
        refine' wpAnyH_take (i := 9) (oi := _) (v := _) ?hi10 (by kernel_rfl) (by kernel_rfl) (by kernel_rfl) ?hq10 (Or.inl ⟨?hw10, ?hy10⟩) (by assumption) ?rest10
        case hi10 => (simp only [List.getElem?_toArray, List.getElem?_cons_succ, List.getElem?_cons_zero]; rfl)
        case hq10 => exact fun _ _ _ h => h
        case hw10 => rfl
        case hy10 => (intro wq hSw; (try dsimp only at hSw); go_simp; (try with_reducible rfl))
        (try simp only [Act.put, List.setIfInBounds_toArray, List.set_cons_zero, List.set_cons_succ])
        refine wpAnyH_done (by kernel_rfl) ?_ _
        go_wp2
        exact bodyPost_ret (v := .tuple #[.int .i64 (pcnt W (psx k) (pdx k)), .int .i64 (pcnt H (psy k) (pdy k))]) (by simp [results, Tryd.results13, go_sem]) rfl ⟨by rw [HE.out.1, HE.out.2], HB6.out⟩
end Go.Proofs.YtlkacohbfgcokaaDoor
