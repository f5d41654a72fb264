/- ConvolveImage of the program. -/
import Derived.Test.YtjgcondkoaegnaaCvlM
import Derived.Test.YtjgcondkoaegnaaScaQ
import Derived.Test.YtjgcondkoaegnaaKnl
namespace Go.Proofs.Ytjgcondkoaegnaa
open Go.RowKit Go.Shelf
set_option linter.unusedSimpArgs false
set_option linter.unusedVariables false
set_option maxRecDepth 20000

theorem wr_natC {n : Nat} (h : n ≤ 100000) : IntKind.i64.wrap (n : Int) = (n : Int) := IntWalk.i64_in _ (by omega)
set_option maxHeartbeats 2000000 in
theorem iLim_any (n lo hi : Int) (w : World) : Calls Try.prog 36 #[.int .i64 n, .int .i64 lo, .int .i64 hi] w fun e w' => e = .returned (.int .i64 (lim n lo hi)) ∧ w = w' := by
  by_cases k1 : n < lo
  · by_cases k2 : lo ≤ hi
    all_goals
      go_enter Try.func36, Try.ntmps36
      go_wp2
      all_goals
        go_ret
        exact ⟨ret_int (by unfold lim; omega), rfl⟩
  · by_cases k2 : n ≤ hi
    all_goals
      go_enter Try.func36, Try.ntmps36
      go_wp2
      all_goals
        go_ret
        exact ⟨ret_int (by unfold lim; omega), rfl⟩
set_option maxHeartbeats 2000000 in
theorem iSide_any (r S : Nat) (hS : 2 * r + 1 = S) (A : Option Addr) (c N : Nat) (D : Int) (hr2 : r ≤ 2) (w : World) : Calls Try.prog 63 #[.agg #[.int .i64 (r : Int), .slice A N c, .int .i64 D]] w fun e w' => e = .returned (.int .i64 (S : Int)) ∧ Below w.heap.size w w' := by
  have e1 : (2 : Int) * (r : Int) + 1 = (S : Int) := by omega
  have w1 : IntKind.i64.wrap (2 * (r : Int)) = 2 * (r : Int) := IntWalk.i64_in _ (by omega)
  have w2 : IntKind.i64.wrap (S : Int) = (S : Int) := IntWalk.i64_in _ (by omega)
  have HB := Lib.hid ((Below.refl w.heap.size w).alloc (Nat.le_refl _) (.cells #[.int .i64 (r : Int), .slice A N c, .int .i64 D] 32))
  clear hS
  go_enter Try.func63, Try.ntmps63
  go_wp2
  go_ret
  exact ⟨rfl, HB.out⟩
set_option maxHeartbeats 8000000 in
theorem iKv_any (R : Int) (A : Option Addr) (c : Nat) (ks : List Int) (N : Nat) (hN : N = ks.length) (D : Int) (w : World) (hx : Rds .i64 w w.heap.size A ks) (hl : ks.length ≤ 2000000) :
    Calls Try.prog 31 #[.agg #[.int .i64 R, .slice A N c, .int .i64 D]] w fun e w' => e = .returned (.bool (knOk R ks D)) ∧ Below w.heap.size w w' := by
  have HX := Lib.hid hx
  have HV : Hid (knOk R ks D = (decide (0 ≤ R ∧ R ≤ 2) && (decide ((ks.length : Int) = (2 * R + 1) * (2 * R + 1)) && (allB (-99) 99 ks && decide (1 ≤ D ∧ D ≤ 999))))) := Lib.hid rfl
  have S0 : GS w (w.alloc (.cells #[.int .i64 R, .slice A N c, .int .i64 D] 32)) [] [⟨w.heap.size, 32, #[.int .i64 R, .slice A N c, .int .i64 D]⟩] := GS.box' (GS.start w) _ _ w.heap.size rfl
  have HN := Lib.hid hN
  have hl2 : N ≤ 2000000 := by omega
  clear hx hl hN
  by_cases h1 : 0 ≤ R ∧ R ≤ 2
  · obtain ⟨r, rfl⟩ := Int.eq_ofNat_of_zero_le h1.1
    have hr2 : r ≤ 2 := by omega
    by_cases h2 : 1 ≤ D ∧ D ≤ 999
    · obtain ⟨q, hq⟩ : ∃ q, q = (2 * r + 1) * (2 * r + 1) := ⟨_, rfl⟩
      have hq25 : q ≤ 25 := by rw [hq]; exact Nat.mul_le_mul (show 2 * r + 1 ≤ 5 by omega) (show 2 * r + 1 ≤ 5 by omega)
      have hqm : ((2 * r + 1 : Nat) : Int) * ((2 * r + 1 : Nat) : Int) = (q : Int) := by rw [hq]; exact (Int.natCast_mul _ _).symm
      have hqw : IntKind.i64.wrap (q : Int) = (q : Int) := IntWalk.i64_in _ (by omega)
      have HV2 : Hid (knOk (r : Int) ks D = (decide (ks.length = q) && allB (-99) 99 ks)) := Lib.hid (by
        rw [HV.out, decide_eq_true h1, decide_eq_true h2, Bool.true_and, Bool.and_true]
        congr 1
        rw [show (2 * (r : Int) + 1) = ((2 * r + 1 : Nat) : Int) by omega, hqm]
        exact decide_eq_decide.2 ⟨fun h => by omega, fun h => by omega⟩)
      clear HV hq
      generalize hS : (2 * r + 1) = sd at hqm
      have HSd := Lib.hid hS
      clear hS
      go_enter Try.func31, Try.ntmps31
      go_upto_region 1 with fail
      generalize w.alloc (.cells #[.int .i64 (r : Int), .slice A N c, .int .i64 D] 32) = u0 at *
      have HC := Lib.hid S0.drew
      clear S0
      refine wp_region_held_drew (S := (fun w' => w'.cell? ⟨w.heap.size, 0, none⟩ = some (.int .i64 (r : Int)) ∧ w'.cell? ⟨w.heap.size, 1, none⟩ = some (.slice A N c) ∧ w'.cell? ⟨w.heap.size, 2, none⟩ = some (.int .i64 D))) (by kernel_rfl) (by exact ⟨HC.out.b0_3.1, HC.out.b0_3.2.1, HC.out.b0_3.2.2⟩) (fun hHeld => ?_)
      refine' wpAnyH_take (i := 0) (oi := _) (v := _) ?hi43 (by kernel_rfl) (by kernel_rfl) (by kernel_rfl) ?hq43 (Or.inl ⟨?hw43, ?hy43⟩) (by assumption) ?rest43
      case hi43 => (simp only [List.getElem?_toArray, List.getElem?_cons_succ, List.getElem?_cons_zero]; rfl)
      case hq43 => exact fun _ _ _ h => h
      case hw43 => rfl
      case hy43 => (intro wq hSw; (try dsimp only at hSw); go_simp; (try with_reducible rfl))
      (try simp only [Act.put, List.setIfInBounds_toArray, List.set_cons_zero, List.set_cons_succ])
      refine' wpAnyH_take (i := 1) (oi := _) (v := _) ?hi44 (by kernel_rfl) (by kernel_rfl) (by kernel_rfl) ?hq44 (Or.inl ⟨?hw44, ?hy44⟩) (by assumption) ?rest44
      case hi44 => (simp only [List.getElem?_toArray, List.getElem?_cons_succ, List.getElem?_cons_zero]; rfl)
      case hq44 => exact fun _ _ _ h => h
      case hw44 => rfl
      case hy44 => (intro wq hSw; (try dsimp only at hSw); go_simp; (try with_reducible rfl))
      (try simp only [Act.put, List.setIfInBounds_toArray, List.set_cons_zero, List.set_cons_succ])
      refine wpAnyH_ready (rs := [2]) (by kernel_rfl) (by simp) ?_
      refine' AllReadyH.cons (o := _) ?hi45 (fun K hK => ?rest45) AllReadyH.nil
      case hi45 => (simp only [List.getElem?_toArray, List.getElem?_cons_succ, List.getElem?_cons_zero]; rfl)
      go_simp
      go_at_call 56
      refine (iIn_any (r : Int) 0 2 _).mono ?_
      rintro e wa ⟨rfl, rfl⟩
      rw [decide_eq_true h1]
      refine hK.out _ _ (by (try dsimp only); exact ⟨HC.out.b0_3.1, HC.out.b0_3.2.1, HC.out.b0_3.2.2⟩) (fun hHeld => ?_)
      clear hK K
      (try simp only [Act.put, List.setIfInBounds_toArray, List.set_cons_zero, List.set_cons_succ])
      refine' wpAnyH_take (i := 3) (oi := _) (v := _) ?hi46 (by kernel_rfl) (by kernel_rfl) (by kernel_rfl) ?hq46 (Or.inl ⟨?hw46, ?hy46⟩) (by assumption) ?rest46
      case hi46 => (simp only [List.getElem?_toArray, List.getElem?_cons_succ, List.getElem?_cons_zero]; rfl)
      case hq46 => exact fun _ _ _ h => h
      case hw46 => rfl
      case hy46 => (intro wq hSw; (try dsimp only at hSw); go_simp; (try with_reducible rfl))
      (try simp only [Act.put, List.setIfInBounds_toArray, List.set_cons_zero, List.set_cons_succ])
      refine' wpAnyH_take (i := 4) (oi := _) (v := _) ?hi47 (by kernel_rfl) (by kernel_rfl) (by kernel_rfl) ?hq47 (Or.inl ⟨?hw47, ?hy47⟩) (by assumption) ?rest47
      case hi47 => (simp only [List.getElem?_toArray, List.getElem?_cons_succ, List.getElem?_cons_zero]; rfl)
      case hq47 => exact fun _ _ _ h => h
      case hw47 => rfl
      case hy47 => (intro wq hSw; (try dsimp only at hSw); go_simp; (try with_reducible rfl))
      (try simp only [Act.put, List.setIfInBounds_toArray, List.set_cons_zero, List.set_cons_succ])
      refine' wpAnyH_take (i := 5) (oi := _) (v := _) ?hi48 (by kernel_rfl) (by kernel_rfl) (by kernel_rfl) ?hq48 (Or.inl ⟨?hw48, ?hy48⟩) (by assumption) ?rest48
      case hi48 => (simp only [List.getElem?_toArray, List.getElem?_cons_succ, List.getElem?_cons_zero]; rfl)
      case hq48 => exact fun _ _ _ h => h
      case hw48 => rfl
      case hy48 => (intro wq hSw; (try dsimp only at hSw); go_simp; (try with_reducible rfl))
      (try simp only [Act.put, List.setIfInBounds_toArray, List.set_cons_zero, List.set_cons_succ])
      refine' wpAnyH_take (i := 6) (oi := _) (v := _) ?hi49 (by kernel_rfl) (by kernel_rfl) (by kernel_rfl) ?hq49 (Or.inl ⟨?hw49, ?hy49⟩) (by assumption) ?rest49
      case hi49 => (simp only [List.getElem?_toArray, List.getElem?_cons_succ, List.getElem?_cons_zero]; rfl)
      case hq49 => exact fun _ _ _ h => h
      case hw49 => rfl
      case hy49 => (intro wq hSw; (try dsimp only at hSw); go_simp; (try with_reducible rfl))
      (try simp only [Act.put, List.setIfInBounds_toArray, List.set_cons_zero, List.set_cons_succ])
      refine wpAnyH_ready (rs := [7]) (by kernel_rfl) (by simp) ?_
      refine' AllReadyH.cons (o := _) ?hi50 (fun K hK => ?rest50) AllReadyH.nil
      case hi50 => (simp only [List.getElem?_toArray, List.getElem?_cons_succ, List.getElem?_cons_zero]; rfl)
      go_simp
      go_at_call 56
      refine (iIn_any D 1 999 _).mono ?_
      rintro e wb ⟨rfl, rfl⟩
      rw [decide_eq_true h2]
      refine hK.out _ _ (by (try dsimp only); exact ⟨HC.out.b0_3.1, HC.out.b0_3.2.1, HC.out.b0_3.2.2⟩) (fun hHeld => ?_)
      clear hK K
      (try simp only [Act.put, List.setIfInBounds_toArray, List.set_cons_zero, List.set_cons_succ])
      refine' wpAnyH_take (i := 8) (oi := _) (v := _) ?hi51 (by kernel_rfl) (by kernel_rfl) (by kernel_rfl) ?hq51 (Or.inl ⟨?hw51, ?hy51⟩) (by assumption) ?rest51
      case hi51 => (simp only [List.getElem?_toArray, List.getElem?_cons_succ, List.getElem?_cons_zero]; rfl)
      case hq51 => exact fun _ _ _ h => h
      case hw51 => rfl
      case hy51 => (intro wq hSw; (try dsimp only at hSw); go_simp; (try with_reducible rfl))
      (try simp only [Act.put, List.setIfInBounds_toArray, List.set_cons_zero, List.set_cons_succ])
      refine' wpAnyH_take (i := 9) (oi := _) (v := _) ?hi52 (by kernel_rfl) (by kernel_rfl) (by kernel_rfl) ?hq52 (Or.inl ⟨?hw52, ?hy52⟩) (by assumption) ?rest52
      case hi52 => (simp only [List.getElem?_toArray, List.getElem?_cons_succ, List.getElem?_cons_zero]; rfl)
      case hq52 => exact fun _ _ _ h => h
      case hw52 => rfl
      case hy52 => (intro wq hSw; (try dsimp only at hSw); go_simp; (try with_reducible rfl))
      (try simp only [Act.put, List.setIfInBounds_toArray, List.set_cons_zero, List.set_cons_succ])
      refine' wpAnyH_take (i := 10) (oi := _) (v := _) ?hi53 (by kernel_rfl) (by kernel_rfl) (by kernel_rfl) ?hq53 (Or.inl ⟨?hw53, ?hy53⟩) (by assumption) ?rest53
      case hi53 => (simp only [List.getElem?_toArray, List.getElem?_cons_succ, List.getElem?_cons_zero]; rfl)
      case hq53 => exact fun _ _ _ h => h
      case hw53 => rfl
      case hy53 => (intro wq hSw; (try dsimp only at hSw); go_simp; (try with_reducible rfl))
      (try simp only [Act.put, List.setIfInBounds_toArray, List.set_cons_zero, List.set_cons_succ])
      refine' wpAnyH_take (i := 11) (oi := _) (v := _) ?hi54 (by kernel_rfl) (by kernel_rfl) (by kernel_rfl) ?hq54 (Or.inl ⟨?hw54, ?hy54⟩) (by assumption) ?rest54
      case hi54 => (simp only [List.getElem?_toArray, List.getElem?_cons_succ, List.getElem?_cons_zero]; rfl)
      case hq54 => exact fun _ _ _ h => h
      case hw54 => rfl
      case hy54 => (intro wq hSw; (try dsimp only at hSw); go_simp; (try with_reducible rfl))
      (try simp only [Act.put, List.setIfInBounds_toArray, List.set_cons_zero, List.set_cons_succ])
      refine' wpAnyH_take (i := 12) (oi := _) (v := _) ?hi55 (by kernel_rfl) (by kernel_rfl) (by kernel_rfl) ?hq55 (Or.inl ⟨?hw55, ?hy55⟩) (by assumption) ?rest55
      case hi55 => (simp only [List.getElem?_toArray, List.getElem?_cons_succ, List.getElem?_cons_zero]; rfl)
      case hq55 => exact fun _ _ _ h => h
      case hw55 => rfl
      case hy55 => (intro wq hSw; (try dsimp only at hSw); go_simp; (try with_reducible rfl))
      (try simp only [Act.put, List.setIfInBounds_toArray, List.set_cons_zero, List.set_cons_succ])
      refine' wpAnyH_take (i := 13) (oi := _) (v := _) ?hi56 (by kernel_rfl) (by kernel_rfl) (by kernel_rfl) ?hq56 (Or.inl ⟨?hw56, ?hy56⟩) (by assumption) ?rest56
      case hi56 => (simp only [List.getElem?_toArray, List.getElem?_cons_succ, List.getElem?_cons_zero]; rfl)
      case hq56 => exact fun _ _ _ h => h
      case hw56 => rfl
      case hy56 => (intro wq hSw; (try dsimp only at hSw); go_simp; (try with_reducible rfl))
      (try simp only [Act.put, List.setIfInBounds_toArray, List.set_cons_zero, List.set_cons_succ])
      refine' wpAnyH_take (i := 14) (oi := _) (v := _) ?hi57 (by kernel_rfl) (by kernel_rfl) (by kernel_rfl) ?hq57 (Or.inl ⟨?hw57, ?hy57⟩) (by assumption) ?rest57
      case hi57 => (simp only [List.getElem?_toArray, List.getElem?_cons_succ, List.getElem?_cons_zero]; rfl)
      case hq57 => exact fun _ _ _ h => h
      case hw57 => rfl
      case hy57 => (intro wq hSw; (try dsimp only at hSw); go_simp; (try with_reducible rfl))
      (try simp only [Act.put, List.setIfInBounds_toArray, List.set_cons_zero, List.set_cons_succ])
      refine' wpAnyH_take (i := 16) (oi := _) (v := _) ?hi58 (by kernel_rfl) (by kernel_rfl) (by kernel_rfl) ?hq58 (Or.inl ⟨?hw58, ?hy58⟩) (by assumption) ?rest58
      case hi58 => (simp only [List.getElem?_toArray, List.getElem?_cons_succ, List.getElem?_cons_zero]; rfl)
      case hq58 => exact fun _ _ _ h => h
      case hw58 => rfl
      case hy58 => (intro wq hSw; (try dsimp only at hSw); go_simp; (try with_reducible rfl))
      (try simp only [Act.put, List.setIfInBounds_toArray, List.set_cons_zero, List.set_cons_succ])
      refine wpAnyH_ready (rs := [15]) (by kernel_rfl) (by simp) ?_
      refine' AllReadyH.cons (o := _) ?hi59 (fun K hK => ?rest59) AllReadyH.nil
      case hi59 => (simp only [List.getElem?_toArray, List.getElem?_cons_succ, List.getElem?_cons_zero]; rfl)
      go_simp
      go_at_call 63
      refine (iSide_any r sd HSd.out A c N D hr2 _).mono ?_
      rintro e wc ⟨rfl, hB⟩
      have HD := Lib.hid (HC.out.call hB)
      clear HC hB
      have HC := HD
      clear HD
      refine hK.out _ _ (by (try dsimp only); exact ⟨HC.out.b0_3.1, HC.out.b0_3.2.1, HC.out.b0_3.2.2⟩) (fun hHeld => ?_)
      clear hK K
      (try simp only [Act.put, List.setIfInBounds_toArray, List.set_cons_zero, List.set_cons_succ])
      refine wpAnyH_ready (rs := [17]) (by kernel_rfl) (by simp) ?_
      refine' AllReadyH.cons (o := _) ?hi60 (fun K hK => ?rest60) AllReadyH.nil
      case hi60 => (simp only [List.getElem?_toArray, List.getElem?_cons_succ, List.getElem?_cons_zero]; rfl)
      go_simp
      go_at_call 63
      refine (iSide_any r sd HSd.out A c N D hr2 _).mono ?_
      rintro e wd ⟨rfl, hB⟩
      have HD := Lib.hid (HC.out.call hB)
      clear HC hB
      have HC := HD
      clear HD
      refine hK.out _ _ (by (try dsimp only); exact ⟨HC.out.b0_3.1, HC.out.b0_3.2.1, HC.out.b0_3.2.2⟩) (fun hHeld => ?_)
      clear hK K
      (try simp only [Act.put, List.setIfInBounds_toArray, List.set_cons_zero, List.set_cons_succ])
      refine' wpAnyH_take (i := 18) (oi := _) (v := _) ?hi61 (by kernel_rfl) (by kernel_rfl) (by kernel_rfl) ?hq61 (Or.inl ⟨?hw61, ?hy61⟩) (by assumption) ?rest61
      case hi61 => (simp only [List.getElem?_toArray, List.getElem?_cons_succ, List.getElem?_cons_zero]; rfl)
      case hq61 => exact fun _ _ _ h => h
      case hw61 => rfl
      case hy61 => (intro wq hSw; (try dsimp only at hSw); go_simp; (try with_reducible rfl))
      (try simp only [Act.put, List.setIfInBounds_toArray, List.set_cons_zero, List.set_cons_succ])
      refine' wpAnyH_take (i := 19) (oi := _) (v := _) ?hi62 (by kernel_rfl) (by kernel_rfl) (by kernel_rfl) ?hq62 (Or.inl ⟨?hw62, ?hy62⟩) (by assumption) ?rest62
      case hi62 => (simp only [List.getElem?_toArray, List.getElem?_cons_succ, List.getElem?_cons_zero]; rfl)
      case hq62 => exact fun _ _ _ h => h
      case hw62 => rfl
      case hy62 => (intro wq hSw; (try dsimp only at hSw); go_simp; (try with_reducible rfl))
      (try simp only [Act.put, List.setIfInBounds_toArray, List.set_cons_zero, List.set_cons_succ])
      refine' wpAnyH_take (i := 20) (oi := _) (v := _) ?hi63 (by kernel_rfl) (by kernel_rfl) (by kernel_rfl) ?hq63 (Or.inl ⟨?hw63, ?hy63⟩) (by assumption) ?rest63
      case hi63 => (simp only [List.getElem?_toArray, List.getElem?_cons_succ, List.getElem?_cons_zero]; rfl)
      case hq63 => exact fun _ _ _ h => h
      case hw63 => rfl
      case hy63 => (intro wq hSw; (try dsimp only at hSw); go_simp; (try with_reducible rfl))
      (try simp only [Act.put, List.setIfInBounds_toArray, List.set_cons_zero, List.set_cons_succ])
      refine wpAnyH_done (by kernel_rfl) ?_ _
      have S1 := HC.out
      clear HC
      obtain ⟨b0, b1, b2⟩ := S1.b0_3
      by_cases h3 : N = q
      · have HA : Hid (knOk (r : Int) ks D = allB (-99) 99 ks) := Lib.hid (by rw [HV2.out, decide_eq_true (show ks.length = q by have := HN.out; omega)]; rfl)
        have HS := Lib.hid S1
        clear HV2 S1
        subst h3
        go_wp2
        simp only [bne_self_eq_false]
        go_loopw [4, 29] (fun v i wr => ∃ k : Nat, k ≤ N ∧ i = .int .i64 (k : Int) ∧ Hid (∀ j, j < k → -99 ≤ ks.getD j 0 ∧ ks.getD j 0 ≤ 99) ∧ Hid (GS w wr [] [⟨w.heap.size, 32, #[.int .i64 (r : Int), .slice A N c, .int .i64 D]⟩])) (fun _ i _ => N - (intOf i).toNat)
        case atStart => exact ⟨0, Nat.zero_le _, rfl, Lib.hid (fun j hj => by omega), HS⟩
        case round =>
          clear HS b0 b1 b2
          obtain ⟨k, hk, rfl, HJ, HS⟩ := hrel
          by_cases hlt : k < N
          · obtain ⟨b, off, rfl, hb, hc⟩ := (HS.out.arg HX.out).cells_ (j := k) (by have := HN.out; omega)
            have hck := hc k (by have := HN.out; omega)
            clear hc hb
            obtain ⟨z, hz⟩ : ∃ z, z = ks.getD k 0 := ⟨_, rfl⟩
            have Hz := Lib.hid hz
            rw [← hz] at hck
            clear hz
            go_wp2_with fail
            refine (iIn_any z (-99) 99 _).mono ?_
            rintro e wz ⟨rfl, rfl⟩
            by_cases hr : -99 ≤ z ∧ z ≤ 99
            · rw [decide_eq_true hr]
              have HJ2 : Hid (∀ j, j < k + 1 → -99 ≤ ks.getD j 0 ∧ ks.getD j 0 ≤ 99) := Lib.hid (fun j hj => by
                by_cases e : j = k
                · subst e; rw [← Hz.out]; exact hr
                · exact HJ.out j (by omega))
              go_wp2
              go_roundw
              case rel => exact ⟨k + 1, by omega, by go_num, HJ2, HS⟩
              case measure => simp [intOf]; omega
            · rw [decide_eq_false hr]
              have HF : Hid (knOk (r : Int) ks D = false) := Lib.hid (by rw [HA.out]; exact allB_no (k := k) (by have := HN.out; omega) (by rw [← Hz.out]; exact hr))
              have HB := Lib.hid HS.out.below
              clear HS
              go_wp2
              go_ret
              exact ⟨ret_bool HF.out.symm, HB.out⟩
          · have HT : Hid (knOk (r : Int) ks D = true) := Lib.hid (by rw [HA.out]; exact allB_yes fun j hj => HJ.out j (by have := HN.out; omega))
            have HB := Lib.hid HS.out.below
            clear HS
            go_wp2
            go_ret
            exact ⟨ret_bool HT.out.symm, HB.out⟩
      · have HF : Hid (knOk (r : Int) ks D = false) := Lib.hid (by rw [HV2.out, decide_eq_false (show ¬ ks.length = q by have := HN.out; omega)]; rfl)
        have hne : ¬ (N : Int) = (q : Int) := by omega
        have HB := Lib.hid S1.below
        clear HV2 S1
        go_wp2
        go_ret
        exact ⟨ret_bool HF.out.symm, HB.out⟩
    · have Hf : Hid (knOk (r : Int) ks D = false) := Lib.hid (by rw [HV.out, decide_eq_false h2, Bool.and_false, Bool.and_false, Bool.and_false])
      clear HV
      go_enter Try.func31, Try.ntmps31
      go_upto_region 1 with fail
      generalize w.alloc (.cells #[.int .i64 (r : Int), .slice A N c, .int .i64 D] 32) = u0 at *
      have HC := Lib.hid S0.drew
      clear S0
      refine wp_region_held_drew (S := (fun w' => w'.cell? ⟨w.heap.size, 0, none⟩ = some (.int .i64 (r : Int)) ∧ w'.cell? ⟨w.heap.size, 1, none⟩ = some (.slice A N c) ∧ w'.cell? ⟨w.heap.size, 2, none⟩ = some (.int .i64 D))) (by kernel_rfl) (by exact ⟨HC.out.b0_3.1, HC.out.b0_3.2.1, HC.out.b0_3.2.2⟩) (fun hHeld => ?_)
      refine' wpAnyH_take (i := 0) (oi := _) (v := _) ?hi22 (by kernel_rfl) (by kernel_rfl) (by kernel_rfl) ?hq22 (Or.inl ⟨?hw22, ?hy22⟩) (by assumption) ?rest22
      case hi22 => (simp only [List.getElem?_toArray, List.getElem?_cons_succ, List.getElem?_cons_zero]; rfl)
      case hq22 => exact fun _ _ _ h => h
      case hw22 => rfl
      case hy22 => (intro wq hSw; (try dsimp only at hSw); go_simp; (try with_reducible rfl))
      (try simp only [Act.put, List.setIfInBounds_toArray, List.set_cons_zero, List.set_cons_succ])
      refine' wpAnyH_take (i := 1) (oi := _) (v := _) ?hi23 (by kernel_rfl) (by kernel_rfl) (by kernel_rfl) ?hq23 (Or.inl ⟨?hw23, ?hy23⟩) (by assumption) ?rest23
      case hi23 => (simp only [List.getElem?_toArray, List.getElem?_cons_succ, List.getElem?_cons_zero]; rfl)
      case hq23 => exact fun _ _ _ h => h
      case hw23 => rfl
      case hy23 => (intro wq hSw; (try dsimp only at hSw); go_simp; (try with_reducible rfl))
      (try simp only [Act.put, List.setIfInBounds_toArray, List.set_cons_zero, List.set_cons_succ])
      refine wpAnyH_ready (rs := [2]) (by kernel_rfl) (by simp) ?_
      refine' AllReadyH.cons (o := _) ?hi24 (fun K hK => ?rest24) AllReadyH.nil
      case hi24 => (simp only [List.getElem?_toArray, List.getElem?_cons_succ, List.getElem?_cons_zero]; rfl)
      go_simp
      go_at_call 56
      refine (iIn_any (r : Int) 0 2 _).mono ?_
      rintro e wa ⟨rfl, rfl⟩
      rw [decide_eq_true h1]
      refine hK.out _ _ (by (try dsimp only); exact ⟨HC.out.b0_3.1, HC.out.b0_3.2.1, HC.out.b0_3.2.2⟩) (fun hHeld => ?_)
      clear hK K
      (try simp only [Act.put, List.setIfInBounds_toArray, List.set_cons_zero, List.set_cons_succ])
      refine' wpAnyH_take (i := 3) (oi := _) (v := _) ?hi25 (by kernel_rfl) (by kernel_rfl) (by kernel_rfl) ?hq25 (Or.inl ⟨?hw25, ?hy25⟩) (by assumption) ?rest25
      case hi25 => (simp only [List.getElem?_toArray, List.getElem?_cons_succ, List.getElem?_cons_zero]; rfl)
      case hq25 => exact fun _ _ _ h => h
      case hw25 => rfl
      case hy25 => (intro wq hSw; (try dsimp only at hSw); go_simp; (try with_reducible rfl))
      (try simp only [Act.put, List.setIfInBounds_toArray, List.set_cons_zero, List.set_cons_succ])
      refine' wpAnyH_take (i := 4) (oi := _) (v := _) ?hi26 (by kernel_rfl) (by kernel_rfl) (by kernel_rfl) ?hq26 (Or.inl ⟨?hw26, ?hy26⟩) (by assumption) ?rest26
      case hi26 => (simp only [List.getElem?_toArray, List.getElem?_cons_succ, List.getElem?_cons_zero]; rfl)
      case hq26 => exact fun _ _ _ h => h
      case hw26 => rfl
      case hy26 => (intro wq hSw; (try dsimp only at hSw); go_simp; (try with_reducible rfl))
      (try simp only [Act.put, List.setIfInBounds_toArray, List.set_cons_zero, List.set_cons_succ])
      refine' wpAnyH_take (i := 5) (oi := _) (v := _) ?hi27 (by kernel_rfl) (by kernel_rfl) (by kernel_rfl) ?hq27 (Or.inl ⟨?hw27, ?hy27⟩) (by assumption) ?rest27
      case hi27 => (simp only [List.getElem?_toArray, List.getElem?_cons_succ, List.getElem?_cons_zero]; rfl)
      case hq27 => exact fun _ _ _ h => h
      case hw27 => rfl
      case hy27 => (intro wq hSw; (try dsimp only at hSw); go_simp; (try with_reducible rfl))
      (try simp only [Act.put, List.setIfInBounds_toArray, List.set_cons_zero, List.set_cons_succ])
      refine' wpAnyH_take (i := 6) (oi := _) (v := _) ?hi28 (by kernel_rfl) (by kernel_rfl) (by kernel_rfl) ?hq28 (Or.inl ⟨?hw28, ?hy28⟩) (by assumption) ?rest28
      case hi28 => (simp only [List.getElem?_toArray, List.getElem?_cons_succ, List.getElem?_cons_zero]; rfl)
      case hq28 => exact fun _ _ _ h => h
      case hw28 => rfl
      case hy28 => (intro wq hSw; (try dsimp only at hSw); go_simp; (try with_reducible rfl))
      (try simp only [Act.put, List.setIfInBounds_toArray, List.set_cons_zero, List.set_cons_succ])
      refine wpAnyH_ready (rs := [7]) (by kernel_rfl) (by simp) ?_
      refine' AllReadyH.cons (o := _) ?hi29 (fun K hK => ?rest29) AllReadyH.nil
      case hi29 => (simp only [List.getElem?_toArray, List.getElem?_cons_succ, List.getElem?_cons_zero]; rfl)
      go_simp
      go_at_call 56
      refine (iIn_any D 1 999 _).mono ?_
      rintro e wb ⟨rfl, rfl⟩
      rw [decide_eq_false h2]
      refine hK.out _ _ (by (try dsimp only); exact ⟨HC.out.b0_3.1, HC.out.b0_3.2.1, HC.out.b0_3.2.2⟩) (fun hHeld => ?_)
      clear hK K
      (try simp only [Act.put, List.setIfInBounds_toArray, List.set_cons_zero, List.set_cons_succ])
      refine' wpAnyH_take (i := 8) (oi := _) (v := _) ?hi30 (by kernel_rfl) (by kernel_rfl) (by kernel_rfl) ?hq30 (Or.inl ⟨?hw30, ?hy30⟩) (by assumption) ?rest30
      case hi30 => (simp only [List.getElem?_toArray, List.getElem?_cons_succ, List.getElem?_cons_zero]; rfl)
      case hq30 => exact fun _ _ _ h => h
      case hw30 => rfl
      case hy30 => (intro wq hSw; (try dsimp only at hSw); go_simp; (try with_reducible rfl))
      (try simp only [Act.put, List.setIfInBounds_toArray, List.set_cons_zero, List.set_cons_succ])
      refine' wpAnyH_take (i := 9) (oi := _) (v := _) ?hi31 (by kernel_rfl) (by kernel_rfl) (by kernel_rfl) ?hq31 (Or.inl ⟨?hw31, ?hy31⟩) (by assumption) ?rest31
      case hi31 => (simp only [List.getElem?_toArray, List.getElem?_cons_succ, List.getElem?_cons_zero]; rfl)
      case hq31 => exact fun _ _ _ h => h
      case hw31 => rfl
      case hy31 => (intro wq hSw; (try dsimp only at hSw); go_simp; (try with_reducible rfl))
      (try simp only [Act.put, List.setIfInBounds_toArray, List.set_cons_zero, List.set_cons_succ])
      refine' wpAnyH_take (i := 10) (oi := _) (v := _) ?hi32 (by kernel_rfl) (by kernel_rfl) (by kernel_rfl) ?hq32 (Or.inl ⟨?hw32, ?hy32⟩) (by assumption) ?rest32
      case hi32 => (simp only [List.getElem?_toArray, List.getElem?_cons_succ, List.getElem?_cons_zero]; rfl)
      case hq32 => exact fun _ _ _ h => h
      case hw32 => rfl
      case hy32 => (intro wq hSw; (try dsimp only at hSw); go_simp; (try with_reducible rfl))
      (try simp only [Act.put, List.setIfInBounds_toArray, List.set_cons_zero, List.set_cons_succ])
      refine' wpAnyH_take (i := 11) (oi := _) (v := undef) ?hi33 (by kernel_rfl) (by kernel_rfl) (by kernel_rfl) ?hq33 (Or.inr ?hw33) (by assumption) ?rest33
      case hi33 => (simp only [List.getElem?_toArray, List.getElem?_cons_succ, List.getElem?_cons_zero]; rfl)
      case hq33 => exact fun _ _ _ h => h
      case hw33 => exact ⟨rfl, rfl⟩
      (try simp only [Act.put, List.setIfInBounds_toArray, List.set_cons_zero, List.set_cons_succ])
      refine' wpAnyH_take (i := 12) (oi := _) (v := undef) ?hi34 (by kernel_rfl) (by kernel_rfl) (by kernel_rfl) ?hq34 (Or.inr ?hw34) (by assumption) ?rest34
      case hi34 => (simp only [List.getElem?_toArray, List.getElem?_cons_succ, List.getElem?_cons_zero]; rfl)
      case hq34 => exact fun _ _ _ h => h
      case hw34 => exact ⟨rfl, rfl⟩
      (try simp only [Act.put, List.setIfInBounds_toArray, List.set_cons_zero, List.set_cons_succ])
      refine' wpAnyH_take (i := 13) (oi := _) (v := undef) ?hi35 (by kernel_rfl) (by kernel_rfl) (by kernel_rfl) ?hq35 (Or.inr ?hw35) (by assumption) ?rest35
      case hi35 => (simp only [List.getElem?_toArray, List.getElem?_cons_succ, List.getElem?_cons_zero]; rfl)
      case hq35 => exact fun _ _ _ h => h
      case hw35 => exact ⟨rfl, rfl⟩
      (try simp only [Act.put, List.setIfInBounds_toArray, List.set_cons_zero, List.set_cons_succ])
      refine' wpAnyH_take (i := 14) (oi := _) (v := undef) ?hi36 (by kernel_rfl) (by kernel_rfl) (by kernel_rfl) ?hq36 (Or.inr ?hw36) (by assumption) ?rest36
      case hi36 => (simp only [List.getElem?_toArray, List.getElem?_cons_succ, List.getElem?_cons_zero]; rfl)
      case hq36 => exact fun _ _ _ h => h
      case hw36 => exact ⟨rfl, rfl⟩
      (try simp only [Act.put, List.setIfInBounds_toArray, List.set_cons_zero, List.set_cons_succ])
      refine' wpAnyH_take (i := 15) (oi := _) (v := undef) ?hi37 (by kernel_rfl) (by kernel_rfl) (by kernel_rfl) ?hq37 (Or.inr ?hw37) (by assumption) ?rest37
      case hi37 => (simp only [List.getElem?_toArray, List.getElem?_cons_succ, List.getElem?_cons_zero]; rfl)
      case hq37 => exact fun _ _ _ h => h
      case hw37 => exact ⟨rfl, rfl⟩
      (try simp only [Act.put, List.setIfInBounds_toArray, List.set_cons_zero, List.set_cons_succ])
      refine' wpAnyH_take (i := 16) (oi := _) (v := undef) ?hi38 (by kernel_rfl) (by kernel_rfl) (by kernel_rfl) ?hq38 (Or.inr ?hw38) (by assumption) ?rest38
      case hi38 => (simp only [List.getElem?_toArray, List.getElem?_cons_succ, List.getElem?_cons_zero]; rfl)
      case hq38 => exact fun _ _ _ h => h
      case hw38 => exact ⟨rfl, rfl⟩
      (try simp only [Act.put, List.setIfInBounds_toArray, List.set_cons_zero, List.set_cons_succ])
      refine' wpAnyH_take (i := 17) (oi := _) (v := undef) ?hi39 (by kernel_rfl) (by kernel_rfl) (by kernel_rfl) ?hq39 (Or.inr ?hw39) (by assumption) ?rest39
      case hi39 => (simp only [List.getElem?_toArray, List.getElem?_cons_succ, List.getElem?_cons_zero]; rfl)
      case hq39 => exact fun _ _ _ h => h
      case hw39 => exact ⟨rfl, rfl⟩
      (try simp only [Act.put, List.setIfInBounds_toArray, List.set_cons_zero, List.set_cons_succ])
      refine' wpAnyH_take (i := 18) (oi := _) (v := undef) ?hi40 (by kernel_rfl) (by kernel_rfl) (by kernel_rfl) ?hq40 (Or.inr ?hw40) (by assumption) ?rest40
      case hi40 => (simp only [List.getElem?_toArray, List.getElem?_cons_succ, List.getElem?_cons_zero]; rfl)
      case hq40 => exact fun _ _ _ h => h
      case hw40 => exact ⟨rfl, rfl⟩
      (try simp only [Act.put, List.setIfInBounds_toArray, List.set_cons_zero, List.set_cons_succ])
      refine' wpAnyH_take (i := 19) (oi := _) (v := undef) ?hi41 (by kernel_rfl) (by kernel_rfl) (by kernel_rfl) ?hq41 (Or.inr ?hw41) (by assumption) ?rest41
      case hi41 => (simp only [List.getElem?_toArray, List.getElem?_cons_succ, List.getElem?_cons_zero]; rfl)
      case hq41 => exact fun _ _ _ h => h
      case hw41 => exact ⟨rfl, rfl⟩
      (try simp only [Act.put, List.setIfInBounds_toArray, List.set_cons_zero, List.set_cons_succ])
      refine' wpAnyH_take (i := 20) (oi := _) (v := _) ?hi42 (by kernel_rfl) (by kernel_rfl) (by kernel_rfl) ?hq42 (Or.inl ⟨?hw42, ?hy42⟩) (by assumption) ?rest42
      case hi42 => (simp only [List.getElem?_toArray, List.getElem?_cons_succ, List.getElem?_cons_zero]; rfl)
      case hq42 => exact fun _ _ _ h => h
      case hw42 => rfl
      case hy42 => (intro wq hSw; (try dsimp only at hSw); go_simp; (try with_reducible rfl))
      (try simp only [Act.put, List.setIfInBounds_toArray, List.set_cons_zero, List.set_cons_succ])
      refine wpAnyH_done (by kernel_rfl) ?_ _
      go_wp2
      go_ret
      exact ⟨ret_bool Hf.out.symm, HC.out.below⟩
  · have Hf : Hid (knOk R ks D = false) := Lib.hid (by rw [HV.out, decide_eq_false h1, Bool.false_and])
    clear HV
    go_enter Try.func31, Try.ntmps31
    go_upto_region 1 with fail
    generalize w.alloc (.cells #[.int .i64 R, .slice A N c, .int .i64 D] 32) = u0 at *
    have HC := Lib.hid S0.drew
    clear S0
    refine wp_region_held_drew (S := (fun w' => w'.cell? ⟨w.heap.size, 0, none⟩ = some (.int .i64 R) ∧ w'.cell? ⟨w.heap.size, 1, none⟩ = some (.slice A N c) ∧ w'.cell? ⟨w.heap.size, 2, none⟩ = some (.int .i64 D))) (by kernel_rfl) (by exact ⟨HC.out.b0_3.1, HC.out.b0_3.2.1, HC.out.b0_3.2.2⟩) (fun hHeld => ?_)
    refine' wpAnyH_take (i := 0) (oi := _) (v := _) ?hi1 (by kernel_rfl) (by kernel_rfl) (by kernel_rfl) ?hq1 (Or.inl ⟨?hw1, ?hy1⟩) (by assumption) ?rest1
    case hi1 => (simp only [List.getElem?_toArray, List.getElem?_cons_succ, List.getElem?_cons_zero]; rfl)
    case hq1 => exact fun _ _ _ h => h
    case hw1 => rfl
    case hy1 => (intro wq hSw; (try dsimp only at hSw); go_simp; (try with_reducible rfl))
    (try simp only [Act.put, List.setIfInBounds_toArray, List.set_cons_zero, List.set_cons_succ])
    refine' wpAnyH_take (i := 1) (oi := _) (v := _) ?hi2 (by kernel_rfl) (by kernel_rfl) (by kernel_rfl) ?hq2 (Or.inl ⟨?hw2, ?hy2⟩) (by assumption) ?rest2
    case hi2 => (simp only [List.getElem?_toArray, List.getElem?_cons_succ, List.getElem?_cons_zero]; rfl)
    case hq2 => exact fun _ _ _ h => h
    case hw2 => rfl
    case hy2 => (intro wq hSw; (try dsimp only at hSw); go_simp; (try with_reducible rfl))
    (try simp only [Act.put, List.setIfInBounds_toArray, List.set_cons_zero, List.set_cons_succ])
    refine wpAnyH_ready (rs := [2]) (by kernel_rfl) (by simp) ?_
    refine' AllReadyH.cons (o := _) ?hi3 (fun K hK => ?rest3) AllReadyH.nil
    case hi3 => (simp only [List.getElem?_toArray, List.getElem?_cons_succ, List.getElem?_cons_zero]; rfl)
    go_simp
    go_at_call 56
    refine (iIn_any R 0 2 _).mono ?_
    rintro e wa ⟨rfl, rfl⟩
    rw [decide_eq_false h1]
    refine hK.out _ _ (by (try dsimp only); exact ⟨HC.out.b0_3.1, HC.out.b0_3.2.1, HC.out.b0_3.2.2⟩) (fun hHeld => ?_)
    clear hK K
    (try simp only [Act.put, List.setIfInBounds_toArray, List.set_cons_zero, List.set_cons_succ])
    refine' wpAnyH_take (i := 3) (oi := _) (v := _) ?hi4 (by kernel_rfl) (by kernel_rfl) (by kernel_rfl) ?hq4 (Or.inl ⟨?hw4, ?hy4⟩) (by assumption) ?rest4
    case hi4 => (simp only [List.getElem?_toArray, List.getElem?_cons_succ, List.getElem?_cons_zero]; rfl)
    case hq4 => exact fun _ _ _ h => h
    case hw4 => rfl
    case hy4 => (intro wq hSw; (try dsimp only at hSw); go_simp; (try with_reducible rfl))
    (try simp only [Act.put, List.setIfInBounds_toArray, List.set_cons_zero, List.set_cons_succ])
    refine' wpAnyH_take (i := 4) (oi := _) (v := _) ?hi5 (by kernel_rfl) (by kernel_rfl) (by kernel_rfl) ?hq5 (Or.inl ⟨?hw5, ?hy5⟩) (by assumption) ?rest5
    case hi5 => (simp only [List.getElem?_toArray, List.getElem?_cons_succ, List.getElem?_cons_zero]; rfl)
    case hq5 => exact fun _ _ _ h => h
    case hw5 => rfl
    case hy5 => (intro wq hSw; (try dsimp only at hSw); go_simp; (try with_reducible rfl))
    (try simp only [Act.put, List.setIfInBounds_toArray, List.set_cons_zero, List.set_cons_succ])
    refine' wpAnyH_take (i := 5) (oi := _) (v := undef) ?hi6 (by kernel_rfl) (by kernel_rfl) (by kernel_rfl) ?hq6 (Or.inr ?hw6) (by assumption) ?rest6
    case hi6 => (simp only [List.getElem?_toArray, List.getElem?_cons_succ, List.getElem?_cons_zero]; rfl)
    case hq6 => exact fun _ _ _ h => h
    case hw6 => exact ⟨rfl, rfl⟩
    (try simp only [Act.put, List.setIfInBounds_toArray, List.set_cons_zero, List.set_cons_succ])
    refine' wpAnyH_take (i := 6) (oi := _) (v := undef) ?hi7 (by kernel_rfl) (by kernel_rfl) (by kernel_rfl) ?hq7 (Or.inr ?hw7) (by assumption) ?rest7
    case hi7 => (simp only [List.getElem?_toArray, List.getElem?_cons_succ, List.getElem?_cons_zero]; rfl)
    case hq7 => exact fun _ _ _ h => h
    case hw7 => exact ⟨rfl, rfl⟩
    (try simp only [Act.put, List.setIfInBounds_toArray, List.set_cons_zero, List.set_cons_succ])
    refine' wpAnyH_take (i := 7) (oi := _) (v := undef) ?hi8 (by kernel_rfl) (by kernel_rfl) (by kernel_rfl) ?hq8 (Or.inr ?hw8) (by assumption) ?rest8
    case hi8 => (simp only [List.getElem?_toArray, List.getElem?_cons_succ, List.getElem?_cons_zero]; rfl)
    case hq8 => exact fun _ _ _ h => h
    case hw8 => exact ⟨rfl, rfl⟩
    (try simp only [Act.put, List.setIfInBounds_toArray, List.set_cons_zero, List.set_cons_succ])
    refine' wpAnyH_take (i := 8) (oi := _) (v := undef) ?hi9 (by kernel_rfl) (by kernel_rfl) (by kernel_rfl) ?hq9 (Or.inr ?hw9) (by assumption) ?rest9
    case hi9 => (simp only [List.getElem?_toArray, List.getElem?_cons_succ, List.getElem?_cons_zero]; rfl)
    case hq9 => exact fun _ _ _ h => h
    case hw9 => exact ⟨rfl, rfl⟩
    (try simp only [Act.put, List.setIfInBounds_toArray, List.set_cons_zero, List.set_cons_succ])
    refine' wpAnyH_take (i := 9) (oi := _) (v := _) ?hi10 (by kernel_rfl) (by kernel_rfl) (by kernel_rfl) ?hq10 (Or.inl ⟨?hw10, ?hy10⟩) (by assumption) ?rest10
    case hi10 => (simp only [List.getElem?_toArray, List.getElem?_cons_succ, List.getElem?_cons_zero]; rfl)
    case hq10 => exact fun _ _ _ h => h
    case hw10 => rfl
    case hy10 => (intro wq hSw; (try dsimp only at hSw); go_simp; (try with_reducible rfl))
    (try simp only [Act.put, List.setIfInBounds_toArray, List.set_cons_zero, List.set_cons_succ])
    refine' wpAnyH_take (i := 10) (oi := _) (v := _) ?hi11 (by kernel_rfl) (by kernel_rfl) (by kernel_rfl) ?hq11 (Or.inl ⟨?hw11, ?hy11⟩) (by assumption) ?rest11
    case hi11 => (simp only [List.getElem?_toArray, List.getElem?_cons_succ, List.getElem?_cons_zero]; rfl)
    case hq11 => exact fun _ _ _ h => h
    case hw11 => rfl
    case hy11 => (intro wq hSw; (try dsimp only at hSw); go_simp; (try with_reducible rfl))
    (try simp only [Act.put, List.setIfInBounds_toArray, List.set_cons_zero, List.set_cons_succ])
    refine' wpAnyH_take (i := 11) (oi := _) (v := undef) ?hi12 (by kernel_rfl) (by kernel_rfl) (by kernel_rfl) ?hq12 (Or.inr ?hw12) (by assumption) ?rest12
    case hi12 => (simp only [List.getElem?_toArray, List.getElem?_cons_succ, List.getElem?_cons_zero]; rfl)
    case hq12 => exact fun _ _ _ h => h
    case hw12 => exact ⟨rfl, rfl⟩
    (try simp only [Act.put, List.setIfInBounds_toArray, List.set_cons_zero, List.set_cons_succ])
    refine' wpAnyH_take (i := 12) (oi := _) (v := undef) ?hi13 (by kernel_rfl) (by kernel_rfl) (by kernel_rfl) ?hq13 (Or.inr ?hw13) (by assumption) ?rest13
    case hi13 => (simp only [List.getElem?_toArray, List.getElem?_cons_succ, List.getElem?_cons_zero]; rfl)
    case hq13 => exact fun _ _ _ h => h
    case hw13 => exact ⟨rfl, rfl⟩
    (try simp only [Act.put, List.setIfInBounds_toArray, List.set_cons_zero, List.set_cons_succ])
    refine' wpAnyH_take (i := 13) (oi := _) (v := undef) ?hi14 (by kernel_rfl) (by kernel_rfl) (by kernel_rfl) ?hq14 (Or.inr ?hw14) (by assumption) ?rest14
    case hi14 => (simp only [List.getElem?_toArray, List.getElem?_cons_succ, List.getElem?_cons_zero]; rfl)
    case hq14 => exact fun _ _ _ h => h
    case hw14 => exact ⟨rfl, rfl⟩
    (try simp only [Act.put, List.setIfInBounds_toArray, List.set_cons_zero, List.set_cons_succ])
    refine' wpAnyH_take (i := 14) (oi := _) (v := undef) ?hi15 (by kernel_rfl) (by kernel_rfl) (by kernel_rfl) ?hq15 (Or.inr ?hw15) (by assumption) ?rest15
    case hi15 => (simp only [List.getElem?_toArray, List.getElem?_cons_succ, List.getElem?_cons_zero]; rfl)
    case hq15 => exact fun _ _ _ h => h
    case hw15 => exact ⟨rfl, rfl⟩
    (try simp only [Act.put, List.setIfInBounds_toArray, List.set_cons_zero, List.set_cons_succ])
    refine' wpAnyH_take (i := 15) (oi := _) (v := undef) ?hi16 (by kernel_rfl) (by kernel_rfl) (by kernel_rfl) ?hq16 (Or.inr ?hw16) (by assumption) ?rest16
    case hi16 => (simp only [List.getElem?_toArray, List.getElem?_cons_succ, List.getElem?_cons_zero]; rfl)
    case hq16 => exact fun _ _ _ h => h
    case hw16 => exact ⟨rfl, rfl⟩
    (try simp only [Act.put, List.setIfInBounds_toArray, List.set_cons_zero, List.set_cons_succ])
    refine' wpAnyH_take (i := 16) (oi := _) (v := undef) ?hi17 (by kernel_rfl) (by kernel_rfl) (by kernel_rfl) ?hq17 (Or.inr ?hw17) (by assumption) ?rest17
    case hi17 => (simp only [List.getElem?_toArray, List.getElem?_cons_succ, List.getElem?_cons_zero]; rfl)
    case hq17 => exact fun _ _ _ h => h
    case hw17 => exact ⟨rfl, rfl⟩
    (try simp only [Act.put, List.setIfInBounds_toArray, List.set_cons_zero, List.set_cons_succ])
    refine' wpAnyH_take (i := 17) (oi := _) (v := undef) ?hi18 (by kernel_rfl) (by kernel_rfl) (by kernel_rfl) ?hq18 (Or.inr ?hw18) (by assumption) ?rest18
    case hi18 => (simp only [List.getElem?_toArray, List.getElem?_cons_succ, List.getElem?_cons_zero]; rfl)
    case hq18 => exact fun _ _ _ h => h
    case hw18 => exact ⟨rfl, rfl⟩
    (try simp only [Act.put, List.setIfInBounds_toArray, List.set_cons_zero, List.set_cons_succ])
    refine' wpAnyH_take (i := 18) (oi := _) (v := undef) ?hi19 (by kernel_rfl) (by kernel_rfl) (by kernel_rfl) ?hq19 (Or.inr ?hw19) (by assumption) ?rest19
    case hi19 => (simp only [List.getElem?_toArray, List.getElem?_cons_succ, List.getElem?_cons_zero]; rfl)
    case hq19 => exact fun _ _ _ h => h
    case hw19 => exact ⟨rfl, rfl⟩
    (try simp only [Act.put, List.setIfInBounds_toArray, List.set_cons_zero, List.set_cons_succ])
    refine' wpAnyH_take (i := 19) (oi := _) (v := undef) ?hi20 (by kernel_rfl) (by kernel_rfl) (by kernel_rfl) ?hq20 (Or.inr ?hw20) (by assumption) ?rest20
    case hi20 => (simp only [List.getElem?_toArray, List.getElem?_cons_succ, List.getElem?_cons_zero]; rfl)
    case hq20 => exact fun _ _ _ h => h
    case hw20 => exact ⟨rfl, rfl⟩
    (try simp only [Act.put, List.setIfInBounds_toArray, List.set_cons_zero, List.set_cons_succ])
    refine' wpAnyH_take (i := 20) (oi := _) (v := _) ?hi21 (by kernel_rfl) (by kernel_rfl) (by kernel_rfl) ?hq21 (Or.inl ⟨?hw21, ?hy21⟩) (by assumption) ?rest21
    case hi21 => (simp only [List.getElem?_toArray, List.getElem?_cons_succ, List.getElem?_cons_zero]; rfl)
    case hq21 => exact fun _ _ _ h => h
    case hw21 => rfl
    case hy21 => (intro wq hSw; (try dsimp only at hSw); go_simp; (try with_reducible rfl))
    (try simp only [Act.put, List.setIfInBounds_toArray, List.set_cons_zero, List.set_cons_succ])
    refine wpAnyH_done (by kernel_rfl) ?_ _
    go_wp2
    go_ret
    exact ⟨ret_bool Hf.out.symm, HC.out.below⟩
set_option maxHeartbeats 16000000 in
theorem iSum_any (W H R D n : Nat) (hn : W * H = n) (hW1 : 1 ≤ W) (hW : W ≤ 16) (hH1 : 1 ≤ H) (hH : H ≤ 16) (hR2 : R ≤ 2) (Ak : Option Addr) (ck : Nat) (ks : List Int) (N : Nat) (hN : N = ks.length) (hkl : N ≤ 25) (hkb : ∀ j, j < ks.length → -99 ≤ ks.getD j 0 ∧ ks.getD j 0 ≤ 99) (A : Option Addr) (c : Nat) (f : Nat → Nat → Int) (hf : ∀ x y, x < W → y < H → 0 ≤ f x y ∧ f x y ≤ 255) (hc : n ≤ c) (x y : Nat) (hx : x < W) (hy : y < H) (w : World) (hk : Rds .i64 w w.heap.size Ak ks) (hr : Rds .i64 w w.heap.size A (grN W H f)) :
    Calls Try.prog 38 #[.agg #[.int .i64 (R : Int), .slice Ak N ck, .int .i64 (D : Int)], .agg #[.int .i64 (W : Int), .int .i64 (H : Int), .slice A n c], .int .i64 (x : Int), .int .i64 (y : Int)] w fun e w' => e = .returned (.int .i64 (cvS f W H R ks x y ks.length)) ∧ Below w.heap.size w w' := by
  have Hk := Lib.hid hk
  have Hg := Lib.hid hr
  have Hn := Lib.hid hn
  have HF := Lib.hid hf
  have HKb := Lib.hid hkb
  obtain ⟨T, hT⟩ : ∃ T, T = cvS f W H R ks x y := ⟨_, rfl⟩
  have HTb : Hid (∀ k, k ≤ ks.length → -(25245 * (k : Int)) ≤ T k ∧ T k ≤ 25245 * (k : Int)) := Lib.hid (fun k hk => by rw [hT]; exact cvS_bd hW1 hH1 hf hkb x y k hk)
  have HT0 : Hid (T 0 = 0) := Lib.hid (by rw [hT]; rfl)
  have HTn : Hid (∀ k, T (k + 1) = T k + ks.getD k 0 * f (cvc R x (k % (2 * R + 1)) 0 W) (cvc R y (k / (2 * R + 1)) 0 H)) := Lib.hid (fun k => by rw [hT]; rfl)
  have HTe : Hid (T ks.length = cvS f W H R ks x y ks.length) := Lib.hid (by rw [hT])
  have S0 : GS w ((w.alloc (.cells #[.int .i64 (R : Int), .slice Ak N ck, .int .i64 (D : Int)] 32)).alloc (.cells #[.int .i64 (W : Int), .int .i64 (H : Int), .slice A n c] 59)) [] [⟨w.heap.size + 1, 59, #[.int .i64 (W : Int), .int .i64 (H : Int), .slice A n c]⟩, ⟨w.heap.size, 32, #[.int .i64 (R : Int), .slice Ak N ck, .int .i64 (D : Int)]⟩] := GS.box' (GS.box' (GS.start w) _ _ w.heap.size rfl) _ _ (w.heap.size + 1) (by simp)
  have HS := Lib.hid S0
  obtain ⟨S, hS⟩ : ∃ S, S = 2 * R + 1 := ⟨_, rfl⟩
  have HSd : Hid (2 * R + 1 = S) := Lib.hid hS.symm
  have hS1 : 1 ≤ S := by omega
  have hS5 : S ≤ 5 := by omega
  have HN := Lib.hid hN
  clear hk hr hn hf hkb hT S0 hS hN
  rw [← HTe.out]
  obtain ⟨b0, b1, b2⟩ := HS.out.b1_3
  go_enter Try.func38, Try.ntmps38
  go_wp2
  generalize (w.alloc (.cells #[.int .i64 (R : Int), .slice Ak N ck, .int .i64 (D : Int)] 32)).alloc (.cells #[.int .i64 (W : Int), .int .i64 (H : Int), .slice A n c] 59) = u0 at *
  go_loopw [9, 10, 11, 12, 13, 17] (fun s _ _ _ _ i wr => ∃ k : Nat, k ≤ N ∧ i = .int .i64 (k : Int) ∧ s = .int .i64 (T k) ∧ Hid (GS w wr [] [⟨w.heap.size + 1, 59, #[.int .i64 (W : Int), .int .i64 (H : Int), .slice A n c]⟩, ⟨w.heap.size, 32, #[.int .i64 (R : Int), .slice Ak N ck, .int .i64 (D : Int)]⟩])) (fun _ _ _ _ _ i _ => N - (intOf i).toNat)
  case atStart => exact ⟨0, Nat.zero_le _, rfl, by rw [HT0.out], HS⟩
  case round =>
    clear HS b0 b1 b2
    obtain ⟨k, hk, rfl, rfl, HS⟩ := hrel
    by_cases hlt : k < N
    · obtain ⟨b, off, rfl, hb, hcc⟩ := (HS.out.arg Hk.out).cells_ (j := k) (by have := HN.out; omega)
      have hck := hcc k (by have := HN.out; omega)
      have hzb := HKb.out k (by have := HN.out; omega)
      have hTk := HTb.out k (by have := HN.out; omega)
      obtain ⟨qa, hqa⟩ : ∃ q, q = k % S := ⟨_, rfl⟩
      obtain ⟨qb, hqb⟩ : ∃ q, q = k / S := ⟨_, rfl⟩
      obtain ⟨cx, hcx0⟩ : ∃ q, q = cvc R x qa 0 W := ⟨_, rfl⟩
      obtain ⟨cy, hcy0⟩ : ∃ q, q = cvc R y qb 0 H := ⟨_, rfl⟩
      have hcx : cx < W := by rw [hcx0]; exact cvc_lt hW1
      have hcy : cy < H := by rw [hcy0]; exact cvc_lt hH1
      have hfb := HF.out cx cy hcx hcy
      obtain ⟨fv, hfv⟩ : ∃ v, f cx cy = v := ⟨_, rfl⟩
      have HFv := Lib.hid hfv
      obtain ⟨z, hz⟩ : ∃ z, z = ks.getD k 0 := ⟨_, rfl⟩
      obtain ⟨tk, htk⟩ : ∃ t, t = T k := ⟨_, rfl⟩
      obtain ⟨pr, hpr⟩ : ∃ p, z * fv = p := ⟨_, rfl⟩
      have HTn1 : Hid (T (k + 1) = tk + pr) := Lib.hid (by rw [HTn.out k, HSd.out, ← hqa, ← hqb, ← hcx0, ← hcy0, hfv, ← hz, ← htk, hpr])
      have hTk1 := HTb.out (k + 1) (by have := HN.out; omega)
      rw [HTn1.out] at hTk1
      rw [hfv] at hfb
      rw [← hz] at hck hzb
      rw [← htk] at hTk ⊢
      have hpb : -30000 ≤ pr ∧ pr ≤ 30000 := by
        have a1 : z * fv ≤ 99 * fv := Int.mul_le_mul_of_nonneg_right hzb.2 hfb.1
        have a2 : -99 * fv ≤ z * fv := Int.mul_le_mul_of_nonneg_right hzb.1 hfb.1
        omega
      have hqa5 : qa < 5 := by rw [hqa]; exact Nat.lt_of_lt_of_le (Nat.mod_lt _ (by omega)) hS5
      have hqb25 : qb ≤ 25 := by rw [hqb]; exact Nat.le_trans (Nat.div_le_self _ _) (by omega)
      have e1 : Int.tmod (k : Int) (S : Int) = (qa : Int) := by rw [Int.tmod_eq_emod_of_nonneg (by omega), hqa]; rfl
      have e2 : Int.tdiv (k : Int) (S : Int) = (qb : Int) := by rw [Int.tdiv_eq_ediv_of_nonneg (by omega), hqb]; rfl
      have wa := wr_natC (n := qa) (by omega)
      have wb := wr_natC (n := qb) (by omega)
      obtain ⟨dx, hdx⟩ : ∃ d : Int, (x : Int) - (R : Int) = d := ⟨_, rfl⟩
      obtain ⟨dy, hdy⟩ : ∃ d : Int, (y : Int) - (R : Int) = d := ⟨_, rfl⟩
      obtain ⟨ex, hex⟩ : ∃ d : Int, dx + (qa : Int) = d := ⟨_, rfl⟩
      obtain ⟨ey, hey⟩ : ∃ d : Int, dy + (qb : Int) = d := ⟨_, rfl⟩
      obtain ⟨W1, hWW⟩ : ∃ d : Int, (W : Int) - 1 = d := ⟨_, rfl⟩
      obtain ⟨H1, hHH⟩ : ∃ d : Int, (H : Int) - 1 = d := ⟨_, rfl⟩
      have HLx : Hid (lim ex 0 W1 = (cx : Int)) := Lib.hid (by rw [hcx0, cvc_eq hW1, ← hex, ← hdx, ← hWW])
      have HLy : Hid (lim ey 0 H1 = (cy : Int)) := Lib.hid (by rw [hcy0, cvc_eq hH1, ← hey, ← hdy, ← hHH])
      have v1 : IntKind.i64.wrap dx = dx := IntWalk.i64_in _ (by omega)
      have v2 : IntKind.i64.wrap dy = dy := IntWalk.i64_in _ (by omega)
      have v3 : IntKind.i64.wrap ex = ex := IntWalk.i64_in _ (by omega)
      have v4 : IntKind.i64.wrap ey = ey := IntWalk.i64_in _ (by omega)
      have v5 : IntKind.i64.wrap W1 = W1 := IntWalk.i64_in _ (by omega)
      have v6 : IntKind.i64.wrap H1 = H1 := IntWalk.i64_in _ (by omega)
      have v7 : IntKind.i64.wrap pr = pr := IntWalk.i64_in _ (by omega)
      have v8 : IntKind.i64.wrap (tk + pr) = tk + pr := IntWalk.i64_in _ (by omega)
      have hSn : ¬ (S : Int) = 0 := by omega
      have hSn2 : ¬ S = 0 := by omega
      clear hcc hb hqa hqb hcx0 hcy0 hfv hz htk hTk hTk1
      obtain ⟨b0, b1, b2⟩ := HS.out.b1_3
      go_upto_region 5 with fail
      clear b0 b1 b2
      have HC := Lib.hid HS.out.drew
      clear HS
      refine wp_region_held_drew (S := (fun w' => w'.cell? ⟨w.heap.size, 0, none⟩ = some (.int .i64 (R : Int)) ∧ w'.cell? ⟨w.heap.size, 1, none⟩ = some (.slice (some ⟨b, off, none⟩) N ck) ∧ w'.cell? ⟨w.heap.size, 2, none⟩ = some (.int .i64 (D : Int)) ∧ w'.cell? ⟨(w.heap.size + 1), 0, none⟩ = some (.int .i64 (W : Int)) ∧ w'.cell? ⟨(w.heap.size + 1), 1, none⟩ = some (.int .i64 (H : Int)) ∧ w'.cell? ⟨(w.heap.size + 1), 2, none⟩ = some (.slice A n c))) (by kernel_rfl) (by exact ⟨HC.out.b1_3.1, HC.out.b1_3.2.1, HC.out.b1_3.2.2, HC.out.b0_3.1, HC.out.b0_3.2.1, HC.out.b0_3.2.2⟩) (fun hHeld => ?_)
      refine' wpAnyH_take (i := 0) (oi := _) (v := _) ?hi64 (by kernel_rfl) (by kernel_rfl) (by kernel_rfl) ?hq64 (Or.inl ⟨?hw64, ?hy64⟩) (by assumption) ?rest64
      case hi64 => (simp only [List.getElem?_toArray, List.getElem?_cons_succ, List.getElem?_cons_zero]; rfl)
      case hq64 => exact fun _ _ _ h => h
      case hw64 => rfl
      case hy64 => (intro wq hSw; (try dsimp only at hSw); go_simp; (try with_reducible rfl))
      (try simp only [Act.put, List.setIfInBounds_toArray, List.set_cons_zero, List.set_cons_succ])
      refine' wpAnyH_take (i := 1) (oi := _) (v := _) ?hi65 (by kernel_rfl) (by kernel_rfl) (by kernel_rfl) ?hq65 (Or.inl ⟨?hw65, ?hy65⟩) (by assumption) ?rest65
      case hi65 => (simp only [List.getElem?_toArray, List.getElem?_cons_succ, List.getElem?_cons_zero]; rfl)
      case hq65 => exact fun _ _ _ h => h
      case hw65 => rfl
      case hy65 => (intro wq hSw; (try dsimp only at hSw); go_simp; (try with_reducible rfl))
      (try simp only [Act.put, List.setIfInBounds_toArray, List.set_cons_zero, List.set_cons_succ])
      refine' wpAnyH_take (i := 2) (oi := _) (v := _) ?hi66 (by kernel_rfl) (by kernel_rfl) (by kernel_rfl) ?hq66 (Or.inl ⟨?hw66, ?hy66⟩) (by assumption) ?rest66
      case hi66 => (simp only [List.getElem?_toArray, List.getElem?_cons_succ, List.getElem?_cons_zero]; rfl)
      case hq66 => exact fun _ _ _ h => h
      case hw66 => rfl
      case hy66 => (intro wq hSw; (try dsimp only at hSw); go_simp; (try with_reducible rfl))
      (try simp only [Act.put, List.setIfInBounds_toArray, List.set_cons_zero, List.set_cons_succ])
      refine' wpAnyH_take (i := 3) (oi := _) (v := _) ?hi67 (by kernel_rfl) (by kernel_rfl) (by kernel_rfl) ?hq67 (Or.inl ⟨?hw67, ?hy67⟩) (by assumption) ?rest67
      case hi67 => (simp only [List.getElem?_toArray, List.getElem?_cons_succ, List.getElem?_cons_zero]; rfl)
      case hq67 => exact fun _ _ _ h => h
      case hw67 => rfl
      case hy67 => (intro wq hSw; (try dsimp only at hSw); go_simp; (try with_reducible rfl))
      (try simp only [Act.put, List.setIfInBounds_toArray, List.set_cons_zero, List.set_cons_succ])
      refine' wpAnyH_take (i := 4) (oi := _) (v := _) ?hi68 (by kernel_rfl) (by kernel_rfl) (by kernel_rfl) ?hq68 (Or.inl ⟨?hw68, ?hy68⟩) (by assumption) ?rest68
      case hi68 => (simp only [List.getElem?_toArray, List.getElem?_cons_succ, List.getElem?_cons_zero]; rfl)
      case hq68 => exact fun _ _ _ h => h
      case hw68 => rfl
      case hy68 => (intro wq hSw; (try dsimp only at hSw); go_simp; (try with_reducible rfl))
      (try simp only [Act.put, List.setIfInBounds_toArray, List.set_cons_zero, List.set_cons_succ])
      refine' wpAnyH_take (i := 5) (oi := _) (v := _) ?hi69 (by kernel_rfl) (by kernel_rfl) (by kernel_rfl) ?hq69 (Or.inl ⟨?hw69, ?hy69⟩) (by assumption) ?rest69
      case hi69 => (simp only [List.getElem?_toArray, List.getElem?_cons_succ, List.getElem?_cons_zero]; rfl)
      case hq69 => exact fun _ _ _ h => h
      case hw69 => rfl
      case hy69 => (intro wq hSw; (try dsimp only at hSw); go_simp; (try with_reducible rfl))
      (try simp only [Act.put, List.setIfInBounds_toArray, List.set_cons_zero, List.set_cons_succ])
      refine wpAnyH_ready (rs := [6]) (by kernel_rfl) (by simp) ?_
      refine' AllReadyH.cons (o := _) ?hi70 (fun K hK => ?rest70) AllReadyH.nil
      case hi70 => (simp only [List.getElem?_toArray, List.getElem?_cons_succ, List.getElem?_cons_zero]; rfl)
      go_simp
      go_at_call 63
      refine (iSide_any R S HSd.out (some ⟨b, off, none⟩) ck N (D : Int) hR2 _).mono ?_
      rintro e wa ⟨rfl, hB⟩
      have HD := Lib.hid (HC.out.call hB)
      clear HC hB
      have HC := HD
      clear HD
      refine hK.out _ _ (by (try dsimp only); exact ⟨HC.out.b1_3.1, HC.out.b1_3.2.1, HC.out.b1_3.2.2, HC.out.b0_3.1, HC.out.b0_3.2.1, HC.out.b0_3.2.2⟩) (fun hHeld => ?_)
      clear hK K
      (try simp only [Act.put, List.setIfInBounds_toArray, List.set_cons_zero, List.set_cons_succ])
      refine' wpAnyH_take (i := 7) (oi := _) (v := _) ?hi71 (by kernel_rfl) (by kernel_rfl) (by kernel_rfl) ?hq71 (Or.inl ⟨?hw71, ?hy71⟩) (by assumption) ?rest71
      case hi71 => (simp only [List.getElem?_toArray, List.getElem?_cons_succ, List.getElem?_cons_zero]; rfl)
      case hq71 => exact fun _ _ _ h => h
      case hw71 => rfl
      case hy71 => (intro wq hSw; (try dsimp only at hSw); go_simp; (try with_reducible rfl))
      (try simp only [Act.put, List.setIfInBounds_toArray, List.set_cons_zero, List.set_cons_succ])
      refine' wpAnyH_take (i := 8) (oi := _) (v := _) ?hi72 (by kernel_rfl) (by kernel_rfl) (by kernel_rfl) ?hq72 (Or.inl ⟨?hw72, ?hy72⟩) (by assumption) ?rest72
      case hi72 => (simp only [List.getElem?_toArray, List.getElem?_cons_succ, List.getElem?_cons_zero]; rfl)
      case hq72 => exact fun _ _ _ h => h
      case hw72 => rfl
      case hy72 => (intro wq hSw; (try dsimp only at hSw); go_simp; (try with_reducible rfl))
      (try simp only [Act.put, List.setIfInBounds_toArray, List.set_cons_zero, List.set_cons_succ])
      refine' wpAnyH_take (i := 9) (oi := _) (v := _) ?hi73 (by kernel_rfl) (by kernel_rfl) (by kernel_rfl) ?hq73 (Or.inl ⟨?hw73, ?hy73⟩) (by assumption) ?rest73
      case hi73 => (simp only [List.getElem?_toArray, List.getElem?_cons_succ, List.getElem?_cons_zero]; rfl)
      case hq73 => exact fun _ _ _ h => h
      case hw73 => rfl
      case hy73 => (intro wq hSw; (try dsimp only at hSw); go_simp; (try with_reducible rfl))
      (try simp only [Act.put, List.setIfInBounds_toArray, List.set_cons_zero, List.set_cons_succ])
      refine wpAnyH_done (by kernel_rfl) ?_ _
      go_upto_region 6 with fail
      have HD := Lib.hid HC.out.drew
      clear HC
      have HC := HD
      clear HD
      refine wp_region_held_drew (S := (fun w' => w'.cell? ⟨w.heap.size, 0, none⟩ = some (.int .i64 (R : Int)) ∧ w'.cell? ⟨w.heap.size, 1, none⟩ = some (.slice (some ⟨b, off, none⟩) N ck) ∧ w'.cell? ⟨w.heap.size, 2, none⟩ = some (.int .i64 (D : Int)) ∧ w'.cell? ⟨(w.heap.size + 1), 0, none⟩ = some (.int .i64 (W : Int)) ∧ w'.cell? ⟨(w.heap.size + 1), 1, none⟩ = some (.int .i64 (H : Int)) ∧ w'.cell? ⟨(w.heap.size + 1), 2, none⟩ = some (.slice A n c))) (by kernel_rfl) (by exact ⟨HC.out.b1_3.1, HC.out.b1_3.2.1, HC.out.b1_3.2.2, HC.out.b0_3.1, HC.out.b0_3.2.1, HC.out.b0_3.2.2⟩) (fun hHeld => ?_)
      refine' wpAnyH_take (i := 0) (oi := _) (v := _) ?hi74 (by kernel_rfl) (by kernel_rfl) (by kernel_rfl) ?hq74 (Or.inl ⟨?hw74, ?hy74⟩) (by assumption) ?rest74
      case hi74 => (simp only [List.getElem?_toArray, List.getElem?_cons_succ, List.getElem?_cons_zero]; rfl)
      case hq74 => exact fun _ _ _ h => h
      case hw74 => rfl
      case hy74 => (intro wq hSw; (try dsimp only at hSw); go_simp; (try with_reducible rfl))
      (try simp only [Act.put, List.setIfInBounds_toArray, List.set_cons_zero, List.set_cons_succ])
      refine' wpAnyH_take (i := 1) (oi := _) (v := _) ?hi75 (by kernel_rfl) (by kernel_rfl) (by kernel_rfl) ?hq75 (Or.inl ⟨?hw75, ?hy75⟩) (by assumption) ?rest75
      case hi75 => (simp only [List.getElem?_toArray, List.getElem?_cons_succ, List.getElem?_cons_zero]; rfl)
      case hq75 => exact fun _ _ _ h => h
      case hw75 => rfl
      case hy75 => (intro wq hSw; (try dsimp only at hSw); go_simp; (try with_reducible rfl))
      (try simp only [Act.put, List.setIfInBounds_toArray, List.set_cons_zero, List.set_cons_succ])
      refine' wpAnyH_take (i := 2) (oi := _) (v := _) ?hi76 (by kernel_rfl) (by kernel_rfl) (by kernel_rfl) ?hq76 (Or.inl ⟨?hw76, ?hy76⟩) (by assumption) ?rest76
      case hi76 => (simp only [List.getElem?_toArray, List.getElem?_cons_succ, List.getElem?_cons_zero]; rfl)
      case hq76 => exact fun _ _ _ h => h
      case hw76 => rfl
      case hy76 => (intro wq hSw; (try dsimp only at hSw); go_simp; (try with_reducible rfl))
      (try simp only [Act.put, List.setIfInBounds_toArray, List.set_cons_zero, List.set_cons_succ])
      refine' wpAnyH_take (i := 3) (oi := _) (v := _) ?hi77 (by kernel_rfl) (by kernel_rfl) (by kernel_rfl) ?hq77 (Or.inl ⟨?hw77, ?hy77⟩) (by assumption) ?rest77
      case hi77 => (simp only [List.getElem?_toArray, List.getElem?_cons_succ, List.getElem?_cons_zero]; rfl)
      case hq77 => exact fun _ _ _ h => h
      case hw77 => rfl
      case hy77 => (intro wq hSw; (try dsimp only at hSw); go_simp; (try with_reducible rfl))
      (try simp only [Act.put, List.setIfInBounds_toArray, List.set_cons_zero, List.set_cons_succ])
      refine' wpAnyH_take (i := 4) (oi := _) (v := _) ?hi78 (by kernel_rfl) (by kernel_rfl) (by kernel_rfl) ?hq78 (Or.inl ⟨?hw78, ?hy78⟩) (by assumption) ?rest78
      case hi78 => (simp only [List.getElem?_toArray, List.getElem?_cons_succ, List.getElem?_cons_zero]; rfl)
      case hq78 => exact fun _ _ _ h => h
      case hw78 => rfl
      case hy78 => (intro wq hSw; (try dsimp only at hSw); go_simp; (try with_reducible rfl))
      (try simp only [Act.put, List.setIfInBounds_toArray, List.set_cons_zero, List.set_cons_succ])
      refine' wpAnyH_take (i := 5) (oi := _) (v := _) ?hi79 (by kernel_rfl) (by kernel_rfl) (by kernel_rfl) ?hq79 (Or.inl ⟨?hw79, ?hy79⟩) (by assumption) ?rest79
      case hi79 => (simp only [List.getElem?_toArray, List.getElem?_cons_succ, List.getElem?_cons_zero]; rfl)
      case hq79 => exact fun _ _ _ h => h
      case hw79 => rfl
      case hy79 => (intro wq hSw; (try dsimp only at hSw); go_simp; (try with_reducible rfl))
      (try simp only [Act.put, List.setIfInBounds_toArray, List.set_cons_zero, List.set_cons_succ])
      refine wpAnyH_ready (rs := [6]) (by kernel_rfl) (by simp) ?_
      refine' AllReadyH.cons (o := _) ?hi80 (fun K hK => ?rest80) AllReadyH.nil
      case hi80 => (simp only [List.getElem?_toArray, List.getElem?_cons_succ, List.getElem?_cons_zero]; rfl)
      go_simp
      go_at_call 63
      refine (iSide_any R S HSd.out (some ⟨b, off, none⟩) ck N (D : Int) hR2 _).mono ?_
      rintro e wb ⟨rfl, hB⟩
      have HD := Lib.hid (HC.out.call hB)
      clear HC hB
      have HC := HD
      clear HD
      refine hK.out _ _ (by (try dsimp only); exact ⟨HC.out.b1_3.1, HC.out.b1_3.2.1, HC.out.b1_3.2.2, HC.out.b0_3.1, HC.out.b0_3.2.1, HC.out.b0_3.2.2⟩) (fun hHeld => ?_)
      clear hK K
      (try simp only [Act.put, List.setIfInBounds_toArray, List.set_cons_zero, List.set_cons_succ])
      refine' wpAnyH_take (i := 7) (oi := _) (v := _) ?hi81 (by kernel_rfl) (by kernel_rfl) (by kernel_rfl) ?hq81 (Or.inl ⟨?hw81, ?hy81⟩) (by assumption) ?rest81
      case hi81 => (simp only [List.getElem?_toArray, List.getElem?_cons_succ, List.getElem?_cons_zero]; rfl)
      case hq81 => exact fun _ _ _ h => h
      case hw81 => rfl
      case hy81 => (intro wq hSw; (try dsimp only at hSw); go_simp; (try with_reducible rfl))
      (try simp only [Act.put, List.setIfInBounds_toArray, List.set_cons_zero, List.set_cons_succ])
      refine' wpAnyH_take (i := 8) (oi := _) (v := _) ?hi82 (by kernel_rfl) (by kernel_rfl) (by kernel_rfl) ?hq82 (Or.inl ⟨?hw82, ?hy82⟩) (by assumption) ?rest82
      case hi82 => (simp only [List.getElem?_toArray, List.getElem?_cons_succ, List.getElem?_cons_zero]; rfl)
      case hq82 => exact fun _ _ _ h => h
      case hw82 => rfl
      case hy82 => (intro wq hSw; (try dsimp only at hSw); go_simp; (try with_reducible rfl))
      (try simp only [Act.put, List.setIfInBounds_toArray, List.set_cons_zero, List.set_cons_succ])
      refine' wpAnyH_take (i := 9) (oi := _) (v := _) ?hi83 (by kernel_rfl) (by kernel_rfl) (by kernel_rfl) ?hq83 (Or.inl ⟨?hw83, ?hy83⟩) (by assumption) ?rest83
      case hi83 => (simp only [List.getElem?_toArray, List.getElem?_cons_succ, List.getElem?_cons_zero]; rfl)
      case hq83 => exact fun _ _ _ h => h
      case hw83 => rfl
      case hy83 => (intro wq hSw; (try dsimp only at hSw); go_simp; (try with_reducible rfl))
      (try simp only [Act.put, List.setIfInBounds_toArray, List.set_cons_zero, List.set_cons_succ])
      refine wpAnyH_done (by kernel_rfl) ?_ _
      go_upto_region 7 with fail
      have HD := Lib.hid HC.out.drew
      clear HC
      have HC := HD
      clear HD
      refine wp_region_held_drew (S := (fun w' => w'.cell? ⟨w.heap.size, 0, none⟩ = some (.int .i64 (R : Int)) ∧ w'.cell? ⟨w.heap.size, 1, none⟩ = some (.slice (some ⟨b, off, none⟩) N ck) ∧ w'.cell? ⟨w.heap.size, 2, none⟩ = some (.int .i64 (D : Int)) ∧ w'.cell? ⟨(w.heap.size + 1), 0, none⟩ = some (.int .i64 (W : Int)) ∧ w'.cell? ⟨(w.heap.size + 1), 1, none⟩ = some (.int .i64 (H : Int)) ∧ w'.cell? ⟨(w.heap.size + 1), 2, none⟩ = some (.slice A n c))) (by kernel_rfl) (by exact ⟨HC.out.b1_3.1, HC.out.b1_3.2.1, HC.out.b1_3.2.2, HC.out.b0_3.1, HC.out.b0_3.2.1, HC.out.b0_3.2.2⟩) (fun hHeld => ?_)
      refine' wpAnyH_take (i := 0) (oi := _) (v := _) ?hi84 (by kernel_rfl) (by kernel_rfl) (by kernel_rfl) ?hq84 (Or.inl ⟨?hw84, ?hy84⟩) (by assumption) ?rest84
      case hi84 => (simp only [List.getElem?_toArray, List.getElem?_cons_succ, List.getElem?_cons_zero]; rfl)
      case hq84 => exact fun _ _ _ h => h
      case hw84 => rfl
      case hy84 => (intro wq hSw; (try dsimp only at hSw); go_simp; (try with_reducible rfl))
      (try simp only [Act.put, List.setIfInBounds_toArray, List.set_cons_zero, List.set_cons_succ])
      refine' wpAnyH_take (i := 1) (oi := _) (v := _) ?hi85 (by kernel_rfl) (by kernel_rfl) (by kernel_rfl) ?hq85 (Or.inl ⟨?hw85, ?hy85⟩) (by assumption) ?rest85
      case hi85 => (simp only [List.getElem?_toArray, List.getElem?_cons_succ, List.getElem?_cons_zero]; rfl)
      case hq85 => exact fun _ _ _ h => h
      case hw85 => rfl
      case hy85 => (intro wq hSw; (try dsimp only at hSw); go_simp; (try with_reducible rfl))
      (try simp only [Act.put, List.setIfInBounds_toArray, List.set_cons_zero, List.set_cons_succ])
      refine' wpAnyH_take (i := 2) (oi := _) (v := _) ?hi86 (by kernel_rfl) (by kernel_rfl) (by kernel_rfl) ?hq86 (Or.inl ⟨?hw86, ?hy86⟩) (by assumption) ?rest86
      case hi86 => (simp only [List.getElem?_toArray, List.getElem?_cons_succ, List.getElem?_cons_zero]; rfl)
      case hq86 => exact fun _ _ _ h => h
      case hw86 => rfl
      case hy86 => (intro wq hSw; (try dsimp only at hSw); go_simp; (try with_reducible rfl))
      (try simp only [Act.put, List.setIfInBounds_toArray, List.set_cons_zero, List.set_cons_succ])
      refine' wpAnyH_take (i := 3) (oi := _) (v := _) ?hi87 (by kernel_rfl) (by kernel_rfl) (by kernel_rfl) ?hq87 (Or.inl ⟨?hw87, ?hy87⟩) (by assumption) ?rest87
      case hi87 => (simp only [List.getElem?_toArray, List.getElem?_cons_succ, List.getElem?_cons_zero]; rfl)
      case hq87 => exact fun _ _ _ h => h
      case hw87 => rfl
      case hy87 => (intro wq hSw; (try dsimp only at hSw); go_simp; (try with_reducible rfl))
      (try simp only [Act.put, List.setIfInBounds_toArray, List.set_cons_zero, List.set_cons_succ])
      refine' wpAnyH_take (i := 4) (oi := _) (v := _) ?hi88 (by kernel_rfl) (by kernel_rfl) (by kernel_rfl) ?hq88 (Or.inl ⟨?hw88, ?hy88⟩) (by assumption) ?rest88
      case hi88 => (simp only [List.getElem?_toArray, List.getElem?_cons_succ, List.getElem?_cons_zero]; rfl)
      case hq88 => exact fun _ _ _ h => h
      case hw88 => rfl
      case hy88 => (intro wq hSw; (try dsimp only at hSw); go_simp; (try with_reducible rfl))
      (try simp only [Act.put, List.setIfInBounds_toArray, List.set_cons_zero, List.set_cons_succ])
      refine' wpAnyH_take (i := 5) (oi := _) (v := _) ?hi89 (by kernel_rfl) (by kernel_rfl) (by kernel_rfl) ?hq89 (Or.inl ⟨?hw89, ?hy89⟩) (by assumption) ?rest89
      case hi89 => (simp only [List.getElem?_toArray, List.getElem?_cons_succ, List.getElem?_cons_zero]; rfl)
      case hq89 => exact fun _ _ _ h => h
      case hw89 => rfl
      case hy89 => (intro wq hSw; (try dsimp only at hSw); go_simp; (try with_reducible rfl))
      (try simp only [Act.put, List.setIfInBounds_toArray, List.set_cons_zero, List.set_cons_succ])
      refine' wpAnyH_take (i := 6) (oi := _) (v := _) ?hi90 (by kernel_rfl) (by kernel_rfl) (by kernel_rfl) ?hq90 (Or.inl ⟨?hw90, ?hy90⟩) (by assumption) ?rest90
      case hi90 => (simp only [List.getElem?_toArray, List.getElem?_cons_succ, List.getElem?_cons_zero]; rfl)
      case hq90 => exact fun _ _ _ h => h
      case hw90 => rfl
      case hy90 => (intro wq hSw; (try dsimp only at hSw); go_simp; (try with_reducible rfl))
      (try simp only [Act.put, List.setIfInBounds_toArray, List.set_cons_zero, List.set_cons_succ])
      refine' wpAnyH_take (i := 8) (oi := _) (v := _) ?hi91 (by kernel_rfl) (by kernel_rfl) (by kernel_rfl) ?hq91 (Or.inl ⟨?hw91, ?hy91⟩) (by assumption) ?rest91
      case hi91 => (simp only [List.getElem?_toArray, List.getElem?_cons_succ, List.getElem?_cons_zero]; rfl)
      case hq91 => exact fun _ _ _ h => h
      case hw91 => rfl
      case hy91 => (intro wq hSw; (try dsimp only at hSw); go_simp; (try with_reducible rfl))
      (try simp only [Act.put, List.setIfInBounds_toArray, List.set_cons_zero, List.set_cons_succ])
      refine' wpAnyH_take (i := 9) (oi := _) (v := _) ?hi92 (by kernel_rfl) (by kernel_rfl) (by kernel_rfl) ?hq92 (Or.inl ⟨?hw92, ?hy92⟩) (by assumption) ?rest92
      case hi92 => (simp only [List.getElem?_toArray, List.getElem?_cons_succ, List.getElem?_cons_zero]; rfl)
      case hq92 => exact fun _ _ _ h => h
      case hw92 => rfl
      case hy92 => (intro wq hSw; (try dsimp only at hSw); go_simp; (try with_reducible rfl))
      (try simp only [Act.put, List.setIfInBounds_toArray, List.set_cons_zero, List.set_cons_succ])
      refine' wpAnyH_take (i := 10) (oi := _) (v := _) ?hi93 (by kernel_rfl) (by kernel_rfl) (by kernel_rfl) ?hq93 (Or.inl ⟨?hw93, ?hy93⟩) (by assumption) ?rest93
      case hi93 => (simp only [List.getElem?_toArray, List.getElem?_cons_succ, List.getElem?_cons_zero]; rfl)
      case hq93 => exact fun _ _ _ h => h
      case hw93 => rfl
      case hy93 => (intro wq hSw; (try dsimp only at hSw); go_simp; (try with_reducible rfl))
      (try simp only [Act.put, List.setIfInBounds_toArray, List.set_cons_zero, List.set_cons_succ])
      refine' wpAnyH_take (i := 11) (oi := _) (v := _) ?hi94 (by kernel_rfl) (by kernel_rfl) (by kernel_rfl) ?hq94 (Or.inl ⟨?hw94, ?hy94⟩) (by assumption) ?rest94
      case hi94 => (simp only [List.getElem?_toArray, List.getElem?_cons_succ, List.getElem?_cons_zero]; rfl)
      case hq94 => exact fun _ _ _ h => h
      case hw94 => rfl
      case hy94 => (intro wq hSw; (try dsimp only at hSw); go_simp; (try with_reducible rfl))
      (try simp only [Act.put, List.setIfInBounds_toArray, List.set_cons_zero, List.set_cons_succ])
      refine wpAnyH_ready (rs := [7]) (by kernel_rfl) (by simp) ?_
      refine' AllReadyH.cons (o := _) ?hi95 (fun K hK => ?rest95) AllReadyH.nil
      case hi95 => (simp only [List.getElem?_toArray, List.getElem?_cons_succ, List.getElem?_cons_zero]; rfl)
      go_simp
      go_at_call 36
      refine (iLim_any ex 0 W1 _).mono ?_
      rintro e wl ⟨rfl, rfl⟩
      rw [HLx.out]
      refine hK.out _ _ (by (try dsimp only); exact ⟨HC.out.b1_3.1, HC.out.b1_3.2.1, HC.out.b1_3.2.2, HC.out.b0_3.1, HC.out.b0_3.2.1, HC.out.b0_3.2.2⟩) (fun hHeld => ?_)
      clear hK K
      (try simp only [Act.put, List.setIfInBounds_toArray, List.set_cons_zero, List.set_cons_succ])
      refine wpAnyH_ready (rs := [12]) (by kernel_rfl) (by simp) ?_
      refine' AllReadyH.cons (o := _) ?hi96 (fun K hK => ?rest96) AllReadyH.nil
      case hi96 => (simp only [List.getElem?_toArray, List.getElem?_cons_succ, List.getElem?_cons_zero]; rfl)
      go_simp
      go_at_call 36
      refine (iLim_any ey 0 H1 _).mono ?_
      rintro e wl ⟨rfl, rfl⟩
      rw [HLy.out]
      refine hK.out _ _ (by (try dsimp only); exact ⟨HC.out.b1_3.1, HC.out.b1_3.2.1, HC.out.b1_3.2.2, HC.out.b0_3.1, HC.out.b0_3.2.1, HC.out.b0_3.2.2⟩) (fun hHeld => ?_)
      clear hK K
      (try simp only [Act.put, List.setIfInBounds_toArray, List.set_cons_zero, List.set_cons_succ])
      refine wpAnyH_ready (rs := [13]) (by kernel_rfl) (by simp) ?_
      refine' AllReadyH.cons (o := _) ?hi97 (fun K hK => ?rest97) AllReadyH.nil
      case hi97 => (simp only [List.getElem?_toArray, List.getElem?_cons_succ, List.getElem?_cons_zero]; rfl)
      go_simp
      go_at_call 67
      refine (atN_any W H n Hn.out hW hH A c f cx cy hcx hcy _ (HC.out.arg Hg.out) hc).mono ?_
      rintro e wz ⟨rfl, hB⟩
      have HD := Lib.hid (HC.out.call hB)
      clear HC hB
      have HC := HD
      clear HD
      rw [HFv.out]
      refine hK.out _ _ (by (try dsimp only); exact ⟨HC.out.b1_3.1, HC.out.b1_3.2.1, HC.out.b1_3.2.2, HC.out.b0_3.1, HC.out.b0_3.2.1, HC.out.b0_3.2.2⟩) (fun hHeld => ?_)
      clear hK K
      (try simp only [Act.put, List.setIfInBounds_toArray, List.set_cons_zero, List.set_cons_succ])
      refine' wpAnyH_take (i := 14) (oi := _) (v := _) ?hi98 (by kernel_rfl) (by kernel_rfl) (by kernel_rfl) ?hq98 (Or.inl ⟨?hw98, ?hy98⟩) (by assumption) ?rest98
      case hi98 => (simp only [List.getElem?_toArray, List.getElem?_cons_succ, List.getElem?_cons_zero]; rfl)
      case hq98 => exact fun _ _ _ h => h
      case hw98 => rfl
      case hy98 => (intro wq hSw; (try dsimp only at hSw); go_simp; (try with_reducible rfl))
      (try simp only [Act.put, List.setIfInBounds_toArray, List.set_cons_zero, List.set_cons_succ])
      refine' wpAnyH_take (i := 15) (oi := _) (v := _) ?hi99 (by kernel_rfl) (by kernel_rfl) (by kernel_rfl) ?hq99 (Or.inl ⟨?hw99, ?hy99⟩) (by assumption) ?rest99
      case hi99 => (simp only [List.getElem?_toArray, List.getElem?_cons_succ, List.getElem?_cons_zero]; rfl)
      case hq99 => exact fun _ _ _ h => h
      case hw99 => rfl
      case hy99 => (intro wq hSw; (try dsimp only at hSw); go_simp; (try with_reducible rfl))
      (try simp only [Act.put, List.setIfInBounds_toArray, List.set_cons_zero, List.set_cons_succ])
      refine' wpAnyH_take (i := 16) (oi := _) (v := _) ?hi100 (by kernel_rfl) (by kernel_rfl) (by kernel_rfl) ?hq100 (Or.inl ⟨?hw100, ?hy100⟩) (by assumption) ?rest100
      case hi100 => (simp only [List.getElem?_toArray, List.getElem?_cons_succ, List.getElem?_cons_zero]; rfl)
      case hq100 => exact fun _ _ _ h => h
      case hw100 => rfl
      case hy100 => (intro wq hSw; (try dsimp only at hSw); go_simp; (try with_reducible rfl))
      (try simp only [Act.put, List.setIfInBounds_toArray, List.set_cons_zero, List.set_cons_succ])
      refine wpAnyH_done (by kernel_rfl) ?_ _
      go_wp2
      go_roundw
      case rel => exact ⟨k + 1, by omega, by go_num, by rw [HTn1.out], HC⟩
      case measure => simp [intOf]; omega
    · have hkN : k = N := by omega
      have HE : Hid (T k = T ks.length) := Lib.hid (by rw [hkN, HN.out])
      have HB := Lib.hid HS.out.below
      clear HS
      go_wp2
      go_ret
      exact ⟨ret_int HE.out, HB.out⟩
set_option maxHeartbeats 16000000 in
theorem iCv1_any (W H R D n : Nat) (hn : W * H = n) (hW1 : 1 ≤ W) (hW : W ≤ 16) (hH1 : 1 ≤ H) (hH : H ≤ 16) (hR2 : R ≤ 2) (hD1 : 1 ≤ D) (hD2 : D ≤ 999) (Ak : Option Addr) (ck : Nat) (ks : List Int) (N : Nat) (hN : N = ks.length) (hkl : N ≤ 25) (hkb : ∀ j, j < ks.length → -99 ≤ ks.getD j 0 ∧ ks.getD j 0 ≤ 99) (A : Option Addr) (c : Nat) (f : Nat → Nat → Int) (hf : ∀ x y, x < W → y < H → 0 ≤ f x y ∧ f x y ≤ 255) (hc : n ≤ c) (x y : Nat) (hx : x < W) (hy : y < H) (pk pg : Nat) (w : World) (hk : Rds .i64 w w.heap.size Ak ks) (hr : Rds .i64 w w.heap.size A (grN W H f))
    (h1 : Bx w pk 32 #[.int .i64 (R : Int), .slice Ak N ck, .int .i64 (D : Int)]) (h2 : Bx w pg 59 #[.int .i64 (W : Int), .int .i64 (H : Int), .slice A n c]) :
    Calls Try.prog 35 (#[.int .i64 (x : Int), .int .i64 (y : Int)] ++ #[.pointer (some ⟨pk, 0, none⟩), .pointer (some ⟨pg, 0, none⟩)]) w fun e w' => e = .returned (.int .i64 (cvV f W H R ks D x y)) ∧ Below w.heap.size w w' := by
  have Hk : Hid (Rds .i64 w.drew w.drew.heap.size Ak ks) := Lib.hid hk
  have Hr : Hid (Rds .i64 w.drew w.drew.heap.size A (grN W H f)) := Lib.hid hr
  obtain ⟨s, hs⟩ : ∃ s, s = cvS f W H R ks x y ks.length := ⟨_, rfl⟩
  have hsb := cvS_bd (R := R) hW1 hH1 hf hkb x y ks.length (Nat.le_refl _)
  rw [← hs] at hsb
  obtain ⟨q, hq⟩ : ∃ q, q = (2 * s + (D : Int)) / (2 * (D : Int)) := ⟨_, rfl⟩
  have HV : Hid (lim q 0 255 = cvV f W H R ks D x y) := Lib.hid (by rw [hq, hs]; rfl)
  have HSum : Hid (∀ u, Rds .i64 u u.heap.size Ak ks → Rds .i64 u u.heap.size A (grN W H f) → Calls Try.prog 38 #[.agg #[.int .i64 (R : Int), .slice Ak N ck, .int .i64 (D : Int)], .agg #[.int .i64 (W : Int), .int .i64 (H : Int), .slice A n c], .int .i64 (x : Int), .int .i64 (y : Int)] u fun e w' => e = .returned (.int .i64 s) ∧ Below u.heap.size u w') := Lib.hid (fun u a b => by
    have h := iSum_any W H R D n hn hW1 hW hH1 hH hR2 Ak ck ks N hN hkl hkb A c f hf hc x y hx hy u a b
    rw [← hs] at h
    exact h)
  have HNst : Hid (∀ u, Calls Try.prog 37 #[.int .i64 s, .int .i64 (D : Int)] u fun e w' => e = .returned (.int .i64 q) ∧ u = w') := Lib.hid (fun u => by rw [hq]; exact iNst_any s (D : Int) u (by omega) (by omega) (by omega) (by omega))
  obtain ⟨k0, k1, k2⟩ := bx3 h1
  obtain ⟨g0, g1, g2⟩ := bx3 h2
  have hpk := h1.lt
  have hpg := h2.lt
  clear hk hr h1 h2 hs hsb hq hn hN hkb hf
  show Calls Try.prog 35 #[.int .i64 (x : Int), .int .i64 (y : Int), .pointer (some ⟨pk, 0, none⟩), .pointer (some ⟨pg, 0, none⟩)] w _
  go_enter Try.func35, Try.ntmps35
  go_upto_region 1 with fail
  refine wp_region_held_drew (S := (fun w' => w'.cell? ⟨pk, 0, none⟩ = some (.int .i64 (R : Int)) ∧ w'.cell? ⟨pk, 1, none⟩ = some (.slice Ak N ck) ∧ w'.cell? ⟨pk, 2, none⟩ = some (.int .i64 (D : Int)) ∧ w'.cell? ⟨pg, 0, none⟩ = some (.int .i64 (W : Int)) ∧ w'.cell? ⟨pg, 1, none⟩ = some (.int .i64 (H : Int)) ∧ w'.cell? ⟨pg, 2, none⟩ = some (.slice A n c))) (by kernel_rfl) (by exact ⟨k0, k1, k2, g0, g1, g2⟩) (fun hHeld => ?_)
  refine' wpAnyH_take (i := 0) (oi := _) (v := _) ?hi101 (by kernel_rfl) (by kernel_rfl) (by kernel_rfl) ?hq101 (Or.inl ⟨?hw101, ?hy101⟩) (by assumption) ?rest101
  case hi101 => (simp only [List.getElem?_toArray, List.getElem?_cons_succ, List.getElem?_cons_zero]; rfl)
  case hq101 => exact fun _ _ _ h => h
  case hw101 => rfl
  case hy101 => (intro wq hSw; (try dsimp only at hSw); go_simp; (try with_reducible rfl))
  (try simp only [Act.put, List.setIfInBounds_toArray, List.set_cons_zero, List.set_cons_succ])
  refine' wpAnyH_take (i := 1) (oi := _) (v := _) ?hi102 (by kernel_rfl) (by kernel_rfl) (by kernel_rfl) ?hq102 (Or.inl ⟨?hw102, ?hy102⟩) (by assumption) ?rest102
  case hi102 => (simp only [List.getElem?_toArray, List.getElem?_cons_succ, List.getElem?_cons_zero]; rfl)
  case hq102 => exact fun _ _ _ h => h
  case hw102 => rfl
  case hy102 => (intro wq hSw; (try dsimp only at hSw); go_simp; (try with_reducible rfl))
  (try simp only [Act.put, List.setIfInBounds_toArray, List.set_cons_zero, List.set_cons_succ])
  refine' wpAnyH_take (i := 2) (oi := _) (v := _) ?hi103 (by kernel_rfl) (by kernel_rfl) (by kernel_rfl) ?hq103 (Or.inl ⟨?hw103, ?hy103⟩) (by assumption) ?rest103
  case hi103 => (simp only [List.getElem?_toArray, List.getElem?_cons_succ, List.getElem?_cons_zero]; rfl)
  case hq103 => exact fun _ _ _ h => h
  case hw103 => rfl
  case hy103 => (intro wq hSw; (try dsimp only at hSw); go_simp; (try with_reducible rfl))
  (try simp only [Act.put, List.setIfInBounds_toArray, List.set_cons_zero, List.set_cons_succ])
  refine' wpAnyH_take (i := 3) (oi := _) (v := _) ?hi104 (by kernel_rfl) (by kernel_rfl) (by kernel_rfl) ?hq104 (Or.inl ⟨?hw104, ?hy104⟩) (by assumption) ?rest104
  case hi104 => (simp only [List.getElem?_toArray, List.getElem?_cons_succ, List.getElem?_cons_zero]; rfl)
  case hq104 => exact fun _ _ _ h => h
  case hw104 => rfl
  case hy104 => (intro wq hSw; (try dsimp only at hSw); go_simp; (try with_reducible rfl))
  (try simp only [Act.put, List.setIfInBounds_toArray, List.set_cons_zero, List.set_cons_succ])
  refine' wpAnyH_take (i := 5) (oi := _) (v := _) ?hi105 (by kernel_rfl) (by kernel_rfl) (by kernel_rfl) ?hq105 (Or.inl ⟨?hw105, ?hy105⟩) (by assumption) ?rest105
  case hi105 => (simp only [List.getElem?_toArray, List.getElem?_cons_succ, List.getElem?_cons_zero]; rfl)
  case hq105 => exact fun _ _ _ h => h
  case hw105 => rfl
  case hy105 => (intro wq hSw; (try dsimp only at hSw); go_simp; (try with_reducible rfl))
  (try simp only [Act.put, List.setIfInBounds_toArray, List.set_cons_zero, List.set_cons_succ])
  refine' wpAnyH_take (i := 6) (oi := _) (v := _) ?hi106 (by kernel_rfl) (by kernel_rfl) (by kernel_rfl) ?hq106 (Or.inl ⟨?hw106, ?hy106⟩) (by assumption) ?rest106
  case hi106 => (simp only [List.getElem?_toArray, List.getElem?_cons_succ, List.getElem?_cons_zero]; rfl)
  case hq106 => exact fun _ _ _ h => h
  case hw106 => rfl
  case hy106 => (intro wq hSw; (try dsimp only at hSw); go_simp; (try with_reducible rfl))
  (try simp only [Act.put, List.setIfInBounds_toArray, List.set_cons_zero, List.set_cons_succ])
  refine wpAnyH_ready (rs := [4]) (by kernel_rfl) (by simp) ?_
  refine' AllReadyH.cons (o := _) ?hi107 (fun K hK => ?rest107) AllReadyH.nil
  case hi107 => (simp only [List.getElem?_toArray, List.getElem?_cons_succ, List.getElem?_cons_zero]; rfl)
  go_simp
  go_at_call 38
  refine (HSum.out _ Hk.out Hr.out).mono ?_
  rintro e wa ⟨rfl, hB⟩
  have d0 := (hB.cell (p := ⟨pk, 0, none⟩) (by exact hpk)).trans k0
  have d1 := (hB.cell (p := ⟨pk, 1, none⟩) (by exact hpk)).trans k1
  have d2 := (hB.cell (p := ⟨pk, 2, none⟩) (by exact hpk)).trans k2
  have d3 := (hB.cell (p := ⟨pg, 0, none⟩) (by exact hpg)).trans g0
  have d4 := (hB.cell (p := ⟨pg, 1, none⟩) (by exact hpg)).trans g1
  have d5 := (hB.cell (p := ⟨pg, 2, none⟩) (by exact hpg)).trans g2
  have HB3 := Lib.hid hB
  clear hB
  refine hK.out _ _ (by (try dsimp only); exact ⟨d0, d1, d2, d3, d4, d5⟩) (fun hHeld => ?_)
  clear hK K
  (try simp only [Act.put, List.setIfInBounds_toArray, List.set_cons_zero, List.set_cons_succ])
  refine wpAnyH_ready (rs := [7]) (by kernel_rfl) (by simp) ?_
  refine' AllReadyH.cons (o := _) ?hi108 (fun K hK => ?rest108) AllReadyH.nil
  case hi108 => (simp only [List.getElem?_toArray, List.getElem?_cons_succ, List.getElem?_cons_zero]; rfl)
  go_simp
  go_at_call 37
  refine (HNst.out _).mono ?_
  rintro e wb ⟨rfl, rfl⟩
  refine hK.out _ _ (by (try dsimp only); exact ⟨d0, d1, d2, d3, d4, d5⟩) (fun hHeld => ?_)
  clear hK K
  (try simp only [Act.put, List.setIfInBounds_toArray, List.set_cons_zero, List.set_cons_succ])
  refine wpAnyH_ready (rs := [8]) (by kernel_rfl) (by simp) ?_
  refine' AllReadyH.cons (o := _) ?hi109 (fun K hK => ?rest109) AllReadyH.nil
  case hi109 => (simp only [List.getElem?_toArray, List.getElem?_cons_succ, List.getElem?_cons_zero]; rfl)
  go_simp
  go_at_call 36
  refine (iLim_any q 0 255 _).mono ?_
  rintro e wc ⟨rfl, rfl⟩
  rw [HV.out]
  refine hK.out _ _ (by (try dsimp only); exact ⟨d0, d1, d2, d3, d4, d5⟩) (fun hHeld => ?_)
  clear hK K
  (try simp only [Act.put, List.setIfInBounds_toArray, List.set_cons_zero, List.set_cons_succ])
  refine' wpAnyH_take (i := 9) (oi := _) (v := _) ?hi110 (by kernel_rfl) (by kernel_rfl) (by kernel_rfl) ?hq110 (Or.inl ⟨?hw110, ?hy110⟩) (by assumption) ?rest110
  case hi110 => (simp only [List.getElem?_toArray, List.getElem?_cons_succ, List.getElem?_cons_zero]; rfl)
  case hq110 => exact fun _ _ _ h => h
  case hw110 => rfl
  case hy110 => (intro wq hSw; (try dsimp only at hSw); go_simp; (try with_reducible rfl))
  (try simp only [Act.put, List.setIfInBounds_toArray, List.set_cons_zero, List.set_cons_succ])
  refine wpAnyH_done (by kernel_rfl) ?_ _
  have HB4 : Hid (Below w.heap.size w wa) := Lib.hid ((show Below w.heap.size w w.drew from ⟨rfl, rfl, rfl, Nat.le_refl _, fun _ _ => rfl⟩).trans HB3.out)
  clear d0 d1 d2 d3 d4 d5 g0 g1 g2 k0 k1 k2 HB3
  go_wp2
  go_ret
  exact ⟨rfl, HB4.out⟩
set_option maxHeartbeats 8000000 in
theorem iCv2_any (W H R D n : Nat) (hn : W * H = n) (hW1 : 1 ≤ W) (hW : W ≤ 16) (hH1 : 1 ≤ H) (hH : H ≤ 16) (hR2 : R ≤ 2) (hD1 : 1 ≤ D) (hD2 : D ≤ 999) (Ak : Option Addr) (ck : Nat) (ks : List Int) (N : Nat) (hN : N = ks.length) (hkl : N ≤ 25) (hkb : ∀ j, j < ks.length → -99 ≤ ks.getD j 0 ∧ ks.getD j 0 ≤ 99) (A : Option Addr) (c : Nat) (f : Nat → Nat → Int) (hf : ∀ x y, x < W → y < H → 0 ≤ f x y ∧ f x y ≤ 255) (hc : n ≤ c) (pk : Nat) (w : World) (hk : Rds .i64 w w.heap.size Ak ks) (hr : Rds .i64 w w.heap.size A (grN W H f))
    (h1 : Bx w pk 32 #[.int .i64 (R : Int), .slice Ak N ck, .int .i64 (D : Int)]) :
    Calls Try.prog 33 (#[.agg #[.int .i64 (W : Int), .int .i64 (H : Int), .slice A n c]] ++ #[.pointer (some ⟨pk, 0, none⟩)]) w (GridI W H (cvV f W H R ks D) w) := by
  have Hk := Lib.hid hk
  have Hr := Lib.hid hr
  have HF := Lib.hid hf
  have HKb := Lib.hid hkb
  have Hn := Lib.hid hn
  have HN := Lib.hid hN
  have HP := Lib.hid h1
  have hpk := h1.lt
  have Eg : Hid (∀ args w, (callFunc 35 args).run Try.prog w = .ok (.enter 35 args) w) := Lib.hid (enters_of Try.func35 (by kernel_rfl) rfl)
  have S0 : GS w ((w.alloc (.cells #[.int .i64 (W : Int), .int .i64 (H : Int), .slice A n c] 59)).alloc (.cells #[.int .i64 0, .int .i64 0, .slice none 0 0] 59)) [] [⟨w.heap.size + 1, 59, #[.int .i64 0, .int .i64 0, .slice none 0 0]⟩, ⟨w.heap.size, 59, #[.int .i64 (W : Int), .int .i64 (H : Int), .slice A n c]⟩] := GS.box' (GS.box' (GS.start w) _ _ w.heap.size rfl) _ _ (w.heap.size + 1) (by simp)
  have HS := Lib.hid S0
  clear hk hr hf hkb hn hN h1
  show Calls Try.prog 33 #[.agg #[.int .i64 (W : Int), .int .i64 (H : Int), .slice A n c], .pointer (some ⟨pk, 0, none⟩)] w _
  obtain ⟨b0, b1, b2⟩ := S0.b1_3
  clear S0
  go_enter Try.func33, Try.ntmps33
  go_wp2_with fail
  clear b0 b1 b2
  generalize (w.alloc (.cells #[.int .i64 (W : Int), .int .i64 (H : Int), .slice A n c] 59)).alloc (.cells #[.int .i64 0, .int .i64 0, .slice none 0 0] 59) = u at *
  refine (buildN_any W H hW hH 35 #[.pointer (some ⟨pk, 0, none⟩), .pointer (some ⟨w.heap.size, 0, none⟩)] (cvV f W H R ks D) u Eg.out (fun x y w' hx hy hbel =>
    iCv1_any W H R D n Hn.out hW1 hW hH1 hH hR2 hD1 hD2 Ak ck ks N HN.out hkl HKb.out A c f HF.out hc x y hx hy pk w.heap.size w' ((HS.out.call hbel).arg Hk.out) ((HS.out.call hbel).arg Hr.out) (HP.out.below ((HS.out.call hbel).below)) ((HS.out.call hbel).bx (by simp)))).mono ?_
  rintro e w4 ⟨v4, rfl, hO4, hB4⟩
  have S4 := HS.out.add hO4 hB4
  obtain ⟨A4, c4, rfl, _⟩ := hO4.slice
  obtain ⟨r0, r1, r2⟩ := S4.b0_3
  have f0 := S4.f0 0
  have f1 := S4.f0 1
  have f2 := S4.f0 2
  have HE := Lib.hid (S4.e0_3 (.int .i64 (W : Int)) (.int .i64 (H : Int)) (.slice A4 (img W H 1 (fun x y _ => cvV f W H R ks D x y)).length c4))
  clear S4 HS hO4 hB4 HF Eg
  go_wp2
  exact bodyPost_ret (v := .agg #[.int .i64 (W : Int), .int .i64 (H : Int), .slice A4 (img W H 1 (fun x y _ => cvV f W H R ks D x y)).length c4]) (by simp [results, Try.results33, go_sem, r0, r1, r2]) rfl ⟨_, rfl, HE.out.2 _ (List.Mem.head _), HE.out.1⟩
set_option maxHeartbeats 16000000 in
theorem i_ConvolveImage (W H P : Int) (A : Option Addr) (c : Nat) (xs : List Int) (R D : Int) (Ak : Option Addr) (ck : Nat) (ks : List Int) (w : World) (hx : Rds .i64 w w.heap.size A xs) (hl : xs.length ≤ 2000000) (hlc : xs.length ≤ c) (hk : Rds .i64 w w.heap.size Ak ks) (hkl : ks.length ≤ 2000000) :
    Calls Try.prog 11 #[.agg #[.int .i64 W, .int .i64 H, .int .i64 P, .slice A xs.length c], .agg #[.int .i64 R, .slice Ak ks.length ck, .int .i64 D]] w (MadeIf (cvOk W H P xs R ks D) W H P (cvL W.toNat H.toNat P.toNat xs R.toNat ks D.toNat) w) := by
  have HX := Lib.hid hx
  have HK := Lib.hid hk
  obtain ⟨N, hN⟩ : ∃ N, N = ks.length := ⟨_, rfl⟩
  have HN := Lib.hid hN
  rw [← hN] at hkl ⊢
  clear hx hk hN
  have S0 : GS w (((w.alloc (.cells #[.int .i64 W, .int .i64 H, .int .i64 P, .slice A xs.length c] 29)).alloc (.cells #[.int .i64 R, .slice Ak N ck, .int .i64 D] 32)).alloc (.cells #[.int .i64 0, .int .i64 0, .int .i64 0, .slice none 0 0] 29)) [] [⟨w.heap.size + 2, 29, #[.int .i64 0, .int .i64 0, .int .i64 0, .slice none 0 0]⟩, ⟨w.heap.size + 1, 32, #[.int .i64 R, .slice Ak N ck, .int .i64 D]⟩, ⟨w.heap.size, 29, #[.int .i64 W, .int .i64 H, .int .i64 P, .slice A xs.length c]⟩] := GS.box' (GS.box' (GS.box' (GS.start w) _ _ w.heap.size rfl) _ _ (w.heap.size + 1) (by simp)) _ _ (w.heap.size + 2) (by simp)
  have Eg : Hid (∀ args w, (callFunc 33 args).run Try.prog w = .ok (.enter 33 args) w) := Lib.hid (enters_of Try.func33 (by kernel_rfl) rfl)
  have HV : Hid (cvOk W H P xs R ks D = (vim W H P xs && knOk R ks D)) := Lib.hid rfl
  go_enter Try.func11, Try.ntmps11
  go_wp2_with fail
  generalize ((w.alloc (.cells #[.int .i64 W, .int .i64 H, .int .i64 P, .slice A xs.length c] 29)).alloc (.cells #[.int .i64 R, .slice Ak N ck, .int .i64 D] 32)).alloc (.cells #[.int .i64 0, .int .i64 0, .int .i64 0, .slice none 0 0] 29) = u0 at *
  refine (iVimg_any W H P A c xs u0 (S0.arg HX.out) hl).mono ?_
  rintro e u1 ⟨rfl, hB⟩
  have S1 := S0.call hB
  clear hB S0
  cases hv : vim W H P xs
  · have Hf : Hid (cvOk W H P xs R ks D = false) := Lib.hid (by rw [HV.out, hv]; rfl)
    clear hv HV
    obtain ⟨r0, r1, r2, r3⟩ := S1.b0_4
    have f0 := S1.f0 0
    have f1 := S1.f0 1
    have f2 := S1.f0 2
    have f3 := S1.f0 3
    have HE := Lib.hid (S1.e0_4 (.int .i64 0) (.int .i64 0) (.int .i64 0) (.slice none 0 0))
    clear S1
    go_wp2
    exact bodyPost_ret (v := .agg #[.int .i64 0, .int .i64 0, .int .i64 0, .slice none 0 0]) (by simp [results, Try.results11, go_sem, r0, r1, r2, r3]) rfl (MadeIf.no Hf.out ⟨_, rfl, World.ownsRow_nil _ _ _ _, HE.out.1⟩)
  · obtain ⟨b0, b1, b2⟩ := S1.b1_3
    go_wp2_with fail
    clear b0 b1 b2
    refine (iKv_any R Ak ck ks N HN.out D u1 (S1.arg HK.out) (by have := HN.out; omega)).mono ?_
    rintro e u2 ⟨rfl, hB⟩
    have S2 := S1.call hB
    clear hB S1
    cases hk : knOk R ks D
    · have Hf : Hid (cvOk W H P xs R ks D = false) := Lib.hid (by rw [HV.out, hv, hk]; rfl)
      clear hv hk HV
      obtain ⟨r0, r1, r2, r3⟩ := S2.b0_4
      have f0 := S2.f0 0
      have f1 := S2.f0 1
      have f2 := S2.f0 2
      have f3 := S2.f0 3
      have HE := Lib.hid (S2.e0_4 (.int .i64 0) (.int .i64 0) (.int .i64 0) (.slice none 0 0))
      clear S2
      go_wp2
      exact bodyPost_ret (v := .agg #[.int .i64 0, .int .i64 0, .int .i64 0, .slice none 0 0]) (by simp [results, Try.results11, go_sem, r0, r1, r2, r3]) rfl (MadeIf.no Hf.out ⟨_, rfl, World.ownsRow_nil _ _ _ _, HE.out.1⟩)
    · have Ht : Hid (cvOk W H P xs R ks D = true) := Lib.hid (by rw [HV.out, hv, hk]; rfl)
      obtain ⟨W, H, P, rfl, rfl, rfl, hW1, hW, hH1, hH, hP1, hP, hln, hby⟩ := vim_nat hv
      obtain ⟨R, D, rfl, rfl, hR2, ⟨hD1, hD2⟩, _, hk25, hkb⟩ := knOk_nat hk
      have HLn := Lib.hid hln
      have HKb := Lib.hid hkb
      have hN25 : N ≤ 25 := by have := HN.out; omega
      have HF : Hid (∀ p, p < P → ∀ x y, x < W → y < H → 0 ≤ px W P xs x y p ∧ px W P xs x y p ≤ 255) := Lib.hid (fun p hp x y hx hy => hby _ (by
        have h1 := row_lt hx hy
        have := Nat.mul_le_mul_right P (show y * W + x + 1 ≤ W * H from h1)
        rw [Nat.add_mul, Nat.one_mul] at this
        show pix W P x y p < xs.length
        unfold pix; rw [hln]; omega))
      have HS := Lib.hid S2
      obtain ⟨d0, d1, d2, d3⟩ := S2.b2_4
      clear hv hk HV hln hby S2 hkb hk25
      go_wp2_with fail
      refine (iChP_any W H P W H hW hH hP1 hP hW1 hW hH1 hH A c xs HLn.out (fun p => cvV (fun a b => px W P xs a b p) W H R ks D) 33 #[.pointer (some ⟨w.heap.size + 1, 0, none⟩)] u2 (HS.out.arg HX.out) Eg.out
        (fun p A' c' n' w' hp hbel hn' hc' hr' => iCv2_any W H R D n' hn' hW1 hW hH1 hH hR2 hD1 hD2 Ak ck ks N HN.out hN25 HKb.out A' c' (fun x y => px W P xs x y p) (HF.out p hp) hc' (w.heap.size + 1) w' ((HS.out.call hbel).arg HK.out) hr' ((HS.out.call hbel).bx (by simp)))).mono ?_
      rintro e u4 ⟨v4, rfl, hO4, hB4⟩
      have S4 := HS.out.add hO4 hB4
      obtain ⟨A4, c4, rfl, _⟩ := hO4.slice
      obtain ⟨r0, r1, r2, r3⟩ := S4.b0_4
      have f0 := S4.f0 0
      have f1 := S4.f0 1
      have f2 := S4.f0 2
      have f3 := S4.f0 3
      have HE := Lib.hid (S4.e0_4 (.int .i64 (W : Int)) (.int .i64 (H : Int)) (.int .i64 (P : Int)) (.slice A4 (img W H P (fun x y p => cvV (fun a b => px W P xs a b p) W H R ks D x y)).length c4))
      clear S4 HS hO4 hB4 d0 d1 d2 d3
      go_wp2
      exact bodyPost_ret (v := .agg #[.int .i64 (W : Int), .int .i64 (H : Int), .int .i64 (P : Int), .slice A4 (img W H P (fun x y p => cvV (fun a b => px W P xs a b p) W H R ks D x y)).length c4]) (by simp [results, Try.results11, go_sem, r0, r1, r2, r3]) rfl (MadeIf.yes Ht.out ⟨_, rfl, HE.out.2 _ (List.Mem.head _), HE.out.1⟩)
end Go.Proofs.Ytjgcondkoaegnaa
