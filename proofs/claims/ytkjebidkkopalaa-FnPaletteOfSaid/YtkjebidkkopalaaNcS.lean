/- The model's nearest color. -/
import Derived.Test.YtkjebidkkopalaaNcM
import Derived.Test.YtkjebidkkopalaaImgA
import Derived.Deep.QuietTactic
import Derived.BigQuiet
namespace Go.Proofs.Ytkjebidkkopalaa
open Go.RowKit
set_option linter.unusedSimpArgs false
set_option linter.unusedVariables false
set_option maxRecDepth 20000

set_option maxHeartbeats 4000000 in
theorem sGap_any (A A' : Option Addr) (c c' n n' P : Nat) (xs ys : List Int) (B B' : Nat) (w : World) (hn : n = xs.length) (hn' : n' = ys.length) (hP : P ≤ 4) (hl : xs.length = P) (hl' : ys.length = P) (hx : Rds .i64 w B A xs) (hy : Rds .i64 w B' A' ys) (bx : allB 0 255 xs = true) (by' : allB 0 255 ys = true) :
    Calls Try.prog 88 #[.slice A n c, .slice A' n' c'] w fun e w' => e = .returned (.int .i64 (gapN xs ys n)) ∧ ∃ m, w' = w.drewN m := by
  have HX := Lib.hid hx
  have HY := Lib.hid hy
  have HB := Lib.hid (fun k hk => gapN_bd (xs := xs) (ys := ys) (n := P) (fun j hj => allB_get bx j (by omega)) (fun j hj => allB_get by' j (by omega)) k hk)
  have HBX := Lib.hid (allB_get bx)
  have HBY := Lib.hid (allB_get by')
  obtain rfl : n = P := by omega
  obtain rfl : n' = n := by omega
  have Hl := Lib.hid hl
  have Hl' := Lib.hid hl'
  clear hx hy bx by' hn hn' hl hl'
  go_enter Try.func88, Try.ntmps88
  go_wp2
  go_loopw [5, 6] (fun s i wr => ∃ k : Nat, k ≤ n' ∧ i = .int .i64 k ∧ s = .int .i64 (gapN xs ys k) ∧ ∃ m, wr = w.drewN m) (fun _ i _ => n' - (intOf i).toNat)
  case atStart => exact ⟨0, Nat.zero_le _, rfl, rfl, 0, rfl⟩
  case round =>
    obtain ⟨k, hk, rfl, rfl, m, rfl⟩ := hrel
    by_cases hlt : k < n'
    · obtain ⟨b, off, rfl, _, hc⟩ := HX.out.cells_ (j := k) (by rw [Hl.out]; exact hlt)
      obtain ⟨b', off', rfl, _, hc'⟩ := HY.out.cells_ (j := k) (by rw [Hl'.out]; exact hlt)
      have h1 := hc k (by rw [Hl.out]; exact hlt)
      have h2 := hc' k (by rw [Hl'.out]; exact hlt)
      obtain ⟨s0, s1⟩ := HB.out k hk
      obtain ⟨x0, x1⟩ := HBX.out k (by rw [Hl.out]; exact hlt)
      obtain ⟨y0, y1⟩ := HBY.out k (by rw [Hl'.out]; exact hlt)
      have HG : Hid (gapN xs ys (k + 1) = gapN xs ys k + sq (xs.getD k 0) (ys.getD k 0)) := Lib.hid rfl
      clear hc hc'
      generalize xs.getD k 0 = x at *
      generalize ys.getD k 0 = y at *
      generalize gapN xs ys k = T at *
      obtain ⟨q0, q1⟩ := sq_bd ⟨x0, x1⟩ ⟨y0, y1⟩
      unfold sq at q0 q1 HG
      have hw1 : IntKind.i64.wrap (x - y) = x - y := IntWalk.i64_in _ (by omega)
      have hw2 : IntKind.i64.wrap ((x - y) * (x - y)) = (x - y) * (x - y) := IntWalk.i64_in _ (by omega)
      go_wp2
      go_quiet (fail)
      go_wp2
      go_roundw
      case rel => exact ⟨k + 1, by omega, by go_num, by rw [HG.out], _, by first | exact rfl | exact World.drewN_drewN _ _ _⟩
      case measure => simp [intOf]; omega
    · have hk' : k = n' := by omega
      subst hk'
      go_wp2
      go_ret
      exact ⟨rfl, m, rfl⟩
set_option maxHeartbeats 4000000 in
theorem sVcs_any (A : Option Addr) (c n B : Nat) (xss : List (List Int)) (P : Int) (w : World) (hn : n = xss.length) (h : Rdss w B A xss) (hl : tot xss ≤ 2000000) :
    Calls Try.prog 67 #[.slice A n c, .int .i64 P] w fun e w' => e = .returned (.bool (palB xss P)) ∧ w = w' := by
  have Hh := Lib.hid h
  have Hn := Lib.hid hn
  have HL : Hid (∀ i, i < xss.length → (xss.getD i []).length ≤ 2000000) := Lib.hid fun i hi => Nat.le_trans (len_le_tot hi) hl
  have hnl : n ≤ 2000000 := by rw [hn]; unfold tot at hl; omega
  clear h hn hl
  go_enter Try.func67, Try.ntmps67
  go_wp2
  go_loop [5] (fun i => ∃ k : Nat, k ≤ n ∧ i = .int .i64 k ∧ Hid (clN xss P k)) (fun i => n - (intOf i).toNat)
  case atStart => exact ⟨0, Nat.zero_le _, rfl, Lib.hid (fun i hi => by omega)⟩
  case round =>
    obtain ⟨k, hk, rfl, HC⟩ := hrel
    by_cases hlt : k < n
    · have hkl : k < xss.length := by have := Hn.out; omega
      obtain ⟨b, off, Ai, ci, rfl, hb, hci, hc, hr⟩ := Hh.out.at hkl
      have hml := HL.out k hkl
      have HR := Lib.hid hr
      have HNO : Hid ((decide (((xss.getD k []).length : Int) = P) && allB 0 255 (xss.getD k [])) = false → palB xss P = false) := Lib.hid (palB_no hkl)
      have HYES : Hid (((xss.getD k []).length : Int) = P → allB 0 255 (xss.getD k []) = true → clN xss P (k + 1)) := Lib.hid (fun h1 h2 i hi => by
        by_cases e : i = k
        · subst e; exact ⟨h1, h2⟩
        · exact HC.out i (by omega))
      clear hr
      generalize xss.getD k [] = xs at *
      by_cases hp : (xs.length : Int) = P
      · have hb1 : ((xs.length : Int) != P) = false := bne_eq_false_iff_eq.2 hp
        have HP := Lib.hid hp
        clear hp
        go_wp2_with fail
        refine (sAllIn_any Ai ci _ xs 0 255 _ HR.out (by omega)).mono ?_
        rintro e w2 ⟨rfl, rfl⟩
        cases hv : allB 0 255 xs
        · have HF := Lib.hid (HNO.out (by rw [hv, Bool.and_false]))
          clear hv
          go_wp2
          go_ret
          exact ⟨ret_bool HF.out.symm, rfl⟩
        · have HF := Lib.hid (HYES.out HP.out hv)
          clear hv
          go_wp2
          go_round
          case rel => exact ⟨k + 1, by omega, by go_num, HF⟩
          case measure => simp [intOf]; omega
      · have hb1 : ((xs.length : Int) != P) = true := bne_iff_ne.2 hp
        have HF := Lib.hid (HNO.out (by rw [decide_eq_false hp, Bool.false_and]))
        clear hp
        go_wp2
        go_ret
        exact ⟨ret_bool HF.out.symm, rfl⟩
    · have hk' : k = n := by omega
      have HF : Hid (palB xss P = decide ((n : Int) ≤ 16)) := Lib.hid (by
        have hnx := Hn.out
        rw [palB_yes (by rw [← hnx, ← hk']; exact HC.out), ← hnx]
        exact decide_eq_decide.2 (by omega))
      go_wp2
      go_ret
      exact ⟨ret_bool (by rw [HF.out]), rfl⟩
set_option maxHeartbeats 8000000 in
theorem sNear_any (A A' : Option Addr) (c c' n n' P B B' : Nat) (xss : List (List Int)) (ys : List Int) (w : World) (hn : n = xss.length) (hn' : n' = ys.length) (hP : P ≤ 4) (hl' : ys.length = P) (h : Rdss w B A xss) (hy : Rds .i64 w B' A' ys) (hc : clN xss P xss.length) (by' : allB 0 255 ys = true) (h0 : 0 < n) (h16 : n ≤ 16) :
    Calls Try.prog 68 #[.slice A n c, .slice A' n' c'] w fun e w' => e = .returned (.int .i64 (ncN xss ys n : Nat)) ∧ ∃ m, w' = w.drewN m := by
  have Hh := Lib.hid h
  have HY := Lib.hid hy
  have Hn := Lib.hid hn
  have Hn' := Lib.hid hn'
  have HC := Lib.hid hc
  have HB' := Lib.hid by'
  have Hl' := Lib.hid hl'
  clear h hy hn hn' hc by' hl'
  go_enter Try.func68, Try.ntmps68
  go_wp2
  go_loopw [5, 6] (fun s i wr => ∃ k : Nat, 1 ≤ k ∧ k ≤ n ∧ i = .int .i64 k ∧ s = .int .i64 (ncN xss ys k : Nat) ∧ ∃ m, wr = w.drewN m) (fun _ i _ => n - (intOf i).toNat)
  case atStart => exact ⟨1, by omega, by omega, rfl, by rw [ncN_one]; rfl, 0, rfl⟩
  case round =>
    obtain ⟨k, hk1, hk, rfl, rfl, hwr⟩ := hrel
    have hkp : ∀ p, wr.cell? p = w.cell? p := by obtain ⟨m, rfl⟩ := hwr; intro p; rfl
    have HYw := Lib.hid (HY.out.keep (w' := wr) fun p _ => hkp p)
    have HWR := Lib.hid hwr
    clear hwr
    by_cases hlt : k < n
    · have hkl : k < xss.length := by have := Hn.out; omega
      have hz := ncN_lt xss ys k (by omega)
      have HN : Hid (ncN xss ys (k + 1) = if gpL xss ys k < gpL xss ys (ncN xss ys k) then k else ncN xss ys k) := Lib.hid rfl
      generalize ncN xss ys k = z at *
      have hzl : z < xss.length := by omega
      obtain ⟨b, off, Ai, ci, rfl, _, hci, hc0, hr0⟩ := Hh.out.at hkl
      obtain ⟨b2, off2, Bi, di, e2, _, hdi, hd0, hs0⟩ := Hh.out.at hzl
      injection e2 with e2; injection e2 with e2 e3; subst e2; subst e3
      have hp1 := HC.out k hkl
      have hp2 := HC.out z hzl
      have HR := Lib.hid (hr0.keep (w' := wr) fun p _ => hkp p)
      have hc := (hkp _).trans hc0
      have hd := (hkp _).trans hd0
      have HS := Lib.hid (hs0.keep (w' := wr) fun p _ => hkp p)
      have hg1 := gpL_bd hP hp1 Hl'.out HB'.out
      have hg2 := gpL_bd hP hp2 Hl'.out HB'.out
      have HP1 := Lib.hid hp1
      have HP2 := Lib.hid hp2
      clear hr0 hs0 hp1 hp2 hci hdi hc0 hd0 hkp
      obtain ⟨g1, e1⟩ : ∃ g, g = gpL xss ys k := ⟨_, rfl⟩
      obtain ⟨g2, e2⟩ : ∃ g, g = gpL xss ys z := ⟨_, rfl⟩
      have E1 : Hid (gapN (xss.getD k []) ys (xss.getD k []).length = g1) := Lib.hid e1.symm
      have E2 : Hid (gapN (xss.getD z []) ys (xss.getD z []).length = g2) := Lib.hid e2.symm
      rw [← e1, ← e2] at HN
      rw [← e1] at hg1
      rw [← e2] at hg2
      clear e1 e2
      generalize xss.getD k [] = xs at *
      generalize xss.getD z [] = zs at *
      have HW1 := fun w' hr hs => sGap_any Ai A' ci c' xs.length n' P xs ys B B' w' rfl Hn'.out hP (by have := HP1.out.1; omega) Hl'.out hr hs HP1.out.2 HB'.out
      have HW2 := fun w' hr hs => sGap_any Bi A' di c' zs.length n' P zs ys B B' w' rfl Hn'.out hP (by have := HP2.out.1; omega) Hl'.out hr hs HP2.out.2 HB'.out
      rw [E1.out] at HW1
      rw [E2.out] at HW2
      have HH1 := Lib.hid HW1
      have HH2 := Lib.hid HW2
      clear HW1 HW2
      have HRn := Lib.hid (fun n => HR.out.keep (w' := wr.drewN n) fun _ _ => rfl)
      have HSn := Lib.hid (fun n => HS.out.keep (w' := wr.drewN n) fun _ _ => rfl)
      have HYn := Lib.hid (fun n => HYw.out.keep (w' := wr.drewN n) fun _ _ => rfl)
      by_cases hg : g1 < g2
      · have HE : Hid (ncN xss ys (k + 1) = k) := Lib.hid (by rw [HN.out, if_pos hg])
        clear HN
        go_wp2
        go_quiet ((go_at_call 88; first | with_reducible exact Calls.quiet_of (HH1.out _ (HRn.out _) (HYn.out _)) | with_reducible exact Calls.quiet_of (HH2.out _ (HSn.out _) (HYn.out _))))
        go_wp2
        go_roundw
        case rel => exact ⟨k + 1, by omega, by omega, by go_num, by rw [HE.out], by obtain ⟨m, e⟩ := HWR.out; exact ⟨_, by rw [e]; first | exact rfl | exact World.drewN_drewN _ _ _⟩⟩
        case measure => simp [intOf]; omega
      · have HE : Hid (ncN xss ys (k + 1) = z) := Lib.hid (by rw [HN.out, if_neg hg])
        clear HN
        go_wp2
        go_quiet ((go_at_call 88; first | with_reducible exact Calls.quiet_of (HH1.out _ (HRn.out _) (HYn.out _)) | with_reducible exact Calls.quiet_of (HH2.out _ (HSn.out _) (HYn.out _))))
        go_wp2
        go_roundw
        case rel => exact ⟨k + 1, by omega, by omega, by go_num, by rw [HE.out], by obtain ⟨m, e⟩ := HWR.out; exact ⟨_, by rw [e]; first | exact rfl | exact World.drewN_drewN _ _ _⟩⟩
        case measure => simp [intOf]; omega
    · have hk' : k = n := by omega
      subst hk'
      go_wp2
      go_ret
      exact ⟨rfl, HWR.out⟩
set_option maxHeartbeats 8000000 in
theorem s_NearestColor (A A' : Option Addr) (c c' n n' : Nat) (xss : List (List Int)) (ys : List Int) (w : World) (hn : n = xss.length) (hn' : n' = ys.length) (h : Rdss w w.heap.size A xss) (hy : Rds .i64 w w.heap.size A' ys) (hl : tot xss ≤ 2000000) (hl' : ys.length ≤ 2000000) :
    Calls Try.prog 22 #[.slice A n c, .slice A' n' c'] w fun e w' => e = .returned (.int .i64 (ncV xss ys)) ∧ Below w.heap.size w w' := by
  have Hh := Lib.hid h
  have HY := Lib.hid hy
  have Hn := Lib.hid hn
  have Hn' := Lib.hid hn'
  have HNO : Hid (ncOk xss ys = false → ncV xss ys = -1) := Lib.hid (fun h => by unfold ncV; rw [h]; rfl)
  have HYS : Hid (ncOk xss ys = true → ncV xss ys = (ncN xss ys xss.length : Nat)) := Lib.hid (fun h => by unfold ncV; rw [h]; rfl)
  have HD : Hid (ncOk xss ys = (decide (1 ≤ (ys.length : Int) ∧ (ys.length : Int) ≤ 4) && (allB 0 255 ys && (palB xss ys.length && !decide (xss.length = 0))))) := Lib.hid rfl
  rw [← hn, ← hn'] at HD
  rw [← hn] at HYS
  have hnl' : n' ≤ 2000000 := by omega
  have Hl := Lib.hid hl
  have Hl' := Lib.hid hl'
  clear h hy hn hn' hl hl'
  go_enter Try.func22, Try.ntmps22
  go_wp2_with fail
  refine (sIn_any _ 1 4 _).mono ?_
  rintro e w2 ⟨rfl, rfl⟩
  by_cases h1 : 1 ≤ (n' : Int) ∧ (n' : Int) ≤ 4
  · have HP4 := Lib.hid h1
    rw [decide_eq_true h1] at HD ⊢
    clear h1
    go_wp2_with fail
    have hcon := sAllIn_any A' c' _ ys 0 255 w HY.out (by have := Hl'.out; omega)
    rw [← Hn'.out] at hcon
    refine hcon.mono ?_
    rintro e w2 ⟨rfl, rfl⟩
    cases hv : allB 0 255 ys
    · have HF := Lib.hid (HNO.out (by rw [HD.out, hv]; rfl))
      clear hv
      go_wp2
      go_ret
      exact ⟨by rw [HF.out]; rfl, Below.refl _ _⟩
    · have HV := Lib.hid hv
      rw [hv] at HD
      clear hv
      go_wp2_with fail
      refine (sVcs_any A c n _ xss n' w Hn.out Hh.out Hl.out).mono ?_
      rintro e w2 ⟨rfl, rfl⟩
      cases hv : palB xss n'
      · have HF := Lib.hid (HNO.out (by rw [HD.out, hv]; rfl))
        clear hv
        go_wp2
        go_ret
        exact ⟨by rw [HF.out]; rfl, Below.refl _ _⟩
      · have HV2 := Lib.hid hv
        have h16 : n ≤ 16 := by rw [Hn.out]; exact (palB_of hv).1
        rw [hv] at HD
        clear hv
        by_cases h0 : n = 0
        · have HF := Lib.hid (HNO.out (by rw [HD.out, decide_eq_true h0]; rfl))
          subst h0
          go_wp2
          go_ret
          exact ⟨by rw [HF.out]; rfl, Below.refl _ _⟩
        · have HF := Lib.hid (HYS.out (by rw [HD.out, decide_eq_false h0]; rfl))
          have hb : ((n : Int) == 0) = false := beq_eq_false_iff_ne.2 (by omega)
          have H0 := Lib.hid h0
          clear h0
          go_wp2_with fail
          refine (sNear_any A A' c c' n n' n' _ _ xss ys w Hn.out Hn'.out (by have := HP4.out; omega) Hn'.out.symm Hh.out HY.out (palB_of HV2.out).2 HV.out (by have := H0.out; omega) h16).mono ?_
          rintro e w2 ⟨rfl, m, rfl⟩
          go_wp2
          go_ret
          exact ⟨by rw [HF.out]; rfl, ⟨rfl, rfl, rfl, Nat.le_refl _, fun _ _ => rfl⟩⟩
  · rw [decide_eq_false h1] at HD ⊢
    have HF := Lib.hid (HNO.out (by rw [HD.out]; rfl))
    clear h1
    go_wp2
    go_ret
    exact ⟨by rw [HF.out]; rfl, Below.refl _ _⟩
end Go.Proofs.Ytkjebidkkopalaa
