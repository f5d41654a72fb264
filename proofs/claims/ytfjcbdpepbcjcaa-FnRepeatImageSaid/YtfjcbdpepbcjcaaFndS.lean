/- Contracts of FindImage and CountImage in the model. -/
import Derived.Test.YtfjcbdpepbcjcaaFndA
import Derived.Test.YtfjcbdpepbcjcaaGridF
namespace Go.Proofs.Ytfjcbdpepbcjcaa
open Go.RowKit Go.Shelf
set_option linter.unusedSimpArgs false
set_option linter.unusedVariables false
set_option maxRecDepth 20000

def fdB (W H P : Int) (xs : List Int) (W' H' P' : Int) (ps : List Int) : Bool := vim W H P xs && (vim W' H' P' ps && (decide (P = P') && (decide (W' ≤ W) && decide (H' ≤ H))))
theorem fdB_nat {W H P W' H' P' : Int} {xs ps : List Int} (h : fdB W H P xs W' H' P' ps = true) : ∃ w h p w' h' : Nat, W = w ∧ H = h ∧ P = p ∧ W' = w' ∧ H' = h' ∧ P' = p ∧ (1 ≤ w ∧ w ≤ 16) ∧ (1 ≤ h ∧ h ≤ 16) ∧ (1 ≤ p ∧ p ≤ 4) ∧ (1 ≤ w' ∧ w' ≤ w) ∧ (1 ≤ h' ∧ h' ≤ h) ∧ xs.length = w * h * p ∧ ps.length = w' * h' * p ∧ (∀ j, j < xs.length → 0 ≤ xs.getD j 0 ∧ xs.getD j 0 ≤ 255) ∧ ∀ j, j < ps.length → 0 ≤ ps.getD j 0 ∧ ps.getD j 0 ≤ 255 := by
  unfold fdB at h
  simp only [Bool.and_eq_true, decide_eq_true_eq] at h
  obtain ⟨h1, h2, h3, h4, h5⟩ := h
  obtain ⟨w, h, p, rfl, rfl, rfl, a1, a2, a3, a4, a5, a6, a7, a8⟩ := vim_nat h1
  obtain ⟨w', h', p', rfl, rfl, e, b1, b2, b3, b4, b5, b6, b7, b8⟩ := vim_nat h2
  have ep : p' = p := by omega
  subst ep
  exact ⟨w, h, p', w', h', rfl, rfl, rfl, rfl, rfl, e, ⟨a1, a2⟩, ⟨a3, a4⟩, ⟨a5, a6⟩, ⟨b1, by omega⟩, ⟨b3, by omega⟩, a7, b7, a8, b8⟩
/-- The number of the nearest place. -/
def fdK (W H P : Nat) (xs : List Int) (PW PH : Nat) (ps : List Int) : Nat := fdI (fdG W P xs PW PH ps) ((W - PW + 1) * (H - PH + 1))
def FndR (b : Bool) (W H P : Nat) (xs : List Int) (PW PH : Int) (ps : List Int) (w : World) (e : Ending) (w' : World) : Prop :=
  e = .returned (.tuple #[.agg #[.int .i64 (cond b ((fdK W H P xs PW.toNat PH.toNat ps % (W - PW.toNat + 1) : Nat) : Int) 0), .int .i64 (cond b ((fdK W H P xs PW.toNat PH.toNat ps / (W - PW.toNat + 1) : Nat) : Int) 0), .int .i64 (cond b PW 0), .int .i64 (cond b PH 0)], .int .i64 (cond b (fdG W P xs PW.toNat PH.toNat ps (fdK W H P xs PW.toNat PH.toNat ps)) (-1))]) ∧ Below w.heap.size w w'

set_option maxHeartbeats 8000000 in
theorem s_FindImage (W H P W' H' P' : Int) (A A' : Option Addr) (c c' : Nat) (xs ps : List Int) (w : World) (hx : Rds .i64 w w.heap.size A xs) (hl : xs.length ≤ 2000000) (hlc : xs.length ≤ c) (hy : Rds .i64 w w.heap.size A' ps) (hl' : ps.length ≤ 2000000) (hlc' : ps.length ≤ c') :
    Calls Try.prog 10 #[.agg #[.int .i64 W, .int .i64 H, .int .i64 P, .slice A xs.length c], .agg #[.int .i64 W', .int .i64 H', .int .i64 P', .slice A' ps.length c']] w (FndR (fdB W H P xs W' H' P' ps) W.toNat H.toNat P.toNat xs W' H' ps w) := by
  have HX := Lib.hid hx
  have HY := Lib.hid hy
  have S0 := (((GS.start w).box' 30 #[.int .i64 W, .int .i64 H, .int .i64 P, .slice A xs.length c] w.heap.size (by simp)).box' 30 #[.int .i64 W', .int .i64 H', .int .i64 P', .slice A' ps.length c'] (w.heap.size + 1) (by simp)).box' 27 #[.int .i64 0, .int .i64 0, .int .i64 0, .int .i64 0] (w.heap.size + 1 + 1) (by simp)
  clear hx hy
  go_enter Try.func10, Try.ntmps10
  go_wp2_with fail
  generalize ((w.alloc (.cells #[.int .i64 W, .int .i64 H, .int .i64 P, .slice A xs.length c] 30)).alloc (.cells #[.int .i64 W', .int .i64 H', .int .i64 P', .slice A' ps.length c'] 30)).alloc (.cells #[.int .i64 0, .int .i64 0, .int .i64 0, .int .i64 0] 27) = u0 at *
  refine (sVimg_any W H P A c xs u0 (S0.arg HX.out) hl).mono ?_
  rintro e u1 ⟨rfl, hB⟩
  have S1 := Lib.hid (S0.call hB)
  clear hB S0
  cases hv : vim W H P xs
  · have HF : Hid (fdB W H P xs W' H' P' ps = false) := Lib.hid (by unfold fdB; rw [hv]; rfl)
    obtain ⟨r0, r1, r2, r3⟩ := S1.out.b0_4
    have f0 := S1.out.f0 0
    have f1 := S1.out.f0 1
    have f2 := S1.out.f0 2
    have f3 := S1.out.f0 3
    have HE := Lib.hid (S1.out.e0_4 (.int .i64 0) (.int .i64 0) (.int .i64 0) (.int .i64 0)).1
    clear S1
    go_wp2
    exact bodyPost_ret (v := .tuple #[.agg #[.int .i64 0, .int .i64 0, .int .i64 0, .int .i64 0], .int .i64 (-1)]) (by simp [results, Try.results10, go_sem, r0, r1, r2, r3]) rfl ⟨by rw [HF.out]; rfl, HE.out⟩

  obtain ⟨p0, p1, p2, p3⟩ := S1.out.b1_4
  go_wp2_with fail
  clear p0 p1 p2 p3
  refine (sVimg_any W' H' P' A' c' ps u1 (S1.out.arg HY.out) hl').mono ?_
  rintro e u2 ⟨rfl, hB⟩
  have S2 := Lib.hid (S1.out.call hB)
  clear hB S1
  cases hv' : vim W' H' P' ps
  · have HF : Hid (fdB W H P xs W' H' P' ps = false) := Lib.hid (by unfold fdB; rw [hv, hv']; rfl)
    obtain ⟨r0, r1, r2, r3⟩ := S2.out.b0_4
    have f0 := S2.out.f0 0
    have f1 := S2.out.f0 1
    have f2 := S2.out.f0 2
    have f3 := S2.out.f0 3
    have HE := Lib.hid (S2.out.e0_4 (.int .i64 0) (.int .i64 0) (.int .i64 0) (.int .i64 0)).1
    clear S2
    go_wp2
    exact bodyPost_ret (v := .tuple #[.agg #[.int .i64 0, .int .i64 0, .int .i64 0, .int .i64 0], .int .i64 (-1)]) (by simp [results, Try.results10, go_sem, r0, r1, r2, r3]) rfl ⟨by rw [HF.out]; rfl, HE.out⟩

  obtain ⟨p0, p1, p2, p3⟩ := S2.out.b1_4
  obtain ⟨m0, m1, m2, m3⟩ := S2.out.b2_4
  by_cases hP : P = P'
  rotate_left
  · have HF : Hid (fdB W H P xs W' H' P' ps = false) := Lib.hid (by unfold fdB; rw [hv, hv', decide_eq_false hP]; rfl)
    obtain ⟨r0, r1, r2, r3⟩ := S2.out.b0_4
    have f0 := S2.out.f0 0
    have f1 := S2.out.f0 1
    have f2 := S2.out.f0 2
    have f3 := S2.out.f0 3
    have HE := Lib.hid (S2.out.e0_4 (.int .i64 0) (.int .i64 0) (.int .i64 0) (.int .i64 0)).1
    clear S2
    go_wp2
    exact bodyPost_ret (v := .tuple #[.agg #[.int .i64 0, .int .i64 0, .int .i64 0, .int .i64 0], .int .i64 (-1)]) (by simp [results, Try.results10, go_sem, r0, r1, r2, r3]) rfl ⟨by rw [HF.out]; rfl, HE.out⟩

  by_cases hWW : W < W'
  · have HF : Hid (fdB W H P xs W' H' P' ps = false) := Lib.hid (by unfold fdB; rw [hv, hv', decide_eq_false (by omega : ¬ W' ≤ W)]; simp)
    obtain ⟨r0, r1, r2, r3⟩ := S2.out.b0_4
    have f0 := S2.out.f0 0
    have f1 := S2.out.f0 1
    have f2 := S2.out.f0 2
    have f3 := S2.out.f0 3
    have HE := Lib.hid (S2.out.e0_4 (.int .i64 0) (.int .i64 0) (.int .i64 0) (.int .i64 0)).1
    clear S2
    go_wp2
    exact bodyPost_ret (v := .tuple #[.agg #[.int .i64 0, .int .i64 0, .int .i64 0, .int .i64 0], .int .i64 (-1)]) (by simp [results, Try.results10, go_sem, r0, r1, r2, r3]) rfl ⟨by rw [HF.out]; rfl, HE.out⟩

  by_cases hHH : H < H'
  · have HF : Hid (fdB W H P xs W' H' P' ps = false) := Lib.hid (by unfold fdB; rw [hv, hv', decide_eq_false (by omega : ¬ H' ≤ H)]; simp)
    obtain ⟨r0, r1, r2, r3⟩ := S2.out.b0_4
    have f0 := S2.out.f0 0
    have f1 := S2.out.f0 1
    have f2 := S2.out.f0 2
    have f3 := S2.out.f0 3
    have HE := Lib.hid (S2.out.e0_4 (.int .i64 0) (.int .i64 0) (.int .i64 0) (.int .i64 0)).1
    clear S2
    go_wp2
    exact bodyPost_ret (v := .tuple #[.agg #[.int .i64 0, .int .i64 0, .int .i64 0, .int .i64 0], .int .i64 (-1)]) (by simp [results, Try.results10, go_sem, r0, r1, r2, r3]) rfl ⟨by rw [HF.out]; rfl, HE.out⟩

  have hB : fdB W H P xs W' H' P' ps = true := by unfold fdB; rw [hv, hv', decide_eq_true hP, decide_eq_true (by omega : W' ≤ W), decide_eq_true (by omega : H' ≤ H)]; rfl
  obtain ⟨W, H, P, PW, PH, rfl, rfl, rfl, rfl, rfl, rfl, ⟨hW1, hW⟩, ⟨hH1, hH⟩, ⟨hP1, hP4⟩, ⟨hw1, hw⟩, ⟨hh1, hh⟩, hxl, hpl, hxb, hpb⟩ := fdB_nat hB
  have HBt := Lib.hid hB
  clear hv hv' hB hP
  have HXL := Lib.hid hxl
  have HPL := Lib.hid hpl
  have HXB := Lib.hid hxb
  have HPB := Lib.hid hpb
  clear hxl hpl hxb hpb
  obtain ⟨q, hq⟩ : ∃ q, q = u2.heap.size := ⟨_, rfl⟩
  have S3 := Lib.hid (S2.out.box' 27 #[.int .i64 0, .int .i64 0, .int .i64 (PW : Int), .int .i64 (PH : Int)] q hq)
  have hml := S2.out.l2
  have hpl := S2.out.l1
  have hn1 : ¬ W < PW := by omega
  have hn2 : ¬ H < PH := by omega
  go_wp2_with fail
  rw [← hq]
  generalize u2.alloc (.cells #[.int .i64 0, .int .i64 0, .int .i64 (PW : Int), .int .i64 (PH : Int)] 27) = u3 at *
  clear S2 hq hml hpl p0 p1 p2 p3 m0 m1 m2 m3
  refine (sgapAt_any W H P 0 0 PW PH hW1 hW hH1 hH hP1 hP4 hw1 hh1 (by omega) (by omega) A A' c c' xs ps HXL.out hlc HPL.out HXB.out HPB.out u3 (S3.out.arg HX.out) (S3.out.arg HY.out)).mono ?_
  rintro e u4 ⟨rfl, hB⟩
  obtain ⟨N, hN⟩ : ∃ N, N = W - PW + 1 := ⟨_, rfl⟩
  obtain ⟨M, hM⟩ : ∃ M, M = H - PH + 1 := ⟨_, rfl⟩
  obtain ⟨G, hG⟩ : ∃ G, G = fdG W P xs PW PH ps := ⟨_, rfl⟩
  have hG0 : fdV W P xs PW PH ps 0 0 = G (fdI G 0) := by rw [hG]; unfold fdG fdI; rw [Nat.zero_mod, Nat.zero_div]
  have HGa : Hid (∀ x y, x < N → fdV W P xs PW PH ps x y = G (y * N + x)) := Lib.hid (fun x y hx => by rw [hG]; unfold fdG; rw [← hN, row_mod hx, row_div hx])
  have HS : Hid (GS w u4 [] [⟨q, 27, #[.int .i64 ((fdI G 0 % N : Nat) : Int), .int .i64 ((fdI G 0 / N : Nat) : Int), .int .i64 (PW : Int), .int .i64 (PH : Int)]⟩, ⟨w.heap.size + 1 + 1, 27, #[.int .i64 0, .int .i64 0, .int .i64 0, .int .i64 0]⟩, ⟨w.heap.size + 1, 30, #[.int .i64 (PW : Int), .int .i64 (PH : Int), .int .i64 (P : Int), .slice A' ps.length c']⟩, ⟨w.heap.size, 30, #[.int .i64 (W : Int), .int .i64 (H : Int), .int .i64 (P : Int), .slice A xs.length c]⟩]) := Lib.hid (by have := S3.out.call hB; rw [show fdI G 0 = 0 from rfl, Nat.zero_mod, Nat.zero_div]; exact this)
  have HE : Hid (FndR true W H P xs (PW : Int) (PH : Int) ps w = fun e w' => e = .returned (.tuple #[.agg #[.int .i64 ((fdI G (N * M) % N : Nat) : Int), .int .i64 ((fdI G (N * M) / N : Nat) : Int), .int .i64 (PW : Int), .int .i64 (PH : Int)], .int .i64 (G (fdI G (N * M)))]) ∧ Below w.heap.size w w') := Lib.hid (by unfold FndR fdK; simp only [Int.toNat_natCast, cond_true, ← hN, ← hM, ← hG])
  clear hB S3
  rw [hG0]
  have HEn : Hid (FndR true (W : Int).toNat (H : Int).toNat (P : Int).toNat xs (PW : Int) (PH : Int) ps w = _) := HE
  clear HE hG0 hG
  have hN' : N + PW = W + 1 := by omega
  have hM' : M + PH = H + 1 := by omega
  clear hN hM
  go_wp2
  go_loopw [7, 8] (fun l y wr => ∃ Y : Nat, Y ≤ M ∧ y = .int .i64 (Y : Int) ∧ l = .int .i64 (G (fdI G (Y * N))) ∧ Hid (GS w wr [] [⟨q, 27, #[.int .i64 ((fdI G (Y * N) % N : Nat) : Int), .int .i64 ((fdI G (Y * N) / N : Nat) : Int), .int .i64 (PW : Int), .int .i64 (PH : Int)]⟩, ⟨w.heap.size + 1 + 1, 27, #[.int .i64 0, .int .i64 0, .int .i64 0, .int .i64 0]⟩, ⟨w.heap.size + 1, 30, #[.int .i64 (PW : Int), .int .i64 (PH : Int), .int .i64 (P : Int), .slice A' ps.length c']⟩, ⟨w.heap.size, 30, #[.int .i64 (W : Int), .int .i64 (H : Int), .int .i64 (P : Int), .slice A xs.length c]⟩])) (fun _ y _ => M - (intOf y).toNat)
  case atStart => exact ⟨0, Nat.zero_le _, rfl, by rw [Nat.zero_mul], by rw [Nat.zero_mul]; exact HS⟩
  case round =>
    obtain ⟨Y, hY, rfl, rfl, HR⟩ := hrel
    clear HS
    obtain ⟨p0, p1, p2, p3⟩ := HR.out.b2_4
    obtain ⟨m0, m1, m2, m3⟩ := HR.out.b3_4
    by_cases hlt : Y < M
    · have hyc : (Y : Int) + (PH : Int) ≤ (H : Int) := by omega
      go_wp2
      clear p0 p1 p2 p3 m0 m1 m2 m3
      go_loopw [7, 9] (fun l x wr => ∃ X : Nat, X ≤ N ∧ x = .int .i64 (X : Int) ∧ l = .int .i64 (G (fdI G (Y * N + X))) ∧ Hid (GS w wr [] [⟨q, 27, #[.int .i64 ((fdI G (Y * N + X) % N : Nat) : Int), .int .i64 ((fdI G (Y * N + X) / N : Nat) : Int), .int .i64 (PW : Int), .int .i64 (PH : Int)]⟩, ⟨w.heap.size + 1 + 1, 27, #[.int .i64 0, .int .i64 0, .int .i64 0, .int .i64 0]⟩, ⟨w.heap.size + 1, 30, #[.int .i64 (PW : Int), .int .i64 (PH : Int), .int .i64 (P : Int), .slice A' ps.length c']⟩, ⟨w.heap.size, 30, #[.int .i64 (W : Int), .int .i64 (H : Int), .int .i64 (P : Int), .slice A xs.length c]⟩])) (fun _ x _ => N - (intOf x).toNat)
      case atStart => exact ⟨0, Nat.zero_le _, rfl, rfl, HR⟩
      case round =>
        clear HR
        obtain ⟨X, hX, rfl, rfl, HR⟩ := hrel
        obtain ⟨p0, p1, p2, p3⟩ := HR.out.b2_4
        obtain ⟨m0, m1, m2, m3⟩ := HR.out.b3_4
        rename World => wr
        by_cases hltx : X < N
        · have hxc : (X : Int) + (PW : Int) ≤ (W : Int) := by omega
          go_wp2_with fail
          clear p0 p1 p2 p3 m0 m1 m2 m3
          refine (sgapAt_any W H P X Y PW PH hW1 hW hH1 hH hP1 hP4 hw1 hh1 (by omega) (by omega) A A' c c' xs ps HXL.out hlc HPL.out HXB.out HPB.out wr (HR.out.arg HX.out) (HR.out.arg HY.out)).mono ?_
          rintro e w5 ⟨rfl, hB⟩
          have HR5 := Lib.hid (HR.out.call hB)
          clear hB HR
          rw [HGa.out X Y hltx]
          by_cases hg : G (Y * N + X) < G (fdI G (Y * N + X))
          · have HI : Hid (fdI G (Y * N + X + 1) = Y * N + X) := Lib.hid (by show (if _ then _ else _) = _; rw [if_pos hg])
            obtain ⟨p0, p1, p2, p3⟩ := HR5.out.b2_4
            obtain ⟨b0, b1, b2, b3⟩ := HR5.out.b0_4
            have hql := HR5.out.l0
            have hpl := HR5.out.l2
            have f0 := HR5.out.f0 0
            have f1 := HR5.out.f0 1
            have f2 := HR5.out.f0 2
            have f3 := HR5.out.f0 3
            have HR6 := Lib.hid (HR5.out.fill4 (.int .i64 (X : Int)) (.int .i64 (Y : Int)) (.int .i64 (PW : Int)) (.int .i64 (PH : Int)))
            go_wp2
            go_roundw
            case rel => exact ⟨X + 1, by omega, by go_num, by rw [show Y * N + (X + 1) = Y * N + X + 1 from rfl, HI.out], by rw [show Y * N + (X + 1) = Y * N + X + 1 from rfl, HI.out, row_mod hltx, row_div hltx]; exact HR6⟩
            case measure => simp [intOf]; omega
          · have HI : Hid (fdI G (Y * N + X + 1) = fdI G (Y * N + X)) := Lib.hid (by show (if _ then _ else _) = _; rw [if_neg hg])
            go_wp2
            go_roundw
            case rel => exact ⟨X + 1, by omega, by go_num, by rw [show Y * N + (X + 1) = Y * N + X + 1 from rfl, HI.out], by rw [show Y * N + (X + 1) = Y * N + X + 1 from rfl, HI.out]; exact HR5⟩
            case measure => simp [intOf]; omega
        · have e : X = N := by omega
          subst e
          go_wp2
          go_roundw
          case rel => exact ⟨Y + 1, by omega, by go_num, by rw [Nat.succ_mul], by rw [Nat.succ_mul]; exact HR⟩
          case measure => simp [intOf]; omega
    · have e : Y = M := by omega
      subst e
      obtain ⟨b0, b1, b2, b3⟩ := HR.out.b0_4
      obtain ⟨r0, r1, r2, r3⟩ := HR.out.b1_4
      have f0 := HR.out.f1 0
      have f1 := HR.out.f1 1
      have f2 := HR.out.f1 2
      have f3 := HR.out.f1 3
      have HN : Hid (N * Y = Y * N) := Lib.hid (Nat.mul_comm _ _)
      have HE := Lib.hid (HR.out.e1_4 (.int .i64 ((fdI G (Y * N) % N : Nat) : Int)) (.int .i64 ((fdI G (Y * N) / N : Nat) : Int)) (.int .i64 (PW : Int)) (.int .i64 (PH : Int))).1
      clear HR
      go_wp2
      exact bodyPost_ret (v := .tuple #[.agg #[.int .i64 ((fdI G (Y * N) % N : Nat) : Int), .int .i64 ((fdI G (Y * N) / N : Nat) : Int), .int .i64 (PW : Int), .int .i64 (PH : Int)], .int .i64 (G (fdI G (Y * N)))]) (by simp [results, Try.results10, go_sem, r0, r1, r2, r3]) rfl (by rw [HBt.out]; refine (congrFun (congrFun HEn.out _) _).mpr ?_; exact ⟨by first | rfl | rw [HN.out], HE.out⟩)
set_option maxHeartbeats 8000000 in
theorem s_CountImage (W H P W' H' P' : Int) (A A' : Option Addr) (c c' : Nat) (xs ps : List Int) (w : World) (hx : Rds .i64 w w.heap.size A xs) (hl : xs.length ≤ 2000000) (hlc : xs.length ≤ c) (hy : Rds .i64 w w.heap.size A' ps) (hl' : ps.length ≤ 2000000) (hlc' : ps.length ≤ c') :
    Calls Try.prog 15 #[.agg #[.int .i64 W, .int .i64 H, .int .i64 P, .slice A xs.length c], .agg #[.int .i64 W', .int .i64 H', .int .i64 P', .slice A' ps.length c']] w fun e w' => e = .returned (.int .i64 (cond (fdB W H P xs W' H' P' ps) ((fdZ (fdG W.toNat P.toNat xs W'.toNat H'.toNat ps) ((W.toNat - W'.toNat + 1) * (H.toNat - H'.toNat + 1)) : Nat) : Int) (-1))) ∧ Below w.heap.size w w' := by
  have HX := Lib.hid hx
  have HY := Lib.hid hy
  have S0 := ((GS.start w).box' 30 #[.int .i64 W, .int .i64 H, .int .i64 P, .slice A xs.length c] w.heap.size (by simp)).box' 30 #[.int .i64 W', .int .i64 H', .int .i64 P', .slice A' ps.length c'] (w.heap.size + 1) (by simp)
  clear hx hy
  go_enter Try.func15, Try.ntmps15
  go_wp2_with fail
  generalize (w.alloc (.cells #[.int .i64 W, .int .i64 H, .int .i64 P, .slice A xs.length c] 30)).alloc (.cells #[.int .i64 W', .int .i64 H', .int .i64 P', .slice A' ps.length c'] 30) = u0 at *
  refine (s_FindImage W H P W' H' P' A A' c c' xs ps u0 (S0.arg HX.out) hl hlc (S0.arg HY.out) hl' hlc').mono ?_
  rintro e u2 ⟨rfl, hB⟩
  have S2 := Lib.hid (S0.call hB)
  clear hB S0
  by_cases hb : ¬ fdB W H P xs W' H' P' ps = true
  · have hb' : fdB W H P xs W' H' P' ps = false := by cases h : fdB W H P xs W' H' P' ps; rfl; exact absurd h hb
    have HE := Lib.hid ((S2.out.box 27 #[.int .i64 0, .int .i64 0, .int .i64 0, .int .i64 0]).below)
    have HBf := Lib.hid hb'
    rw [hb']
    clear hb hb'
    simp only [cond_false]
    go_wp2
    go_ret
    exact ⟨by rw [HBf.out]; rfl, HE.out⟩
  have hB := Classical.not_not.1 hb
  clear hb
  have HBt := Lib.hid hB
  rw [hB]
  obtain ⟨W, H, P, PW, PH, rfl, rfl, rfl, rfl, rfl, rfl, ⟨hW1, hW⟩, ⟨hH1, hH⟩, ⟨hP1, hP4⟩, ⟨hw1, hw⟩, ⟨hh1, hh⟩, hxl, hpl, hxb, hpb⟩ := fdB_nat hB
  clear hB
  have HXL := Lib.hid hxl
  have HPL := Lib.hid hpl
  have HXB := Lib.hid hxb
  have HPB := Lib.hid hpb
  obtain ⟨N, hN⟩ : ∃ N, N = W - PW + 1 := ⟨_, rfl⟩
  obtain ⟨M, hM⟩ : ∃ M, M = H - PH + 1 := ⟨_, rfl⟩
  have hpos : 0 ≤ fdG W P xs PW PH ps (fdK W H P xs PW PH ps) := by
    have hk : fdK W H P xs PW PH ps < N * M := by unfold fdK; rw [← hN, ← hM]; exact fdI_lt _ _ (Nat.mul_pos (by omega) (by omega))
    have hk1 : fdK W H P xs PW PH ps % N < N := Nat.mod_lt _ (by omega)
    have hk2 : fdK W H P xs PW PH ps / N < M := (Nat.div_lt_iff_lt_mul (by omega)).mpr (by rw [Nat.mul_comm]; exact hk)
    have h1024 : PW * PH * P ≤ 1024 := by have := Nat.mul_le_mul (Nat.mul_le_mul (show PW ≤ 16 by omega) (show PH ≤ 16 by omega)) hP4; omega
    unfold fdG
    rw [← hN]
    exact (fdV_bd hxl hxb hpl hpb (by omega) (by omega) h1024).1
  clear hxl hpl hxb hpb
  obtain ⟨G, hG⟩ : ∃ G, G = fdG W P xs PW PH ps := ⟨_, rfl⟩
  have HGa : Hid (∀ x y, x < N → fdV W P xs PW PH ps x y = G (y * N + x)) := Lib.hid (fun x y hx => by rw [hG]; unfold fdG; rw [← hN, row_mod hx, row_div hx])
  have HE : Hid (fdZ (fdG (W : Int).toNat (P : Int).toNat xs (PW : Int).toNat (PH : Int).toNat ps) (((W : Int).toNat - (PW : Int).toNat + 1) * ((H : Int).toNat - (PH : Int).toNat + 1)) = fdZ G (N * M)) := Lib.hid (by simp only [Int.toNat_natCast, ← hN, ← hM, ← hG])
  simp only [Int.toNat_natCast, cond_true]
  rw [← hN]
  generalize (fdK W H P xs PW PH ps % N) = k1 at *
  generalize (fdK W H P xs PW PH ps / N) = k2 at *
  generalize fdG W P xs PW PH ps (fdK W H P xs PW PH ps) = lv at *
  have HS : Hid (GS w (u2.alloc (.cells #[.int .i64 (k1 : Int), .int .i64 (k2 : Int), .int .i64 (PW : Int), .int .i64 (PH : Int)] 27)) [] [⟨u2.heap.size, 27, #[.int .i64 (k1 : Int), .int .i64 (k2 : Int), .int .i64 (PW : Int), .int .i64 (PH : Int)]⟩, ⟨w.heap.size + 1, 30, #[.int .i64 (PW : Int), .int .i64 (PH : Int), .int .i64 (P : Int), .slice A' ps.length c']⟩, ⟨w.heap.size, 30, #[.int .i64 (W : Int), .int .i64 (H : Int), .int .i64 (P : Int), .slice A xs.length c]⟩]) := Lib.hid (S2.out.box _ _)
  clear S2 hG
  have hN' : N + PW = W + 1 := by omega
  have hM' : M + PH = H + 1 := by omega
  clear hN hM
  have hlv : ¬ lv < 0 := by omega
  go_wp2
  generalize u2.alloc (.cells #[.int .i64 (k1 : Int), .int .i64 (k2 : Int), .int .i64 (PW : Int), .int .i64 (PH : Int)] 27) = u3 at *
  have hNM : N * M ≤ 256 := by have := Nat.mul_le_mul (show N ≤ 16 by omega) (show M ≤ 16 by omega); omega
  have HNM := Lib.hid hNM
  clear hNM hpos
  go_loopw [5, 8] (fun l y wr => ∃ Y : Nat, Y ≤ M ∧ y = .int .i64 (Y : Int) ∧ l = .int .i64 ((fdZ G (Y * N) : Nat) : Int) ∧ Hid (GS w wr [] [⟨u2.heap.size, 27, #[.int .i64 (k1 : Int), .int .i64 (k2 : Int), .int .i64 (PW : Int), .int .i64 (PH : Int)]⟩, ⟨w.heap.size + 1, 30, #[.int .i64 (PW : Int), .int .i64 (PH : Int), .int .i64 (P : Int), .slice A' ps.length c']⟩, ⟨w.heap.size, 30, #[.int .i64 (W : Int), .int .i64 (H : Int), .int .i64 (P : Int), .slice A xs.length c]⟩])) (fun _ y _ => M - (intOf y).toNat)
  case atStart => exact ⟨0, Nat.zero_le _, rfl, by rw [Nat.zero_mul]; rfl, HS⟩
  case round =>
    obtain ⟨Y, hY, rfl, rfl, HR⟩ := hrel
    clear HS
    obtain ⟨p0, p1, p2, p3⟩ := HR.out.b1_4
    obtain ⟨m0, m1, m2, m3⟩ := HR.out.b2_4
    by_cases hlt : Y < M
    · have hyc : (Y : Int) + (PH : Int) ≤ (H : Int) := by omega
      go_wp2
      clear p0 p1 p2 p3 m0 m1 m2 m3
      go_loopw [5, 9] (fun l x wr => ∃ X : Nat, X ≤ N ∧ x = .int .i64 (X : Int) ∧ l = .int .i64 ((fdZ G (Y * N + X) : Nat) : Int) ∧ Hid (GS w wr [] [⟨u2.heap.size, 27, #[.int .i64 (k1 : Int), .int .i64 (k2 : Int), .int .i64 (PW : Int), .int .i64 (PH : Int)]⟩, ⟨w.heap.size + 1, 30, #[.int .i64 (PW : Int), .int .i64 (PH : Int), .int .i64 (P : Int), .slice A' ps.length c']⟩, ⟨w.heap.size, 30, #[.int .i64 (W : Int), .int .i64 (H : Int), .int .i64 (P : Int), .slice A xs.length c]⟩])) (fun _ x _ => N - (intOf x).toNat)
      case atStart => exact ⟨0, Nat.zero_le _, rfl, rfl, HR⟩
      case round =>
        clear HR
        obtain ⟨X, hX, rfl, rfl, HR⟩ := hrel
        obtain ⟨p0, p1, p2, p3⟩ := HR.out.b1_4
        obtain ⟨m0, m1, m2, m3⟩ := HR.out.b2_4
        rename World => wr
        by_cases hltx : X < N
        · have hxc : (X : Int) + (PW : Int) ≤ (W : Int) := by omega
          have hk : Y * N + X < N * M := row_lt hltx hlt
          have hz := fdZ_le G (Y * N + X)
          have hz2 : fdZ G (Y * N + X) ≤ 256 := by have := HNM.out; omega
          clear hk hz
          go_wp2_with fail
          clear p0 p1 p2 p3 m0 m1 m2 m3
          refine (sgapAt_any W H P X Y PW PH hW1 hW hH1 hH hP1 hP4 hw1 hh1 (by omega) (by omega) A A' c c' xs ps HXL.out hlc HPL.out HXB.out HPB.out wr (HR.out.arg HX.out) (HR.out.arg HY.out)).mono ?_
          rintro e w5 ⟨rfl, hB⟩
          have HR5 := Lib.hid (HR.out.call hB)
          clear hB HR
          rw [HGa.out X Y hltx]
          by_cases hg : G (Y * N + X) = 0
          · have HI : Hid (fdZ G (Y * N + X + 1) = fdZ G (Y * N + X) + 1) := Lib.hid (by show _ + (if _ then _ else _) = _; rw [if_pos hg])
            go_wp2
            go_roundw
            case rel => exact ⟨X + 1, by omega, by go_num, by rw [show Y * N + (X + 1) = Y * N + X + 1 from rfl, HI.out]; go_num, HR5⟩
            case measure => simp [intOf]; omega
          · have HI : Hid (fdZ G (Y * N + X + 1) = fdZ G (Y * N + X)) := Lib.hid (by show _ + (if _ then _ else _) = _; rw [if_neg hg]; rfl)
            go_wp2
            go_roundw
            case rel => exact ⟨X + 1, by omega, by go_num, by rw [show Y * N + (X + 1) = Y * N + X + 1 from rfl, HI.out]; (try go_num), HR5⟩
            case measure => simp [intOf]; omega
        · have e : X = N := by omega
          subst e
          go_wp2
          go_roundw
          case rel => exact ⟨Y + 1, by omega, by go_num, by rw [Nat.succ_mul], HR⟩
          case measure => simp [intOf]; omega
    · have e : Y = M := by omega
      subst e
      have HN : Hid (N * Y = Y * N) := Lib.hid (Nat.mul_comm _ _)
      go_wp2
      go_ret
      exact ⟨by rw [HBt.out, HE.out, HN.out]; rfl, HR.out.below⟩
end Go.Proofs.Ytfjcbdpepbcjcaa
