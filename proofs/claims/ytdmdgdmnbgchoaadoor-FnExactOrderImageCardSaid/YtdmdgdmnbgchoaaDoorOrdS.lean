/- Contract of OrderImage in the model. -/
import Derived.Test.YtdmdgdmnbgchoaaDoorOrdM
import Derived.Test.YtdmdgdmnbgchoaaDoorImgB
import Derived.Test.YtdmdgdmnbgchoaaDoorInvI
import Derived.Test.YtdmdgdmnbgchoaaDoorMapI
import Derived.Test.YtdmdgdmnbgchoaaDoorGenP
import Derived.Test.YtdmdgdmnbgchoaaDoorGridF
import Derived.Deep.RegionHeld3
namespace Go.Proofs.YtdmdgdmnbgchoaaDoor
open Go.RowKit Go.Shelf
set_option linter.unusedSimpArgs false
set_option linter.unusedVariables false
set_option maxRecDepth 20000

theorem take_put {L xs : List Int} (hl : L.length = xs.length) {j : Nat} (hj : j < xs.length) : (L.take j ++ xs.drop j).set j (L.getD j 0) = L.take (j + 1) ++ xs.drop (j + 1) := by
  have hlj : (L.take j).length = j := by rw [List.length_take]; omega
  have hd : xs.drop j = xs[j] :: xs.drop (j + 1) := List.drop_eq_getElem_cons hj
  have ht : L.take (j + 1) = L.take j ++ [L.getD j 0] := by
    rw [List.take_succ_eq_append_getElem (by omega)]
    simp [List.getD_eq_getElem?_getD, show j < L.length by omega]
  rw [List.set_append_right _ _ (by omega), hlj, Nat.sub_self, hd, List.set_cons_zero, ht, List.append_assoc]
  rfl
set_option maxHeartbeats 32000000 in
theorem s_bayer (x y : Nat) (hx : x ≤ 16) (hy : y ≤ 16) (w : World) : Calls Tryd.prog 27 #[.int .i64 (x : Int), .int .i64 (y : Int)] w fun e w' => e = .returned (.int .i64 (bay x y)) ∧ Below w.heap.size w w' := by
  have HB : Hid (Below w.heap.size w (w.alloc (.cells #[.int .i64 0, .int .i64 8, .int .i64 2, .int .i64 10, .int .i64 12, .int .i64 4, .int .i64 14, .int .i64 6, .int .i64 3, .int .i64 11, .int .i64 1, .int .i64 9, .int .i64 15, .int .i64 7, .int .i64 13, .int .i64 5] 3))) := Lib.hid ((Below.refl _ _).alloc (Nat.le_refl _) _)
  have hX : x % 4 = 0 ∨ x % 4 = 1 ∨ x % 4 = 2 ∨ x % 4 = 3 := by omega
  have hY : y % 4 = 0 ∨ y % 4 = 1 ∨ y % 4 = 2 ∨ y % 4 = 3 := by omega
  rcases hX with hX | hX | hX | hX <;> rcases hY with hY | hY | hY | hY
  all_goals
    have HE : Hid (bay x y = _) := Lib.hid (by unfold bay; rw [hX, hY])
    have hx4 : (x : Int).tmod 4 = (x : Int) % 4 := Int.tmod_eq_emod_of_nonneg (by omega)
    have hy4 : (y : Int).tmod 4 = (y : Int) % 4 := Int.tmod_eq_emod_of_nonneg (by omega)
    have hxI : (x : Int) % 4 = ((x % 4 : Nat) : Int) := (Int.natCast_emod _ _).symm
    have hyI : (y : Int) % 4 = ((y % 4 : Nat) : Int) := (Int.natCast_emod _ _).symm
    rw [hX] at hxI
    rw [hY] at hyI
    go_enter Tryd.func27, Tryd.ntmps27
    go_wp2
    go_ret
    exact ⟨by rw [HE.out]; rfl, HB.out⟩
set_option maxHeartbeats 16000000 in
theorem s_OrderImage (W H P L : Int) (A : Option Addr) (c : Nat) (xs : List Int) (w : World) (hx : Rds .i64 w w.heap.size A xs) (hl : xs.length ≤ 2000000) :
    Calls Tryd.prog 7 #[.agg #[.int .i64 W, .int .i64 H, .int .i64 P, .slice A xs.length c], .int .i64 L] w (MadeIb (odB W H P xs L) W H P (odL W.toNat H.toNat xs L) w) := by
  have HX := Lib.hid hx
  have HV : Hid (odB W H P xs L = (vim W H P xs && decide (P = 1) && lvB L)) := Lib.hid rfl
  clear hx
  have S0 := ((GS.start w).box' 25 #[.int .i64 W, .int .i64 H, .int .i64 P, .slice A xs.length c] w.heap.size (by simp)).box' 25 #[.int .i64 0, .int .i64 0, .int .i64 0, .slice none 0 0] (w.heap.size + 1) (by simp)
  go_enter Tryd.func7, Tryd.ntmps7
  go_wp2_with fail
  generalize (w.alloc (.cells #[.int .i64 W, .int .i64 H, .int .i64 P, .slice A xs.length c] 25)).alloc (.cells #[.int .i64 0, .int .i64 0, .int .i64 0, .slice none 0 0] 25) = u0 at *
  refine (sVimg_any W H P A c xs u0 (S0.arg HX.out) hl).mono ?_
  rintro e u1 ⟨rfl, hB⟩
  have HS := Lib.hid (S0.call hB)
  clear hB S0
  cases hv : vim W H P xs
  · have HF : Hid (odB W H P xs L = false) := Lib.hid (by rw [HV.out, hv]; rfl)
    clear hv
    obtain ⟨r0, r1, r2, r3⟩ := HS.out.b0_4
    have f0 := HS.out.f0 0
    have f1 := HS.out.f0 1
    have f2 := HS.out.f0 2
    have f3 := HS.out.f0 3
    have HE := Lib.hid (HS.out.e0_4 (.int .i64 0) (.int .i64 0) (.int .i64 0) (.slice none 0 0)).1
    clear HV HS
    go_wp2
    exact bodyPost_ret (v := .tuple #[.agg #[.int .i64 0, .int .i64 0, .int .i64 0, .slice none 0 0], .bool false]) (by simp [results, Tryd.results7, go_sem, r0, r1, r2, r3]) rfl ⟨_, by rw [HF.out]; rfl, by rw [HF.out]; exact World.ownsRow_nil _ _ _ _, HE.out⟩
  obtain ⟨b0, b1, b2, b3⟩ := HS.out.b1_4
  by_cases hP : P = 1
  case neg =>
    have HF : Hid (odB W H P xs L = false) := Lib.hid (by rw [HV.out, hv, decide_eq_false hP]; rfl)
    clear hv
    obtain ⟨r0, r1, r2, r3⟩ := HS.out.b0_4
    have f0 := HS.out.f0 0
    have f1 := HS.out.f0 1
    have f2 := HS.out.f0 2
    have f3 := HS.out.f0 3
    have HE := Lib.hid (HS.out.e0_4 (.int .i64 0) (.int .i64 0) (.int .i64 0) (.slice none 0 0)).1
    clear HV HS
    go_wp2
    exact bodyPost_ret (v := .tuple #[.agg #[.int .i64 0, .int .i64 0, .int .i64 0, .slice none 0 0], .bool false]) (by simp [results, Tryd.results7, go_sem, r0, r1, r2, r3]) rfl ⟨_, by rw [HF.out]; rfl, by rw [HF.out]; exact World.ownsRow_nil _ _ _ _, HE.out⟩
  have hv1 := hv
  have hPd : decide (P = 1) = true := decide_eq_true hP
  subst hP
  go_wp2_with fail
  refine (sVlv_any L u1).mono ?_
  rintro e u1' ⟨rfl, rfl⟩
  cases hlv : lvB L
  · have HF : Hid (odB W H 1 xs L = false) := Lib.hid (by rw [HV.out, hlv]; simp)
    clear hv hv1 hPd
    obtain ⟨r0, r1, r2, r3⟩ := HS.out.b0_4
    have f0 := HS.out.f0 0
    have f1 := HS.out.f0 1
    have f2 := HS.out.f0 2
    have f3 := HS.out.f0 3
    have HE := Lib.hid (HS.out.e0_4 (.int .i64 0) (.int .i64 0) (.int .i64 0) (.slice none 0 0)).1
    clear HV HS
    go_wp2
    exact bodyPost_ret (v := .tuple #[.agg #[.int .i64 0, .int .i64 0, .int .i64 0, .slice none 0 0], .bool false]) (by simp [results, Tryd.results7, go_sem, r0, r1, r2, r3]) rfl ⟨_, by rw [HF.out]; rfl, by rw [HF.out]; exact World.ownsRow_nil _ _ _ _, HE.out⟩
  have HF : Hid (odB W H 1 xs L = true) := Lib.hid (by rw [HV.out, hv, hlv]; rfl)
  have hL : 2 ≤ L ∧ L ≤ 16 := of_decide_eq_true hlv
  obtain ⟨hL2, hL16⟩ := hL
  have HB := Lib.hid (bytes_of hv)
  obtain ⟨W, H, P1, rfl, rfl, hP1, hW1, hW, hH1, hH, _, _, hll, _⟩ := vim_nat hv
  obtain rfl : P1 = 1 := by omega
  have Hll : Hid (xs.length = W * H) := Lib.hid (by rw [hll, Nat.mul_one])
  have HoL : Hid ((odL W H xs L).length = xs.length) := Lib.hid (by unfold odL; rw [img_len, hll])
  have hWH : W * H ≤ 256 := Nat.mul_le_mul hW hH
  have Hpos : Hid (0 < xs.length) := Lib.hid (by rw [Hll.out]; exact Nat.mul_pos hW1 hH1)
  clear HV hv hlv hP1 hll hv1 hPd
  go_wp2_with fail
  refine (sCopyImage_any W H 1 A c xs u1 (HS.out.arg HX.out) hl).mono ?_
  rintro e u2 ⟨v, rfl, hO, hB⟩
  obtain ⟨g, c2, rfl, hg1, hg2⟩ := hO.form Hpos.out
  have hsz := hB.size
  obtain ⟨q, hq⟩ : ∃ q, q = u2.heap.size := ⟨_, rfl⟩
  have HI : Hid (GS w (u2.alloc (.cells #[.int .i64 (W : Int), .int .i64 (H : Int), .int .i64 1, .slice (some ⟨g, 0, none⟩) xs.length c2] 25)) [ri u1.heap.size u2.heap.size (.slice (some ⟨g, 0, none⟩) xs.length c2) ((odL W H xs L).take 0 ++ xs.drop 0)] [⟨q, 25, #[.int .i64 (W : Int), .int .i64 (H : Int), .int .i64 1, .slice (some ⟨g, 0, none⟩) xs.length c2]⟩, ⟨w.heap.size + 1, 25, #[.int .i64 0, .int .i64 0, .int .i64 0, .slice none 0 0]⟩, ⟨w.heap.size, 25, #[.int .i64 (W : Int), .int .i64 (H : Int), .int .i64 1, .slice A xs.length c]⟩]) := Lib.hid (by
    have h := (HS.out.add hO hB).box' 25 #[.int .i64 (W : Int), .int .i64 (H : Int), .int .i64 1, .slice (some ⟨g, 0, none⟩) xs.length c2] q hq
    rw [List.take_zero, List.drop_zero, List.nil_append]
    exact h)
  have Hg1 := Lib.hid (show w.heap.size + 2 ≤ g by have := HS.out.l0; omega)
  have Hqg : Hid (g < q) := Lib.hid (by omega)
  clear hO hB b0 b1 b2 b3 HS hsz
  go_wp2
  rw [← hq]
  clear hq
  go_loopw [7] (fun i wr => ∃ y : Nat, y ≤ H ∧ i = .int .i64 (y : Int) ∧ Hid (GS w wr [ri u1.heap.size u2.heap.size (.slice (some ⟨g, 0, none⟩) xs.length c2) ((odL W H xs L).take (y * W) ++ xs.drop (y * W))] [⟨q, 25, #[.int .i64 (W : Int), .int .i64 (H : Int), .int .i64 1, .slice (some ⟨g, 0, none⟩) xs.length c2]⟩, ⟨w.heap.size + 1, 25, #[.int .i64 0, .int .i64 0, .int .i64 0, .slice none 0 0]⟩, ⟨w.heap.size, 25, #[.int .i64 (W : Int), .int .i64 (H : Int), .int .i64 1, .slice A xs.length c]⟩])) (fun i _ => (H - (intOf i).toNat))
  case atStart => exact ⟨0, Nat.zero_le _, rfl, by rw [Nat.zero_mul]; exact HI⟩
  case round =>
    clear HI
    obtain ⟨y, hy, rfl, hI⟩ := hrel
    rename World => wy
    obtain ⟨b0, b1, b2, b3⟩ := hI.out.b2_4
    by_cases hyl : (y : Int) < (H : Int)
    · go_wp2
      clear b0 b1 b2 b3
      go_loopw [8] (fun i wr => ∃ x : Nat, x ≤ W ∧ i = .int .i64 (x : Int) ∧ Hid (GS w wr [ri u1.heap.size u2.heap.size (.slice (some ⟨g, 0, none⟩) xs.length c2) ((odL W H xs L).take (y * W + x) ++ xs.drop (y * W + x))] [⟨q, 25, #[.int .i64 (W : Int), .int .i64 (H : Int), .int .i64 1, .slice (some ⟨g, 0, none⟩) xs.length c2]⟩, ⟨w.heap.size + 1, 25, #[.int .i64 0, .int .i64 0, .int .i64 0, .slice none 0 0]⟩, ⟨w.heap.size, 25, #[.int .i64 (W : Int), .int .i64 (H : Int), .int .i64 1, .slice A xs.length c]⟩])) (fun i _ => (W - (intOf i).toNat))
      case atStart => exact ⟨0, Nat.zero_le _, rfl, hI⟩
      case round =>
        clear hI
        obtain ⟨x, hx, rfl, hI⟩ := hrel
        rename World => wx
        obtain ⟨b0, b1, b2, b3⟩ := hI.out.b2_4
        by_cases hxl : (x : Int) < (W : Int)
        · obtain ⟨jj, hjj⟩ : ∃ j, j = y * W + x := ⟨_, rfl⟩
          have hjl : jj < xs.length := by
            have h1 := Nat.mul_le_mul_right W (show y + 1 ≤ H by omega)
            rw [Nat.add_mul, Nat.one_mul, Nat.mul_comm H] at h1
            rw [Hll.out, hjj]; omega
          have Hjl := Lib.hid hjl
          have hj256 : jj < 256 := by have := Hll.out; omega
          have hyW : y * W ≤ 256 := Nat.mul_le_mul (show y ≤ 16 by omega) hW
          have i1 : (y : Int) * (W : Int) = ((y * W : Nat) : Int) := (Int.natCast_mul _ _).symm
          have Hw1 : Hid (IntKind.i64.wrap ((y : Int) * (W : Int)) = (y : Int) * (W : Int)) := Lib.hid (by rw [i1]; exact IntWalk.i64_in _ (by omega))
          have Hw2 : Hid (IntKind.i64.wrap ((y : Int) * (W : Int) + (x : Int)) = (jj : Int)) := Lib.hid (by rw [i1, hjj]; rw [IntWalk.i64_in _ (by omega)]; omega)
          have Hlj : Hid (((odL W H xs L).take jj ++ xs.drop jj).length = xs.length) := Lib.hid (by have := HoL.out; simp; omega)
          obtain ⟨n, hn⟩ : ∃ n, n = xs.getD jj 0 := ⟨_, rfl⟩
          obtain ⟨bq, hbq⟩ : ∃ b, b = bay x y := ⟨_, rfl⟩
          have Hbq := Lib.hid hbq
          have hnb : 0 ≤ n ∧ n ≤ 255 := by rw [hn]; exact HB.out jj hjl
          have hbb : 0 ≤ bq ∧ bq ≤ 15 := by rw [hbq]; exact bay_bd x y
          obtain ⟨o1, o2, o3, o4, o5, o6⟩ := od_bd hnb ⟨hL2, hL16⟩ hbb
          have Hbd := Lib.hid (And.intro o5 o6)
          have Hw3 : Hid (IntKind.i64.wrap (16 * n) = 16 * n) := Lib.hid (IntWalk.i64_in _ (by omega))
          have Hw4 : Hid (IntKind.i64.wrap (L - 1) = L - 1) := Lib.hid (IntWalk.i64_in _ (by omega))
          have Hw5 : Hid (IntKind.i64.wrap (16 * n * (L - 1)) = 16 * n * (L - 1)) := Lib.hid (IntWalk.i64_in _ (by omega))
          have Hw6 : Hid (IntKind.i64.wrap (255 * bq) = 255 * bq) := Lib.hid (IntWalk.i64_in _ (by omega))
          have Hw7 : Hid (IntKind.i64.wrap (16 * n * (L - 1) + 255 * bq) = odN n L bq) := Lib.hid (IntWalk.i64_in (odN n L bq) (by omega))
          have Hw8 : Hid (IntKind.i64.wrap ((odN n L bq).tdiv 4080) = odN n L bq / 4080) := Lib.hid (by rw [od_tdiv o3]; exact IntWalk.i64_in _ (by omega))
          have Hset : Hid (((odL W H xs L).take jj ++ xs.drop jj).set jj (lval (odN n L bq / 4080) L) = (odL W H xs L).take (jj + 1) ++ xs.drop (jj + 1)) := Lib.hid (by
            have h := take_put (L := odL W H xs L) (xs := xs) HoL.out hjl
            have e : (odL W H xs L).getD jj 0 = lval (odN n L bq / 4080) L := by
              have hp := img_px (W := W) (H := H) (P := 1) (fun X Y _ => odV (px W 1 xs X Y 0) L (bay X Y)) (x := x) (y := y) (p := 0) (by omega) (by omega) (by omega)
              unfold px pix at hp
              rw [Nat.mul_one, Nat.add_zero, ← hjj, ← hn, ← hbq] at hp
              exact hp
            rw [e] at h
            exact h)
          obtain ⟨b, off, rfl, hb1, hc⟩ := HX.out.cells_ hjl
          have hcj := (hI.out.below.cell (p := ⟨b, off + jj, none⟩) (by exact hb1)).trans (hc jj hjl)
          rw [← hn] at hcj
          have hne1 : ¬ g = q := by have := Hqg.out; omega
          have hne2 : ¬ g = w.heap.size := by have := Hg1.out; omega
          have hjI : (jj : Int) < (xs.length : Int) := by omega
          have hj0 : (0 : Int) ≤ (jj : Int) := by omega
          have hIe : (y : Int) * (W : Int) + (x : Int) = (jj : Int) := by rw [i1, hjj]; omega
          rw [← hjj] at hI
          have HSd := Lib.hid hI.out.drew
          have Hjj := Lib.hid hjj
          clear hI hc hjj hn hbq i1 hyW o1 o2 o3 o4 o5 o6
          go_upto_region 11 with fail
          obtain ⟨d0, d1, d2, d3⟩ := HSd.out.b0_4
          clear b0 b1 b2 b3
          obtain ⟨b0, b1, b2, b3⟩ := HSd.out.b2_4
          have hw1 := Hw1.out
          have hw2 := Hw2.out
          have hw3 := Hw3.out
          have hw4 := Hw4.out
          have hw5 := Hw5.out
          have hw6 := Hw6.out
          have hw7 := Hw7.out
          have hw8 := Hw8.out
          have hwj : IntKind.i64.wrap (jj : Int) = (jj : Int) := IntWalk.i64_in _ (by omega)
          clear hIe
          go_region_held3 (fun w' => w'.cell? ⟨q, 3, none⟩ = some (.slice (some ⟨g, 0, none⟩) xs.length c2) ∧ w'.cell? ⟨w.heap.size, 0, none⟩ = some (.int .i64 (W : Int)))
            (first | (with_reducible exact ⟨d3, b0⟩) | (with_reducible exact ⟨(World.cell?_setCell_other _ ⟨g, _, none⟩ ⟨q, 3, none⟩ _ (fun e => by injection e with e1; exact hne1 e1)).trans d3, (World.cell?_setCell_other _ ⟨g, _, none⟩ ⟨w.heap.size, 0, none⟩ _ (fun e => by injection e with e1; exact hne2 e1)).trans b0⟩) | go_keep)
            (first
              | (go_at_call 27; refine (s_bayer x y (by omega) (by omega) wx.drew).mono ?_; rintro e w4 ⟨rfl, hb⟩; rw [← Hbq.out]; have HS4 := Lib.hid (HSd.out.call hb); clear hb d0 d1 d2 d3 b0 b1 b2 b3; obtain ⟨d0, d1, d2, d3⟩ := HS4.out.b0_4; obtain ⟨b0, b1, b2, b3⟩ := HS4.out.b2_4; have hcw := HS4.out.o0.cell Hlj.out.symm (j := jj) (by rw [Hlj.out]; exact Hjl.out); have hfw := HS4.out.o0.frozen Hlj.out.symm jj)
              | (go_at_call 26; refine (sLvl_any (odN n L bq / 4080) L w4 Hbd.out.1 (by have := Hbd.out.2; omega) hL2 hL16).mono ?_; rintro e w5 ⟨rfl, rfl⟩))
          all_goals
            have HP := Lib.hid (HS4.out.o0.put Hlj.out.symm jj (lval (odN n L bq / 4080) L))
            have HN' := Lib.hid (HS4.out.mark0 HP.out.1 (by simp) HP.out.2)
            rw [Hset.out] at HN'
            clear HP hcw hfw d0 d1 d2 d3 b0 b1 b2 b3
            go_wp2
            go_roundw
            case rel => exact ⟨x + 1, by omega, by go_num, by rw [show y * W + (x + 1) = jj + 1 by rw [Hjj.out, Nat.add_assoc]]; exact HN'⟩
            case measure => simp [intOf]; omega
        · have hxW : x = W := by omega
          rw [hxW] at hI
          go_wp2
          go_roundw
          case rel => exact ⟨y + 1, by omega, by go_num, by rw [Nat.add_mul, Nat.one_mul]; exact hI⟩
          case measure => simp [intOf]; omega
    · have hyH : y = H := by omega
      have e : (odL W H xs L).take (y * W) ++ xs.drop (y * W) = odL W H xs L := by
        have h1 := Hll.out
        have h2 := HoL.out
        rw [hyH, Nat.mul_comm H W, List.drop_of_length_le (by omega), List.append_nil, List.take_of_length_le (by omega)]
      obtain ⟨r0, r1, r2, r3⟩ := hI.out.b1_4
      have f0 := hI.out.f1 0
      have f1 := hI.out.f1 1
      have f2 := hI.out.f1 2
      have f3 := hI.out.f1 3
      obtain ⟨d0, d1, d2, d3⟩ := hI.out.b0_4
      have HE := Lib.hid (hI.out.e1_4 (.int .i64 (W : Int)) (.int .i64 (H : Int)) (.int .i64 1) (.slice (some ⟨g, 0, none⟩) xs.length c2))
      rw [e] at HE
      clear hI e hyH
      go_wp2
      exact bodyPost_ret (v := .tuple #[.agg #[.int .i64 (W : Int), .int .i64 (H : Int), .int .i64 1, .slice (some ⟨g, 0, none⟩) xs.length c2], .bool true]) (by simp [results, Tryd.results7, go_sem, r0, r1, r2, r3]) rfl ⟨_, by rw [HF.out]; rfl, by rw [HF.out]; exact HE.out.2 _ (List.Mem.head _), HE.out.1⟩
end Go.Proofs.YtdmdgdmnbgchoaaDoor
