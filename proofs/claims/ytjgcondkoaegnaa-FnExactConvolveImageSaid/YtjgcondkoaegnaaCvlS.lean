/- ConvolveImage of the model. -/
import Derived.Test.YtjgcondkoaegnaaCvlI
import Derived.Test.YtjgcondkoaegnaaImgB
import Derived.Test.YtjgcondkoaegnaaLumM
import Derived.Deep.CutRange
import Derived.Deep.Cut
namespace Go.Proofs.Ytjgcondkoaegnaa
open Go.RowKit Go.Shelf
set_option linter.unusedSimpArgs false
set_option linter.unusedVariables false
set_option maxRecDepth 20000

theorem take_putC {L xs : List Int} (hl : L.length = xs.length) {j : Nat} (hj : j < xs.length) : (L.take j ++ xs.drop j).set j (L.getD j 0) = L.take (j + 1) ++ xs.drop (j + 1) := by
  have hlj : (L.take j).length = j := by rw [List.length_take]; omega
  have hd : xs.drop j = xs[j] :: xs.drop (j + 1) := List.drop_eq_getElem_cons hj
  have ht : L.take (j + 1) = L.take j ++ [L.getD j 0] := by
    rw [List.take_succ_eq_append_getElem (show j < L.length by omega)]
    congr 1
    simp [List.getD_eq_getElem?_getD, show j < L.length by omega]
  rw [List.set_append_right _ _ (by omega), hlj, Nat.sub_self, hd, List.set_cons_zero, ht, List.append_assoc]
  rfl
set_option maxHeartbeats 8000000 in
theorem sKn_any (R : Int) (A : Option Addr) (c : Nat) (ks : List Int) (N : Nat) (hN : N = ks.length) (D : Int) (w : World) (hx : Rds .i64 w w.heap.size A ks) (hl : ks.length ≤ 2000000) :
    Calls Try.prog 25 #[.agg #[.int .i64 R, .slice A N c, .int .i64 D]] w fun e w' => e = .returned (.bool (knOk R ks D)) ∧ Below w.heap.size w w' := by
  have HV : Hid (knOk R ks D = (decide (0 ≤ R ∧ R ≤ 2) && (decide ((ks.length : Int) = (2 * R + 1) * (2 * R + 1)) && (allB (-99) 99 ks && decide (1 ≤ D ∧ D ≤ 999))))) := Lib.hid rfl
  have S0 : GS w (w.alloc (.cells #[.int .i64 R, .slice A N c, .int .i64 D] 32)) [] [⟨w.heap.size, 32, #[.int .i64 R, .slice A N c, .int .i64 D]⟩] := GS.box' (GS.start w) _ _ w.heap.size rfl
  have HX := Lib.hid (S0.arg hx)
  have HN := Lib.hid hN
  have hNl : N ≤ 2000000 := by omega
  have HB := Lib.hid S0.below
  obtain ⟨b0, b1, b2⟩ := S0.b0_3
  clear hx hN S0 hl
  by_cases h1 : 0 ≤ R ∧ R ≤ 2
  · obtain ⟨r, rfl⟩ := Int.eq_ofNat_of_zero_le h1.1
    obtain ⟨S, hS⟩ : ∃ S : Nat, (2 * (r : Int) + 1) = (S : Int) := ⟨2 * r + 1, by omega⟩
    obtain ⟨q, hq⟩ : ∃ q : Nat, (S : Int) * (S : Int) = (q : Int) := ⟨S * S, by simp⟩
    have hq25 : q ≤ 25 := by
      have h5 : (S : Int) * (S : Int) ≤ 5 * 5 := Int.mul_le_mul (by omega) (by omega) (by omega) (by omega)
      omega
    have w1 : IntKind.i64.wrap (2 * (r : Int)) = 2 * (r : Int) := IntWalk.i64_in _ (by omega)
    have w2 : IntKind.i64.wrap (S : Int) = (S : Int) := IntWalk.i64_in _ (by omega)
    have w3 : IntKind.i64.wrap (q : Int) = (q : Int) := IntWalk.i64_in _ (by omega)
    have HV2 : Hid (knOk (r : Int) ks D = (decide (N = q) && (allB (-99) 99 ks && decide (1 ≤ D ∧ D ≤ 999)))) := Lib.hid (by
      rw [HV.out, decide_eq_true h1, Bool.true_and, hS, hq, HN.out]
      congr 1
      exact decide_eq_decide.2 ⟨fun h => by omega, fun h => by omega⟩)
    clear HV
    go_enter Try.func25, Try.ntmps25
    go_wp2_with fail
    refine (sIn_any (r : Int) 0 2 _).mono ?_
    rintro e w' ⟨rfl, rfl⟩
    rw [decide_eq_true h1]
    by_cases h2 : N = q
    · have HV3 : Hid (knOk (r : Int) ks D = (allB (-99) 99 ks && decide (1 ≤ D ∧ D ≤ 999))) := Lib.hid (by rw [HV2.out, decide_eq_true h2]; rfl)
      clear HV2
      subst h2
      go_wp2_with fail
      have hAl := sAllIn_any A c _ ks (-99) 99 _ HX.out (by have := HN.out; omega)
      rw [← HN.out] at hAl
      refine hAl.mono ?_
      rintro e w' ⟨rfl, rfl⟩
      clear hAl
      cases ha : allB (-99) 99 ks
      · have HF : Hid (knOk (r : Int) ks D = false) := Lib.hid (by rw [HV3.out, ha]; rfl)
        go_wp2
        go_ret
        exact ⟨ret_bool HF.out.symm, HB.out⟩
      · have HF : Hid (knOk (r : Int) ks D = decide (1 ≤ D ∧ D ≤ 999)) := Lib.hid (by rw [HV3.out, ha]; rfl)
        go_wp2_with fail
        refine (sIn_any D 1 999 _).mono ?_
        rintro e w' ⟨rfl, rfl⟩
        rw [← HF.out]
        go_wp2
        go_ret
        exact ⟨rfl, HB.out⟩
    · have HF : Hid (knOk (r : Int) ks D = false) := Lib.hid (by rw [HV2.out, decide_eq_false h2]; rfl)
      have hne : ¬ (N : Int) = (q : Int) := by omega
      go_wp2
      go_ret
      exact ⟨ret_bool HF.out.symm, HB.out⟩
  · have HF : Hid (knOk R ks D = false) := Lib.hid (by rw [HV.out, decide_eq_false h1]; rfl)
    go_enter Try.func25, Try.ntmps25
    go_wp2_with fail
    refine (sIn_any R 0 2 _).mono ?_
    rintro e w' ⟨rfl, rfl⟩
    rw [decide_eq_false h1]
    go_wp2
    go_ret
    exact ⟨ret_bool HF.out.symm, HB.out⟩
set_option maxHeartbeats 16000000 in
theorem sCv_any (W H P R p N : Nat) (D : Int) (hW1 : 1 ≤ W) (hW : W ≤ 16) (hH1 : 1 ≤ H) (hH : H ≤ 16) (hP : P ≤ 4) (hp : p < P) (hR2 : R ≤ 2) (Ak : Option Addr) (ck : Nat) (ks : List Int) (hN : N = ks.length) (hkl : N ≤ 25) (hkb : ∀ j, j < ks.length → -99 ≤ ks.getD j 0 ∧ ks.getD j 0 ≤ 99) (A : Option Addr) (c : Nat) (xs : List Int) (hln : xs.length = W * H * P) (hf : ∀ x y, x < W → y < H → 0 ≤ px W P xs x y p ∧ px W P xs x y p ≤ 255) (x y : Nat) (hx : x < W) (hy : y < H) (w : World) (hr : Rds .i64 w w.heap.size A xs) (hk : Rds .i64 w w.heap.size Ak ks) :
    Calls Try.prog 28 #[.agg #[.int .i64 (W : Int), .int .i64 (H : Int), .int .i64 (P : Int), .slice A xs.length c], .agg #[.int .i64 (R : Int), .slice Ak N ck, .int .i64 D], .int .i64 (x : Int), .int .i64 (y : Int), .int .i64 (p : Int)] w fun e w' => e = .returned (.int .i64 (cvS (fun a b => px W P xs a b p) W H R ks x y ks.length)) ∧ Below w.heap.size w w' := by
  have HX := Lib.hid hr
  have HK := Lib.hid hk
  have HF := Lib.hid hf
  have HKb := Lib.hid hkb
  have HN := Lib.hid hN
  have HLn := Lib.hid hln
  obtain ⟨T, hT⟩ : ∃ T, T = cvS (fun a b => px W P xs a b p) W H R ks x y := ⟨_, rfl⟩
  have HTb : Hid (∀ k, k ≤ ks.length → -(25245 * (k : Int)) ≤ T k ∧ T k ≤ 25245 * (k : Int)) := Lib.hid (fun k hk => by rw [hT]; exact cvS_bd hW1 hH1 hf hkb x y k hk)
  have HT0 : Hid (T 0 = 0) := Lib.hid (by rw [hT]; rfl)
  have HTn : Hid (∀ k, T (k + 1) = T k + ks.getD k 0 * px W P xs (cvc R x (k % (2 * R + 1)) 0 W) (cvc R y (k / (2 * R + 1)) 0 H) p) := Lib.hid (fun k => by rw [hT]; rfl)
  have HTe : Hid (T ks.length = cvS (fun a b => px W P xs a b p) W H R ks x y ks.length) := Lib.hid (by rw [hT])
  have S0 : GS w ((w.alloc (.cells #[.int .i64 (W : Int), .int .i64 (H : Int), .int .i64 (P : Int), .slice A xs.length c] 29)).alloc (.cells #[.int .i64 (R : Int), .slice Ak N ck, .int .i64 D] 32)) [] [⟨w.heap.size + 1, 32, #[.int .i64 (R : Int), .slice Ak N ck, .int .i64 D]⟩, ⟨w.heap.size, 29, #[.int .i64 (W : Int), .int .i64 (H : Int), .int .i64 (P : Int), .slice A xs.length c]⟩] := GS.box' (GS.box' (GS.start w) _ _ w.heap.size rfl) _ _ (w.heap.size + 1) (by simp)
  have HS := Lib.hid S0
  obtain ⟨S, hS⟩ : ∃ S, S = 2 * R + 1 := ⟨_, rfl⟩
  have HSd : Hid (2 * R + 1 = S) := Lib.hid hS.symm
  have hS1 : 1 ≤ S := by omega
  have hS5 : S ≤ 5 := by omega
  have eS : 2 * (R : Int) + 1 = (S : Int) := by omega
  have wS1 : IntKind.i64.wrap (2 * (R : Int)) = 2 * (R : Int) := IntWalk.i64_in _ (by omega)
  have wS2 : IntKind.i64.wrap (S : Int) = (S : Int) := IntWalk.i64_in _ (by omega)
  have hx1024 : xs.length ≤ 1024 := by
    have h1 := Nat.mul_le_mul hW hH
    have h2 := Nat.mul_le_mul h1 hP
    omega
  clear hr hk hf hkb hT S0 hS hN hln
  rw [← HTe.out]
  obtain ⟨k0, k1, k2⟩ := HS.out.b0_3
  go_enter Try.func28, Try.ntmps28
  go_wp2
  clear k0 k1 k2 eS wS1 wS2
  generalize (w.alloc (.cells #[.int .i64 (W : Int), .int .i64 (H : Int), .int .i64 (P : Int), .slice A xs.length c] 29)).alloc (.cells #[.int .i64 (R : Int), .slice Ak N ck, .int .i64 D] 32) = u0 at *
  go_loopw [11, 13, 14, 15] (fun s i _ _ wr => ∃ k : Nat, k ≤ N ∧ i = .int .i64 (k : Int) ∧ s = .int .i64 (T k) ∧ Hid (GS w wr [] [⟨w.heap.size + 1, 32, #[.int .i64 (R : Int), .slice Ak N ck, .int .i64 D]⟩, ⟨w.heap.size, 29, #[.int .i64 (W : Int), .int .i64 (H : Int), .int .i64 (P : Int), .slice A xs.length c]⟩])) (fun _ i _ _ _ => N - (intOf i).toNat)
  case atStart => exact ⟨0, Nat.zero_le _, rfl, by rw [HT0.out], HS⟩
  case round =>
    clear HS
    obtain ⟨k, hk, rfl, rfl, HS⟩ := hrel
    obtain ⟨k0, k1, k2⟩ := HS.out.b0_3
    by_cases hlt : k < N
    · obtain ⟨b, off, rfl, hb, hcc⟩ := (HS.out.arg HK.out).cells_ (j := k) (by have := HN.out; omega)
      have hck := hcc k (by have := HN.out; omega)
      obtain ⟨b', off', hA', hbl, hcc0⟩ := HK.out.cells_ (j := k) (by have := HN.out; omega)
      injection hA' with hA'
      injection hA' with hA1 hA2
      subst hA1 hA2
      have Hbl := Lib.hid hbl
      have HCk := Lib.hid (hcc0 k (by have := HN.out; omega))
      have hzb := HKb.out k (by have := HN.out; omega)
      have hTk := HTb.out k (by have := HN.out; omega)
      obtain ⟨qa, hqa⟩ : ∃ q, q = k % S := ⟨_, rfl⟩
      obtain ⟨qb, hqb⟩ : ∃ q, q = k / S := ⟨_, rfl⟩
      obtain ⟨cx, hcx0⟩ : ∃ q, q = cvc R x qa 0 W := ⟨_, rfl⟩
      obtain ⟨cy, hcy0⟩ : ∃ q, q = cvc R y qb 0 H := ⟨_, rfl⟩
      have hcx : cx < W := by rw [hcx0]; exact cvc_lt hW1
      have hcy : cy < H := by rw [hcy0]; exact cvc_lt hH1
      have hfb := HF.out cx cy hcx hcy
      obtain ⟨z, hz⟩ : ∃ z, z = ks.getD k 0 := ⟨_, rfl⟩
      obtain ⟨tk, htk⟩ : ∃ t, t = T k := ⟨_, rfl⟩
      have hlt2 := row_lt hcx hcy
      obtain ⟨j1, g1⟩ : ∃ q, q = cy * W := ⟨_, rfl⟩
      obtain ⟨j2, g2⟩ : ∃ q, q = j1 + cx := ⟨_, rfl⟩
      obtain ⟨j3, g3⟩ : ∃ q, q = j2 * P := ⟨_, rfl⟩
      obtain ⟨id, g4⟩ : ∃ k, k = j3 + p := ⟨_, rfl⟩
      have hj2 : j2 < W * H := by rw [g2, g1]; exact hlt2
      have hWH : W * H ≤ 256 := Nat.mul_le_mul hW hH
      have hid : id < xs.length := by
        rw [HLn.out, g4, g3]
        have := Nat.mul_le_mul_right P (show j2 + 1 ≤ W * H from hj2)
        rw [Nat.add_mul, Nat.one_mul] at this
        omega
      obtain ⟨bb, off2, rfl, hb2, hcc2⟩ := (HS.out.arg HX.out).cells_ hid
      have hcp := hcc2 id hid
      obtain ⟨b', off', hA', hbl2, hcc3⟩ := HX.out.cells_ hid
      injection hA' with hA'
      injection hA' with hA1 hA2
      subst hA1 hA2
      have Hbl2 := Lib.hid hbl2
      have HCp := Lib.hid (hcc3 id hid)
      have ep : px W P xs cx cy p = xs.getD id 0 := by unfold px pix; rw [g4, g3, g2, g1]
      rw [ep] at hfb
      obtain ⟨fv, hfv⟩ : ∃ v, v = xs.getD id 0 := ⟨_, rfl⟩
      rw [← hfv] at hcp hfb HCp
      obtain ⟨pr, hpr⟩ : ∃ p, z * fv = p := ⟨_, rfl⟩
      have HTn1 : Hid (T (k + 1) = tk + pr) := Lib.hid (by rw [HTn.out k, HSd.out, ← hqa, ← hqb, ← hcx0, ← hcy0, ep, ← hfv, ← hz, ← htk, hpr])
      have hTk1 := HTb.out (k + 1) (by have := HN.out; omega)
      rw [HTn1.out] at hTk1
      rw [← hz] at hck hzb HCk
      rw [← htk] at hTk ⊢
      have hpb : -30000 ≤ pr ∧ pr ≤ 30000 := by
        have a1 : z * fv ≤ 99 * fv := Int.mul_le_mul_of_nonneg_right hzb.2 hfb.1
        have a2 : -99 * fv ≤ z * fv := Int.mul_le_mul_of_nonneg_right hzb.1 hfb.1
        omega
      have hqa5 : qa < 5 := by rw [hqa]; exact Nat.lt_of_lt_of_le (Nat.mod_lt _ (by omega)) hS5
      have hqb25 : qb ≤ 25 := by rw [hqb]; exact Nat.le_trans (Nat.div_le_self _ _) (by omega)
      have e1 : Int.tmod (k : Int) (S : Int) = (qa : Int) := by rw [Int.tmod_eq_emod_of_nonneg (by omega), hqa]; rfl
      have e2 : Int.tdiv (k : Int) (S : Int) = (qb : Int) := by rw [Int.tdiv_eq_ediv_of_nonneg (by omega), hqb]; rfl
      have wa := wr_natC (n := qa) (by omega)
      have wb := wr_natC (n := qb) (by omega)
      obtain ⟨ex, hex⟩ : ∃ d : Int, (x : Int) + (qa : Int) = d := ⟨_, rfl⟩
      obtain ⟨ey, hey⟩ : ∃ d : Int, (y : Int) + (qb : Int) = d := ⟨_, rfl⟩
      obtain ⟨dx, hdx⟩ : ∃ d : Int, ex - (R : Int) = d := ⟨_, rfl⟩
      obtain ⟨dy, hdy⟩ : ∃ d : Int, ey - (R : Int) = d := ⟨_, rfl⟩
      obtain ⟨W1, hWW⟩ : ∃ d : Int, (W : Int) - 1 = d := ⟨_, rfl⟩
      obtain ⟨H1, hHH⟩ : ∃ d : Int, (H : Int) - 1 = d := ⟨_, rfl⟩
      have HLx : Hid (lim dx 0 W1 = (cx : Int)) := Lib.hid (by rw [hcx0, cvc_eq hW1, ← hdx, ← hex, ← hWW, show (x : Int) + (qa : Int) - (R : Int) = (x : Int) - (R : Int) + (qa : Int) by omega])
      have HLy : Hid (lim dy 0 H1 = (cy : Int)) := Lib.hid (by rw [hcy0, cvc_eq hH1, ← hdy, ← hey, ← hHH, show (y : Int) + (qb : Int) - (R : Int) = (y : Int) - (R : Int) + (qb : Int) by omega])
      have v1 : IntKind.i64.wrap dx = dx := IntWalk.i64_in _ (by omega)
      have v2 : IntKind.i64.wrap dy = dy := IntWalk.i64_in _ (by omega)
      have v3 : IntKind.i64.wrap ex = ex := IntWalk.i64_in _ (by omega)
      have v4 : IntKind.i64.wrap ey = ey := IntWalk.i64_in _ (by omega)
      have v5 : IntKind.i64.wrap W1 = W1 := IntWalk.i64_in _ (by omega)
      have v6 : IntKind.i64.wrap H1 = H1 := IntWalk.i64_in _ (by omega)
      have v7 : IntKind.i64.wrap pr = pr := IntWalk.i64_in _ (by omega)
      have v8 : IntKind.i64.wrap (tk + pr) = tk + pr := IntWalk.i64_in _ (by omega)
      have i1 : (cy : Int) * (W : Int) = (j1 : Int) := by rw [g1]; simp
      have i2 : (j1 : Int) + (cx : Int) = (j2 : Int) := by rw [g2]; simp
      have i3 : (j2 : Int) * (P : Int) = (j3 : Int) := by rw [g3]; simp
      have i4 : (j3 : Int) + (p : Int) = (id : Int) := by rw [g4]; simp
      have w1 := wr_natC (n := j1) (by omega)
      have w2 := wr_natC (n := j2) (by omega)
      have w3 := wr_natC (n := j3) (by omega)
      have w4 := wr_natC (n := id) (by omega)
      have hidI : (id : Int) < (xs.length : Int) := by omega
      have hkI : (k : Int) < (N : Int) := by omega
      have hSn : ¬ (S : Int) = 0 := by omega
      have hSn2 : ¬ S = 0 := by omega
      have hW1b : 0 ≤ W1 := by omega
      have hH1b : 0 ≤ H1 := by omega
      clear hcc hb hqa hqb hcx0 hcy0 hfv hz htk hTk hTk1 hcc2 hb2 hcc0 hcc3 hbl hbl2 g1 g2 g3 g4 hj2 hlt2 ep
      obtain ⟨m0, m1, m2, m3⟩ := HS.out.b1_4
      go_upto_region 6 with fail
      go_cut [14] from 27 to 75 (fun s14 wx => s14 = .int .i64 (cx : Int) ∧ Hid (GS w wx [] [⟨w.heap.size + 1, 32, #[.int .i64 (R : Int), .slice (some ⟨b, off, none⟩) N ck, .int .i64 D]⟩, ⟨w.heap.size, 29, #[.int .i64 (W : Int), .int .i64 (H : Int), .int .i64 (P : Int), .slice (some ⟨bb, off2, none⟩) xs.length c]⟩]))
      case first =>
        have HQ := Lib.hid HS.out.drew
        have hz0 : lim dx 0 W1 = (cx : Int) := HLx.out
        unfold lim at hz0
        by_cases c1 : 0 < dx
        · by_cases c2 : dx < W1
          · skip
            have Hv : Hid (dx = (cx : Int)) := Lib.hid (by omega)
            clear hz0
            go_region
            go_wp2_with fail
            go_meet
            exact ⟨by rw [← Hv.out], HQ⟩
          · skip
            have Hv : Hid (W1 = (cx : Int)) := Lib.hid (by omega)
            clear hz0
            go_region
            go_wp2_with fail
            go_meet
            exact ⟨by rw [← Hv.out], HQ⟩
        · by_cases c2 : 0 < W1
          · skip
            have Hv : Hid ((0 : Int) = (cx : Int)) := Lib.hid (by omega)
            clear hz0
            go_region
            go_wp2_with fail
            go_meet
            exact ⟨by rw [← Hv.out], HQ⟩
          · skip
            have Hv : Hid (W1 = (cx : Int)) := Lib.hid (by omega)
            clear hz0
            go_region
            go_wp2_with fail
            go_meet
            exact ⟨by rw [← Hv.out], HQ⟩
      case rest =>
      obtain ⟨rfl, HS⟩ := hcut
      clear m0 m1 m2 m3 k0 k1 k2
      obtain ⟨m0, m1, m2, m3⟩ := HS.out.b1_4
      obtain ⟨k0, k1, k2⟩ := HS.out.b0_3
      go_upto_region 7 with fail
      go_cut [15] from 27 to 75 (fun s15 wx => s15 = .int .i64 (cy : Int) ∧ Hid (GS w wx [] [⟨w.heap.size + 1, 32, #[.int .i64 (R : Int), .slice (some ⟨b, off, none⟩) N ck, .int .i64 D]⟩, ⟨w.heap.size, 29, #[.int .i64 (W : Int), .int .i64 (H : Int), .int .i64 (P : Int), .slice (some ⟨bb, off2, none⟩) xs.length c]⟩]))
      case first =>
        have HQ := Lib.hid HS.out.drew
        have hz0 : lim dy 0 H1 = (cy : Int) := HLy.out
        unfold lim at hz0
        by_cases c1 : 0 < dy
        · by_cases c2 : dy < H1
          · skip
            have Hv : Hid (dy = (cy : Int)) := Lib.hid (by omega)
            clear hz0
            go_region
            go_wp2_with fail
            go_meet
            exact ⟨by rw [← Hv.out], HQ⟩
          · skip
            have Hv : Hid (H1 = (cy : Int)) := Lib.hid (by omega)
            clear hz0
            go_region
            go_wp2_with fail
            go_meet
            exact ⟨by rw [← Hv.out], HQ⟩
        · by_cases c2 : 0 < H1
          · skip
            have Hv : Hid ((0 : Int) = (cy : Int)) := Lib.hid (by omega)
            clear hz0
            go_region
            go_wp2_with fail
            go_meet
            exact ⟨by rw [← Hv.out], HQ⟩
          · skip
            have Hv : Hid (H1 = (cy : Int)) := Lib.hid (by omega)
            clear hz0
            go_region
            go_wp2_with fail
            go_meet
            exact ⟨by rw [← Hv.out], HQ⟩
      case rest =>
      obtain ⟨rfl, HS⟩ := hcut
      clear m0 m1 m2 m3 k0 k1 k2
      obtain ⟨m0, m1, m2, m3⟩ := HS.out.b1_4
      obtain ⟨k0, k1, k2⟩ := HS.out.b0_3
      have hck2 := (HS.out.below.cell (p := ⟨b, off + k, none⟩) (by exact Hbl.out)).trans HCk.out
      have hcp2 := (HS.out.below.cell (p := ⟨bb, off2 + id, none⟩) (by exact Hbl2.out)).trans HCp.out
      go_upto_region 8 with fail
      go_quiet (fail)
      go_wp2
      go_roundw
      case rel => exact ⟨k + 1, by omega, by go_num, by rw [HTn1.out], Lib.hid (HS.out.drewN _)⟩
      case measure => simp [intOf]; omega
    · have hkN : k = N := by omega
      have HE : Hid (T k = T ks.length) := Lib.hid (by rw [hkN, HN.out])
      have HB := Lib.hid HS.out.below
      clear HS
      go_wp2
      go_ret
      exact ⟨ret_int HE.out, HB.out⟩
set_option maxHeartbeats 16000000 in
theorem s_ConvolveImage (W H P : Int) (A : Option Addr) (c : Nat) (xs : List Int) (R D : Int) (Ak : Option Addr) (ck : Nat) (ks : List Int) (w : World) (hx : Rds .i64 w w.heap.size A xs) (hl : xs.length ≤ 2000000) (hlc : xs.length ≤ c) (hk : Rds .i64 w w.heap.size Ak ks) (hkl : ks.length ≤ 2000000) :
    Calls Try.prog 8 #[.agg #[.int .i64 W, .int .i64 H, .int .i64 P, .slice A xs.length c], .agg #[.int .i64 R, .slice Ak ks.length ck, .int .i64 D]] w (MadeIf (cvOk W H P xs R ks D) W H P (cvL W.toNat H.toNat P.toNat xs R.toNat ks D.toNat) w) := by
  have HX := Lib.hid hx
  have HK := Lib.hid hk
  obtain ⟨N, hN⟩ : ∃ N, N = ks.length := ⟨_, rfl⟩
  have HN := Lib.hid hN
  rw [← hN] at hkl ⊢
  clear hx hk hN
  have S0 : GS w (((w.alloc (.cells #[.int .i64 W, .int .i64 H, .int .i64 P, .slice A xs.length c] 29)).alloc (.cells #[.int .i64 R, .slice Ak N ck, .int .i64 D] 32)).alloc (.cells #[.int .i64 0, .int .i64 0, .int .i64 0, .slice none 0 0] 29)) [] [⟨w.heap.size + 2, 29, #[.int .i64 0, .int .i64 0, .int .i64 0, .slice none 0 0]⟩, ⟨w.heap.size + 1, 32, #[.int .i64 R, .slice Ak N ck, .int .i64 D]⟩, ⟨w.heap.size, 29, #[.int .i64 W, .int .i64 H, .int .i64 P, .slice A xs.length c]⟩] := GS.box' (GS.box' (GS.box' (GS.start w) _ _ w.heap.size rfl) _ _ (w.heap.size + 1) (by simp)) _ _ (w.heap.size + 2) (by simp)
  have HV : Hid (cvOk W H P xs R ks D = (vim W H P xs && knOk R ks D)) := Lib.hid rfl
  go_enter Try.func8, Try.ntmps8
  go_wp2_with fail
  generalize ((w.alloc (.cells #[.int .i64 W, .int .i64 H, .int .i64 P, .slice A xs.length c] 29)).alloc (.cells #[.int .i64 R, .slice Ak N ck, .int .i64 D] 32)).alloc (.cells #[.int .i64 0, .int .i64 0, .int .i64 0, .slice none 0 0] 29) = u0 at *
  refine (sVimg_any W H P A c xs u0 (S0.arg HX.out) hl).mono ?_
  rintro e u1 ⟨rfl, hB⟩
  have S1 := S0.call hB
  clear hB S0
  cases hv : vim W H P xs
  · have Hf : Hid (cvOk W H P xs R ks D = false) := Lib.hid (by rw [HV.out, hv]; rfl)
    clear hv HV
    obtain ⟨r0, r1, r2, r3⟩ := S1.b0_4
    have f0 := S1.f0 0
    have f1 := S1.f0 1
    have f2 := S1.f0 2
    have f3 := S1.f0 3
    have HE := Lib.hid (S1.e0_4 (.int .i64 0) (.int .i64 0) (.int .i64 0) (.slice none 0 0))
    clear S1
    go_wp2
    exact bodyPost_ret (v := .agg #[.int .i64 0, .int .i64 0, .int .i64 0, .slice none 0 0]) (by simp [results, Try.results8, go_sem, r0, r1, r2, r3]) rfl (MadeIf.no Hf.out ⟨_, rfl, World.ownsRow_nil _ _ _ _, HE.out.1⟩)
  · obtain ⟨b0, b1, b2⟩ := S1.b1_3
    go_wp2_with fail
    clear b0 b1 b2
    refine (sKn_any R Ak ck ks N HN.out D u1 (S1.arg HK.out) (by have := HN.out; omega)).mono ?_
    rintro e u2 ⟨rfl, hB⟩
    have S2 := S1.call hB
    clear hB S1
    cases hk : knOk R ks D
    · have Hf : Hid (cvOk W H P xs R ks D = false) := Lib.hid (by rw [HV.out, hv, hk]; rfl)
      clear hv hk HV
      obtain ⟨r0, r1, r2, r3⟩ := S2.b0_4
      have f0 := S2.f0 0
      have f1 := S2.f0 1
      have f2 := S2.f0 2
      have f3 := S2.f0 3
      have HE := Lib.hid (S2.e0_4 (.int .i64 0) (.int .i64 0) (.int .i64 0) (.slice none 0 0))
      clear S2
      go_wp2
      exact bodyPost_ret (v := .agg #[.int .i64 0, .int .i64 0, .int .i64 0, .slice none 0 0]) (by simp [results, Try.results8, go_sem, r0, r1, r2, r3]) rfl (MadeIf.no Hf.out ⟨_, rfl, World.ownsRow_nil _ _ _ _, HE.out.1⟩)
    · have Ht : Hid (cvOk W H P xs R ks D = true) := Lib.hid (by rw [HV.out, hv, hk]; rfl)
      obtain ⟨W, H, P, rfl, rfl, rfl, hW1, hW, hH1, hH, hP1, hP, hln, hby⟩ := vim_nat hv
      obtain ⟨R, D, rfl, rfl, hR2, ⟨hD1, hD2⟩, _, hk25, hkb⟩ := knOk_nat hk
      have HLn := Lib.hid hln
      have HKb := Lib.hid hkb
      have hN25 : N ≤ 25 := by have := HN.out; omega
      have HF : Hid (∀ p, p < P → ∀ x y, x < W → y < H → 0 ≤ px W P xs x y p ∧ px W P xs x y p ≤ 255) := Lib.hid (fun p hp x y hx hy => hby _ (by
        have h1 := row_lt hx hy
        have := Nat.mul_le_mul_right P (show y * W + x + 1 ≤ W * H from h1)
        rw [Nat.add_mul, Nat.one_mul] at this
        show pix W P x y p < xs.length
        unfold pix; rw [hln]; omega))
      have hpos : 0 < xs.length := by rw [hln]; exact Nat.mul_pos (Nat.mul_pos hW1 hH1) hP1
      obtain ⟨n, hn⟩ : ∃ n, n = xs.length := ⟨_, rfl⟩
      obtain ⟨L, hL⟩ : ∃ L, L = cvL W H P xs R ks D := ⟨_, rfl⟩
      have HL := Lib.hid hL
      have HLl : Hid (L.length = n) := Lib.hid (by rw [hL, hn, hln]; unfold cvL; exact img_len ..)
      have HNn := Lib.hid hn
      have HNp : Hid (n = W * H * P) := Lib.hid (by rw [hn, hln])
      have hn1024 : n ≤ 1024 := by
        have h1 := Nat.mul_le_mul hW hH
        have h2 := Nat.mul_le_mul h1 hP
        rw [hn, hln]; exact h2
      obtain ⟨d0, d1, d2, d3⟩ := S2.b2_4
      clear hv hk HV hln hby hkb hk25 hL
      go_wp2_with fail
      refine (sCopyImage_any W H P A c xs u2 (S2.arg HX.out) hl).mono ?_
      rintro e u3 ⟨v3, rfl, hO3, hB3⟩
      clear d0 d1 d2 d3
      obtain ⟨g, c2, rfl, hg1, hg2⟩ := hO3.form hpos
      have S3 := S2.add hO3 hB3
      obtain ⟨lo3, hlo3⟩ : ∃ lo3, lo3 = u2.heap.size := ⟨_, rfl⟩
      obtain ⟨hi3, hhi3⟩ : ∃ hi3, hi3 = u3.heap.size := ⟨_, rfl⟩
      obtain ⟨b3, hb3⟩ : ∃ b3, b3 = u3.heap.size := ⟨_, rfl⟩
      rw [← hn, ← hlo3, ← hhi3] at S3
      have HI0 : Hid (GS w (u3.alloc (.cells #[.int .i64 (W : Int), .int .i64 (H : Int), .int .i64 (P : Int), .slice (some ⟨g, 0, none⟩) n c2] 29)) [ri lo3 hi3 (.slice (some ⟨g, 0, none⟩) n c2) (L.take 0 ++ xs.drop 0)] [⟨b3, 29, #[.int .i64 (W : Int), .int .i64 (H : Int), .int .i64 (P : Int), .slice (some ⟨g, 0, none⟩) n c2]⟩, ⟨w.heap.size + 2, 29, #[.int .i64 0, .int .i64 0, .int .i64 0, .slice none 0 0]⟩, ⟨w.heap.size + 1, 32, #[.int .i64 (R : Int), .slice Ak N ck, .int .i64 (D : Int)]⟩, ⟨w.heap.size, 29, #[.int .i64 (W : Int), .int .i64 (H : Int), .int .i64 (P : Int), .slice A xs.length c]⟩]) :=
        Lib.hid (by rw [List.take_zero, List.drop_zero, List.nil_append, hn]; rw [hn] at S3; exact GS.box' S3 _ _ b3 hb3)
      rw [← hn]
      have HB3 := Lib.hid hb3
      have HnI := Lib.hid hpos
      clear hO3 hB3 S2 S3 hn hlo3 hhi3 hb3 hg1 hg2 hpos
      go_upto_region 4 with fail
      (try rw [← HB3.out])
      generalize hu4 : u3.alloc (.cells #[.int .i64 (W : Int), .int .i64 (H : Int), .int .i64 (P : Int), .slice (some ⟨g, 0, none⟩) n c2] 29) = u4 at *
      clear hu4
      obtain ⟨d0, d1, d2, d3⟩ := HI0.out.b3_4
      go_wp2
      (try rw [← HB3.out])
      go_loopw [6] (fun iy wr => ∃ (y q : Nat), y ≤ H ∧ iy = .int .i64 y ∧ Hid (q = y * W * P) ∧ Hid (GS w wr [ri lo3 hi3 (.slice (some ⟨g, 0, none⟩) n c2) (L.take q ++ xs.drop q)] [⟨b3, 29, #[.int .i64 (W : Int), .int .i64 (H : Int), .int .i64 (P : Int), .slice (some ⟨g, 0, none⟩) n c2]⟩, ⟨w.heap.size + 2, 29, #[.int .i64 0, .int .i64 0, .int .i64 0, .slice none 0 0]⟩, ⟨w.heap.size + 1, 32, #[.int .i64 (R : Int), .slice Ak N ck, .int .i64 (D : Int)]⟩, ⟨w.heap.size, 29, #[.int .i64 (W : Int), .int .i64 (H : Int), .int .i64 (P : Int), .slice A xs.length c]⟩])) (fun iy _ => H - (intOf iy).toNat)
      case atStart => exact ⟨0, 0, Nat.zero_le _, rfl, Lib.hid (by simp), HI0⟩
      case round =>
        clear HI0 d0 d1 d2 d3
        obtain ⟨y, q, hy, rfl, hq, hI⟩ := hrel
        obtain ⟨d0, d1, d2, d3⟩ := hI.out.b3_4
        by_cases hylt : y < H
        · go_wp2
          go_loopw [7] (fun ix wr => ∃ (x q : Nat), x ≤ W ∧ ix = .int .i64 x ∧ Hid (q = (y * W + x) * P) ∧ Hid (GS w wr [ri lo3 hi3 (.slice (some ⟨g, 0, none⟩) n c2) (L.take q ++ xs.drop q)] [⟨b3, 29, #[.int .i64 (W : Int), .int .i64 (H : Int), .int .i64 (P : Int), .slice (some ⟨g, 0, none⟩) n c2]⟩, ⟨w.heap.size + 2, 29, #[.int .i64 0, .int .i64 0, .int .i64 0, .slice none 0 0]⟩, ⟨w.heap.size + 1, 32, #[.int .i64 (R : Int), .slice Ak N ck, .int .i64 (D : Int)]⟩, ⟨w.heap.size, 29, #[.int .i64 (W : Int), .int .i64 (H : Int), .int .i64 (P : Int), .slice A xs.length c]⟩])) (fun ix _ => W - (intOf ix).toNat)
          case atStart => exact ⟨0, q, Nat.zero_le _, rfl, Lib.hid (by rw [hq.out]; simp), hI⟩
          case round =>
            clear hI hq q d0 d1 d2 d3
            obtain ⟨x, q, hx, rfl, hq, hI⟩ := hrel
            obtain ⟨d0, d1, d2, d3⟩ := hI.out.b3_4
            by_cases hxlt : x < W
            · go_wp2
              go_loopw [8] (fun ip wr => ∃ (p q : Nat), p ≤ P ∧ ip = .int .i64 p ∧ Hid (q = (y * W + x) * P + p) ∧ Hid (GS w wr [ri lo3 hi3 (.slice (some ⟨g, 0, none⟩) n c2) (L.take q ++ xs.drop q)] [⟨b3, 29, #[.int .i64 (W : Int), .int .i64 (H : Int), .int .i64 (P : Int), .slice (some ⟨g, 0, none⟩) n c2]⟩, ⟨w.heap.size + 2, 29, #[.int .i64 0, .int .i64 0, .int .i64 0, .slice none 0 0]⟩, ⟨w.heap.size + 1, 32, #[.int .i64 (R : Int), .slice Ak N ck, .int .i64 (D : Int)]⟩, ⟨w.heap.size, 29, #[.int .i64 (W : Int), .int .i64 (H : Int), .int .i64 (P : Int), .slice A xs.length c]⟩])) (fun ip _ => P - (intOf ip).toNat)
              case atStart => exact ⟨0, q, Nat.zero_le _, rfl, Lib.hid (by rw [hq.out]; simp), hI⟩
              case round =>
                clear hI hq q d0 d1 d2 d3
                obtain ⟨p, q, hp, rfl, hq, hI⟩ := hrel
                obtain ⟨d0, d1, d2, d3⟩ := hI.out.b3_4
                by_cases hplt : p < P
                · have hlt := row_lt (W := W) (H := H) hxlt hylt
                  obtain ⟨j1, g1⟩ : ∃ j, j = y * W := ⟨_, rfl⟩
                  obtain ⟨j2, g2⟩ : ∃ j, j = j1 + x := ⟨_, rfl⟩
                  obtain ⟨j3, g3⟩ : ∃ j, j = j2 * P := ⟨_, rfl⟩
                  have g4 : q = j3 + p := by rw [hq.out, g3, g2, g1]
                  have hj2 : j2 < W * H := by rw [g2, g1]; exact hlt
                  have hWH : W * H ≤ 256 := Nat.mul_le_mul hW hH
                  have hqn : q < n := by
                    rw [HNp.out, g4, g3]
                    have := Nat.mul_le_mul_right P (show j2 + 1 ≤ W * H from hj2)
                    rw [Nat.add_mul, Nat.one_mul] at this
                    omega
                  have i1 : (y : Int) * (W : Int) = (j1 : Int) := by rw [g1]; simp
                  have i2 : (j1 : Int) + (x : Int) = (j2 : Int) := by rw [g2]; simp
                  have i3 : (j2 : Int) * (P : Int) = (j3 : Int) := by rw [g3]; simp
                  have i4 : (j3 : Int) + (p : Int) = (q : Int) := by rw [g4]; simp
                  have w1 := wr_natC (n := j1) (by omega)
                  have w2 := wr_natC (n := j2) (by omega)
                  have w3 := wr_natC (n := j3) (by omega)
                  have w4 := wr_natC (n := q) (by omega)
                  have hqI : (q : Int) < (n : Int) := by omega
                  obtain ⟨sv, hsv⟩ : ∃ s, s = cvS (fun a b => px W P xs a b p) W H R ks x y ks.length := ⟨_, rfl⟩
                  have hsb := cvS_bd (R := R) hW1 hH1 (HF.out p hplt) HKb.out x y ks.length (Nat.le_refl _)
                  rw [← hsv] at hsb
                  have hsb2 : -700000 ≤ sv ∧ sv ≤ 700000 := by have := HN.out; omega
                  obtain ⟨sb0, sb1⟩ := hsb2
                  obtain ⟨vq, hvq⟩ : ∃ v, (2 * sv + (D : Int)) / (2 * (D : Int)) = v := ⟨_, rfl⟩
                  have HCv : Hid (∀ u, Rds .i64 u u.heap.size A xs → Rds .i64 u u.heap.size Ak ks → Calls Try.prog 28 #[.agg #[.int .i64 (W : Int), .int .i64 (H : Int), .int .i64 (P : Int), .slice A xs.length c], .agg #[.int .i64 (R : Int), .slice Ak N ck, .int .i64 (D : Int)], .int .i64 (x : Int), .int .i64 (y : Int), .int .i64 (p : Int)] u fun e w' => e = .returned (.int .i64 sv) ∧ Below u.heap.size u w') := Lib.hid (fun u a b => by rw [hsv]; exact sCv_any W H P R p N (D : Int) hW1 hW hH1 hH hP hplt hR2 Ak ck ks HN.out hN25 HKb.out A c xs HLn.out (HF.out p hplt) x y hxlt hylt u a b)
                  have HFl : Hid (∀ u, Calls Try.prog 27 #[.int .i64 (2 * sv + (D : Int)), .int .i64 (2 * (D : Int))] u fun e w' => e = .returned (.int .i64 vq) ∧ u = w') := Lib.hid (fun u => by rw [← hvq]; exact sFlr_any _ _ u (by omega) (by omega) (by omega))
                  have hvb : -1000000 ≤ vq ∧ vq ≤ 1000000 := by
                    rw [← hvq]
                    have a1 := Int.ediv_mul_le (2 * sv + (D : Int)) (show 2 * (D : Int) ≠ 0 by omega)
                    have a2 := Int.lt_ediv_add_one_mul_self (2 * sv + (D : Int)) (show 0 < 2 * (D : Int) by omega)
                    generalize (2 * sv + (D : Int)) / (2 * (D : Int)) = V at a1 a2 ⊢
                    constructor
                    · by_cases hV : V < -1000000
                      · have : (V + 1) * (2 * (D : Int)) ≤ -1000000 * (2 * (D : Int)) := Int.mul_le_mul_of_nonneg_right (by omega) (by omega)
                        omega
                      · omega
                    · by_cases hV : 1000000 < V
                      · have : 1000000 * (2 * (D : Int)) ≤ V * (2 * (D : Int)) := Int.mul_le_mul_of_nonneg_right (by omega) (by omega)
                        omega
                      · omega
                  have HVq : Hid (L.getD q 0 = lim vq 0 255) := Lib.hid (by
                    rw [HL.out, g4, g3]
                    unfold cvL
                    rw [img_at _ hj2 hplt, g2, g1, row_mod hxlt, row_div hxlt]
                    unfold cvV
                    rw [← hsv, hvq])
                  have HSet : Hid ((L.take q ++ xs.drop q).set q (lim vq 0 255) = L.take (q + 1) ++ xs.drop (q + 1)) := Lib.hid (by rw [← HVq.out]; exact take_putC (by rw [HLl.out, HNn.out]) (by rw [← HNn.out]; exact hqn))
                  have hlq : (L.take q ++ xs.drop q).length = n := by
                    have h1 := HLl.out
                    have h2 := HNn.out
                    simp; omega
                  have HLq := Lib.hid hlq
                  have v1 : IntKind.i64.wrap (2 * sv) = 2 * sv := IntWalk.i64_in _ (by omega)
                  have v2 : IntKind.i64.wrap (2 * sv + (D : Int)) = 2 * sv + (D : Int) := IntWalk.i64_in _ (by omega)
                  have v3 : IntKind.i64.wrap (2 * (D : Int)) = 2 * (D : Int) := IntWalk.i64_in _ (by omega)
                  have Hg4 := Lib.hid (show q + 1 = (y * W + x) * P + (p + 1) by rw [hq.out]; omega)
                  have HC := Lib.hid hI.out.drew
                  clear hI hq g1 g2 g3 g4 hj2 hsv hvq hlt hlq hsb
                  go_upto_region 13 with fail
                  clear d0 d1 d2 d3
                  refine wp_region_held_drew (S := (fun w' => w'.cell? ⟨w.heap.size, 0, none⟩ = some (.int .i64 (W : Int)) ∧ w'.cell? ⟨w.heap.size, 1, none⟩ = some (.int .i64 (H : Int)) ∧ w'.cell? ⟨w.heap.size, 2, none⟩ = some (.int .i64 (P : Int)) ∧ w'.cell? ⟨w.heap.size, 3, none⟩ = some (.slice A xs.length c) ∧ w'.cell? ⟨(w.heap.size + 1), 0, none⟩ = some (.int .i64 (R : Int)) ∧ w'.cell? ⟨(w.heap.size + 1), 1, none⟩ = some (.slice Ak N ck) ∧ w'.cell? ⟨(w.heap.size + 1), 2, none⟩ = some (.int .i64 (D : Int)))) (by kernel_rfl) (by exact ⟨HC.out.b3_4.1, HC.out.b3_4.2.1, HC.out.b3_4.2.2.1, HC.out.b3_4.2.2.2, HC.out.b2_3.1, HC.out.b2_3.2.1, HC.out.b2_3.2.2⟩) (fun hHeld => ?_)
                  refine' wpAnyH_take (i := 0) (oi := _) (v := _) ?hi1 (by kernel_rfl) (by kernel_rfl) (by kernel_rfl) ?hq1 (Or.inl ⟨?hw1, ?hy1⟩) (by assumption) ?rest1
                  case hi1 => (simp only [List.getElem?_toArray, List.getElem?_cons_succ, List.getElem?_cons_zero]; rfl)
                  case hq1 => exact fun _ _ _ h => h
                  case hw1 => rfl
                  case hy1 => (intro wq hSw; (try dsimp only at hSw); go_simp; (try with_reducible rfl))
                  (try simp only [Act.put, List.setIfInBounds_toArray, List.set_cons_zero, List.set_cons_succ])
                  refine' wpAnyH_take (i := 1) (oi := _) (v := _) ?hi2 (by kernel_rfl) (by kernel_rfl) (by kernel_rfl) ?hq2 (Or.inl ⟨?hw2, ?hy2⟩) (by assumption) ?rest2
                  case hi2 => (simp only [List.getElem?_toArray, List.getElem?_cons_succ, List.getElem?_cons_zero]; rfl)
                  case hq2 => exact fun _ _ _ h => h
                  case hw2 => rfl
                  case hy2 => (intro wq hSw; (try dsimp only at hSw); go_simp; (try with_reducible rfl))
                  (try simp only [Act.put, List.setIfInBounds_toArray, List.set_cons_zero, List.set_cons_succ])
                  refine' wpAnyH_take (i := 2) (oi := _) (v := _) ?hi3 (by kernel_rfl) (by kernel_rfl) (by kernel_rfl) ?hq3 (Or.inl ⟨?hw3, ?hy3⟩) (by assumption) ?rest3
                  case hi3 => (simp only [List.getElem?_toArray, List.getElem?_cons_succ, List.getElem?_cons_zero]; rfl)
                  case hq3 => exact fun _ _ _ h => h
                  case hw3 => rfl
                  case hy3 => (intro wq hSw; (try dsimp only at hSw); go_simp; (try with_reducible rfl))
                  (try simp only [Act.put, List.setIfInBounds_toArray, List.set_cons_zero, List.set_cons_succ])
                  refine' wpAnyH_take (i := 3) (oi := _) (v := _) ?hi4 (by kernel_rfl) (by kernel_rfl) (by kernel_rfl) ?hq4 (Or.inl ⟨?hw4, ?hy4⟩) (by assumption) ?rest4
                  case hi4 => (simp only [List.getElem?_toArray, List.getElem?_cons_succ, List.getElem?_cons_zero]; rfl)
                  case hq4 => exact fun _ _ _ h => h
                  case hw4 => rfl
                  case hy4 => (intro wq hSw; (try dsimp only at hSw); go_simp; (try with_reducible rfl))
                  (try simp only [Act.put, List.setIfInBounds_toArray, List.set_cons_zero, List.set_cons_succ])
                  refine' wpAnyH_take (i := 4) (oi := _) (v := _) ?hi5 (by kernel_rfl) (by kernel_rfl) (by kernel_rfl) ?hq5 (Or.inl ⟨?hw5, ?hy5⟩) (by assumption) ?rest5
                  case hi5 => (simp only [List.getElem?_toArray, List.getElem?_cons_succ, List.getElem?_cons_zero]; rfl)
                  case hq5 => exact fun _ _ _ h => h
                  case hw5 => rfl
                  case hy5 => (intro wq hSw; (try dsimp only at hSw); go_simp; (try with_reducible rfl))
                  (try simp only [Act.put, List.setIfInBounds_toArray, List.set_cons_zero, List.set_cons_succ])
                  refine' wpAnyH_take (i := 7) (oi := _) (v := _) ?hi6 (by kernel_rfl) (by kernel_rfl) (by kernel_rfl) ?hq6 (Or.inl ⟨?hw6, ?hy6⟩) (by assumption) ?rest6
                  case hi6 => (simp only [List.getElem?_toArray, List.getElem?_cons_succ, List.getElem?_cons_zero]; rfl)
                  case hq6 => exact fun _ _ _ h => h
                  case hw6 => rfl
                  case hy6 => (intro wq hSw; (try dsimp only at hSw); go_simp; (try with_reducible rfl))
                  (try simp only [Act.put, List.setIfInBounds_toArray, List.set_cons_zero, List.set_cons_succ])
                  refine' wpAnyH_take (i := 8) (oi := _) (v := _) ?hi7 (by kernel_rfl) (by kernel_rfl) (by kernel_rfl) ?hq7 (Or.inl ⟨?hw7, ?hy7⟩) (by assumption) ?rest7
                  case hi7 => (simp only [List.getElem?_toArray, List.getElem?_cons_succ, List.getElem?_cons_zero]; rfl)
                  case hq7 => exact fun _ _ _ h => h
                  case hw7 => rfl
                  case hy7 => (intro wq hSw; (try dsimp only at hSw); go_simp; (try with_reducible rfl))
                  (try simp only [Act.put, List.setIfInBounds_toArray, List.set_cons_zero, List.set_cons_succ])
                  refine' wpAnyH_take (i := 10) (oi := _) (v := _) ?hi8 (by kernel_rfl) (by kernel_rfl) (by kernel_rfl) ?hq8 (Or.inl ⟨?hw8, ?hy8⟩) (by assumption) ?rest8
                  case hi8 => (simp only [List.getElem?_toArray, List.getElem?_cons_succ, List.getElem?_cons_zero]; rfl)
                  case hq8 => exact fun _ _ _ h => h
                  case hw8 => rfl
                  case hy8 => (intro wq hSw; (try dsimp only at hSw); go_simp; (try with_reducible rfl))
                  (try simp only [Act.put, List.setIfInBounds_toArray, List.set_cons_zero, List.set_cons_succ])
                  refine' wpAnyH_take (i := 11) (oi := _) (v := _) ?hi9 (by kernel_rfl) (by kernel_rfl) (by kernel_rfl) ?hq9 (Or.inl ⟨?hw9, ?hy9⟩) (by assumption) ?rest9
                  case hi9 => (simp only [List.getElem?_toArray, List.getElem?_cons_succ, List.getElem?_cons_zero]; rfl)
                  case hq9 => exact fun _ _ _ h => h
                  case hw9 => rfl
                  case hy9 => (intro wq hSw; (try dsimp only at hSw); go_simp; (try with_reducible rfl))
                  (try simp only [Act.put, List.setIfInBounds_toArray, List.set_cons_zero, List.set_cons_succ])
                  refine' wpAnyH_take (i := 12) (oi := _) (v := _) ?hi10 (by kernel_rfl) (by kernel_rfl) (by kernel_rfl) ?hq10 (Or.inl ⟨?hw10, ?hy10⟩) (by assumption) ?rest10
                  case hi10 => (simp only [List.getElem?_toArray, List.getElem?_cons_succ, List.getElem?_cons_zero]; rfl)
                  case hq10 => exact fun _ _ _ h => h
                  case hw10 => rfl
                  case hy10 => (intro wq hSw; (try dsimp only at hSw); go_simp; (try with_reducible rfl))
                  (try simp only [Act.put, List.setIfInBounds_toArray, List.set_cons_zero, List.set_cons_succ])
                  refine wpAnyH_ready (rs := [5]) (by kernel_rfl) (by simp) ?_
                  refine' AllReadyH.cons (o := _) ?hi11 (fun K hK => ?rest11) AllReadyH.nil
                  case hi11 => (simp only [List.getElem?_toArray, List.getElem?_cons_succ, List.getElem?_cons_zero]; rfl)
                  go_simp
                  go_at_call 28
                  refine (HCv.out _ (HC.out.arg HX.out) (HC.out.arg HK.out)).mono ?_
                  rintro e w5 ⟨rfl, hB⟩
                  have HD := Lib.hid (HC.out.call hB)
                  clear HC hB
                  have HC := HD
                  clear HD
                  refine hK.out _ _ (by (try dsimp only); exact ⟨HC.out.b3_4.1, HC.out.b3_4.2.1, HC.out.b3_4.2.2.1, HC.out.b3_4.2.2.2, HC.out.b2_3.1, HC.out.b2_3.2.1, HC.out.b2_3.2.2⟩) (fun hHeld => ?_)
                  clear hK K
                  (try simp only [Act.put, List.setIfInBounds_toArray, List.set_cons_zero, List.set_cons_succ])
                  refine' wpAnyH_take (i := 6) (oi := _) (v := _) ?hi12 (by kernel_rfl) (by kernel_rfl) (by kernel_rfl) ?hq12 (Or.inl ⟨?hw12, ?hy12⟩) (by assumption) ?rest12
                  case hi12 => (simp only [List.getElem?_toArray, List.getElem?_cons_succ, List.getElem?_cons_zero]; rfl)
                  case hq12 => exact fun _ _ _ h => h
                  case hw12 => rfl
                  case hy12 => (intro wq hSw; (try dsimp only at hSw); go_simp; (try with_reducible rfl))
                  (try simp only [Act.put, List.setIfInBounds_toArray, List.set_cons_zero, List.set_cons_succ])
                  refine' wpAnyH_take (i := 9) (oi := _) (v := _) ?hi13 (by kernel_rfl) (by kernel_rfl) (by kernel_rfl) ?hq13 (Or.inl ⟨?hw13, ?hy13⟩) (by assumption) ?rest13
                  case hi13 => (simp only [List.getElem?_toArray, List.getElem?_cons_succ, List.getElem?_cons_zero]; rfl)
                  case hq13 => exact fun _ _ _ h => h
                  case hw13 => rfl
                  case hy13 => (intro wq hSw; (try dsimp only at hSw); go_simp; (try with_reducible rfl))
                  (try simp only [Act.put, List.setIfInBounds_toArray, List.set_cons_zero, List.set_cons_succ])
                  refine wpAnyH_ready (rs := [13]) (by kernel_rfl) (by simp) ?_
                  refine' AllReadyH.cons (o := _) ?hi14 (fun K hK => ?rest14) AllReadyH.nil
                  case hi14 => (simp only [List.getElem?_toArray, List.getElem?_cons_succ, List.getElem?_cons_zero]; rfl)
                  go_simp
                  go_at_call 27
                  refine (HFl.out _).mono ?_
                  rintro e w6 ⟨rfl, rfl⟩
                  refine hK.out _ _ (by (try dsimp only); exact ⟨HC.out.b3_4.1, HC.out.b3_4.2.1, HC.out.b3_4.2.2.1, HC.out.b3_4.2.2.2, HC.out.b2_3.1, HC.out.b2_3.2.1, HC.out.b2_3.2.2⟩) (fun hHeld => ?_)
                  clear hK K
                  (try simp only [Act.put, List.setIfInBounds_toArray, List.set_cons_zero, List.set_cons_succ])
                  refine' wpAnyH_take (i := 14) (oi := _) (v := _) ?hi15 (by kernel_rfl) (by kernel_rfl) (by kernel_rfl) ?hq15 (Or.inl ⟨?hw15, ?hy15⟩) (by assumption) ?rest15
                  case hi15 => (simp only [List.getElem?_toArray, List.getElem?_cons_succ, List.getElem?_cons_zero]; rfl)
                  case hq15 => exact fun _ _ _ h => h
                  case hw15 => rfl
                  case hy15 => (intro wq hSw; (try dsimp only at hSw); go_simp; (try with_reducible rfl))
                  (try simp only [Act.put, List.setIfInBounds_toArray, List.set_cons_zero, List.set_cons_succ])
                  refine wpAnyH_done (by kernel_rfl) ?_ _
                  have hcw := HC.out.o0.cell (HLq.out.symm) (j := q) (by rw [HLq.out]; exact hqn)
                  have hfw := HC.out.o0.frozen (HLq.out.symm) q
                  generalize (L.take q ++ xs.drop q).getD q 0 = old at *
                  have HP : Hid (∀ z : Int, z = lim vq 0 255 → GS w (w5.setCell ⟨g, q, none⟩ (.int .i64 z)) [ri lo3 hi3 (.slice (some ⟨g, 0, none⟩) n c2) (L.take (q + 1) ++ xs.drop (q + 1))] [⟨b3, 29, #[.int .i64 (W : Int), .int .i64 (H : Int), .int .i64 (P : Int), .slice (some ⟨g, 0, none⟩) n c2]⟩, ⟨w.heap.size + 2, 29, #[.int .i64 0, .int .i64 0, .int .i64 0, .slice none 0 0]⟩, ⟨w.heap.size + 1, 32, #[.int .i64 (R : Int), .slice Ak N ck, .int .i64 (D : Int)]⟩, ⟨w.heap.size, 29, #[.int .i64 (W : Int), .int .i64 (H : Int), .int .i64 (P : Int), .slice A xs.length c]⟩]) := Lib.hid (fun z hz => by
                    have hp := HC.out.o0.put HLq.out.symm q z
                    rw [hz, HSet.out] at hp
                    rw [hz]
                    exact GS.mark0 HC.out hp.1 (by rw [← HSet.out, List.length_set]) hp.2)
                  have HC2 := HC
                  obtain ⟨d0, d1, d2, d3⟩ := HC.out.b0_4
                  obtain ⟨m0, m1, m2, m3⟩ := HC.out.b3_4
                  clear HC HCv HFl
                  have hz0 : lim vq 0 255 = min (max vq 0) 255 := rfl
                  by_cases c1 : 0 < vq
                  · by_cases c2' : vq < 255
                    · have HE := Lib.hid (HP.out vq (by rw [hz0]; omega))
                      clear hz0 HP
                      go_wp2
                      go_roundw
                      case rel => exact ⟨p + 1, q + 1, by omega, by go_num, Hg4, HE⟩
                      case measure => simp [intOf]; omega
                    · have HE := Lib.hid (HP.out 255 (by rw [hz0]; omega))
                      clear hz0 HP
                      go_wp2
                      go_roundw
                      case rel => exact ⟨p + 1, q + 1, by omega, by go_num, Hg4, HE⟩
                      case measure => simp [intOf]; omega
                  · have HE := Lib.hid (HP.out 0 (by rw [hz0]; omega))
                    clear hz0 HP
                    go_wp2
                    go_roundw
                    case rel => exact ⟨p + 1, q + 1, by omega, by go_num, Hg4, HE⟩
                    case measure => simp [intOf]; omega
                · have hpP : p = P := by omega
                  have HQ : Hid (q = (y * W + (x + 1)) * P) := Lib.hid (by rw [hq.out, hpP, ← Nat.add_assoc, Nat.add_mul (y * W + x) 1 P, Nat.one_mul])
                  clear hq
                  go_wp2
                  go_roundw
                  case rel => exact ⟨x + 1, q, by omega, by go_num, HQ, hI⟩
                  case measure => simp [intOf]; omega
            · have hxa : x = W := by omega
              have HQ : Hid (q = (y + 1) * W * P) := Lib.hid (by rw [hq.out, hxa, Nat.add_mul y 1 W, Nat.one_mul])
              clear hq
              go_wp2
              go_roundw
              case rel => exact ⟨y + 1, q, by omega, by go_num, HQ, hI⟩
              case measure => simp [intOf]; omega
        · have hyb : y = H := by omega
          have hqn : q = n := by rw [hq.out, HNp.out, hyb, Nat.mul_comm H W]
          have hG := hI.out
          have hfl : L.take n ++ xs.drop n = L := by
            have h1 := HLl.out
            have h2 := HNn.out
            rw [List.take_of_length_le (by omega), List.drop_eq_nil_of_le (by omega), List.append_nil]
          rw [hqn, hfl, HL.out] at hG
          have HNl := Lib.hid (show n = (cvL W H P xs R ks D).length by rw [← HL.out]; exact HLl.out.symm)
          obtain ⟨r0, r1, r2, r3⟩ := hG.b1_4
          obtain ⟨o0, o1, o2, o3⟩ := hG.b0_4
          have f0 := hG.f1 0
          have f1 := hG.f1 1
          have f2 := hG.f1 2
          have f3 := hG.f1 3
          have HE := Lib.hid (hG.e1_4 (.int .i64 (W : Int)) (.int .i64 (H : Int)) (.int .i64 (P : Int)) (.slice (some ⟨g, 0, none⟩) n c2))
          clear hI hyb hG hqn hq hfl
          go_wp2
          exact bodyPost_ret (v := .agg #[.int .i64 (W : Int), .int .i64 (H : Int), .int .i64 (P : Int), .slice (some ⟨g, 0, none⟩) n c2]) (by simp [results, Try.results8, go_sem, r0, r1, r2, r3]) rfl (MadeIf.yes Ht.out ⟨_, rfl, HE.out.2 _ (List.Mem.head _), HE.out.1⟩)
end Go.Proofs.Ytjgcondkoaegnaa
