/- IndexImage of the model. -/
import Derived.Test.YtkjebidkkopalaaColS
import Derived.Test.YtkjebidkkopalaaIxM
namespace Go.Proofs.Ytkjebidkkopalaa
open Go.RowKit
set_option linter.unusedSimpArgs false
set_option linter.unusedVariables false
set_option maxRecDepth 20000

set_option maxHeartbeats 16000000 in
theorem s_IndexImage (W H P : Int) (A : Option Addr) (c : Nat) (xs : List Int) (A2 : Option Addr) (n2 c2 : Nat) (xss : List (List Int)) (w : World) (hx : Rds .i64 w w.heap.size A xs) (hl : xs.length ≤ 2000000) (hlc : xs.length ≤ c) (hs : Rdss w w.heap.size A2 xss) (hn2 : n2 = xss.length) (ht : tot xss ≤ 2000000) :
    Calls Try.prog 24 #[.agg #[.int .i64 W, .int .i64 H, .int .i64 P, .slice A xs.length c], .slice A2 n2 c2] w (ColR (ixOk W H P xs xss) W H 1 (ixL W.toNat H.toNat P.toNat xs xss) w) := by
  have HX := Lib.hid hx
  have HS := Lib.hid hs
  have Hn2 := Lib.hid hn2
  have Htt := Lib.hid ht
  have hnl2 : n2 ≤ 2000000 := by rw [hn2]; unfold tot at ht; omega
  clear hx hs hn2 ht
  have S0 : GS w ((w.alloc (.cells #[.int .i64 W, .int .i64 H, .int .i64 P, .slice A xs.length c] 25)).alloc (.cells #[.int .i64 0, .int .i64 0, .int .i64 0, .slice none 0 0] 25)) [] [⟨(w.heap.size + 1), 25, #[.int .i64 0, .int .i64 0, .int .i64 0, .slice none 0 0]⟩, ⟨w.heap.size, 25, #[.int .i64 W, .int .i64 H, .int .i64 P, .slice A xs.length c]⟩] := GS.box' (GS.box' (GS.start w) 25 #[.int .i64 W, .int .i64 H, .int .i64 P, .slice A xs.length c] w.heap.size (by simp)) 25 #[.int .i64 0, .int .i64 0, .int .i64 0, .slice none 0 0] (w.heap.size + 1) (by simp)
  have HV : Hid (ixOk W H P xs xss = (vim W H P xs && (palB xss P && !decide (xss.length = 0)))) := Lib.hid rfl
  go_enter Try.func24, Try.ntmps24
  go_wp2_with fail
  generalize (w.alloc (.cells #[.int .i64 W, .int .i64 H, .int .i64 P, .slice A xs.length c] 25)).alloc (.cells #[.int .i64 0, .int .i64 0, .int .i64 0, .slice none 0 0] 25) = u0 at *
  refine (sVimg_any W H P A c xs u0 (S0.arg HX.out) hl).mono ?_
  rintro e u1 ⟨rfl, hB⟩
  have S1 := S0.call hB
  clear hB S0
  cases hv : vim W H P xs
  · have Hv : Hid (ixOk W H P xs xss = false) := Lib.hid (by rw [HV.out, hv]; rfl)
    clear hv HV
    obtain ⟨r0, r1, r2, r3⟩ := S1.b0_4
    have f0 := S1.f0 0
    have f1 := S1.f0 1
    have f2 := S1.f0 2
    have f3 := S1.f0 3
    have HE := Lib.hid (S1.e0_4 (.int .i64 0) (.int .i64 0) (.int .i64 0) (.slice none 0 0))
    clear S1
    go_wp2
    exact bodyPost_ret (v := .tuple #[.agg #[.int .i64 0, .int .i64 0, .int .i64 0, .slice none 0 0], .bool false]) (by simp [results, Try.results24, go_sem, r0, r1, r2, r3]) rfl (ColR.no Hv.out HE.out.1)
  obtain ⟨d0, d1, d2, d3⟩ := S1.b1_4
  have HSu := Lib.hid ((HS.out.below S1.below).more S1.below.size)
  go_wp2_with fail
  refine (sVcs_any A2 c2 n2 _ xss P u1 Hn2.out HSu.out Htt.out).mono ?_
  rintro e w2 ⟨rfl, rfl⟩
  cases hp : palB xss P
  · have Hv : Hid (ixOk W H P xs xss = false) := Lib.hid (by rw [HV.out, hp]; simp)
    clear hv HV hp d0 d1 d2 d3
    obtain ⟨r0, r1, r2, r3⟩ := S1.b0_4
    have f0 := S1.f0 0
    have f1 := S1.f0 1
    have f2 := S1.f0 2
    have f3 := S1.f0 3
    have HE := Lib.hid (S1.e0_4 (.int .i64 0) (.int .i64 0) (.int .i64 0) (.slice none 0 0))
    clear S1
    go_wp2
    exact bodyPost_ret (v := .tuple #[.agg #[.int .i64 0, .int .i64 0, .int .i64 0, .slice none 0 0], .bool false]) (by simp [results, Try.results24, go_sem, r0, r1, r2, r3]) rfl (ColR.no Hv.out HE.out.1)
  by_cases h0 : n2 = 0
  · have Hv : Hid (ixOk W H P xs xss = false) := Lib.hid (by rw [HV.out, ← Hn2.out, decide_eq_true h0]; simp)
    clear hv HV hp d0 d1 d2 d3
    subst h0
    obtain ⟨r0, r1, r2, r3⟩ := S1.b0_4
    have f0 := S1.f0 0
    have f1 := S1.f0 1
    have f2 := S1.f0 2
    have f3 := S1.f0 3
    have HE := Lib.hid (S1.e0_4 (.int .i64 0) (.int .i64 0) (.int .i64 0) (.slice none 0 0))
    clear S1
    go_wp2
    exact bodyPost_ret (v := .tuple #[.agg #[.int .i64 0, .int .i64 0, .int .i64 0, .slice none 0 0], .bool false]) (by simp [results, Try.results24, go_sem, r0, r1, r2, r3]) rfl (ColR.no Hv.out HE.out.1)
  have hb0 : ((n2 : Int) == 0) = false := beq_eq_false_iff_ne.2 (by omega)
  have Hv : Hid (ixOk W H P xs xss = true) := Lib.hid (by rw [HV.out, hv, hp, ← Hn2.out, decide_eq_false h0]; rfl)
  have hpo := palB_of hp
  clear HV
  obtain ⟨W, H, P, rfl, rfl, rfl, hW1, hW, hH1, hH, hP1, hPm, hln, hby⟩ := vim_nat hv
  have hpos : 0 < xs.length := by rw [hln]; exact Nat.mul_pos (Nat.mul_pos hW1 hH1) hP1
  obtain ⟨b, off, rfl, hb, hcx⟩ := HX.out.cells_ hpos
  obtain ⟨n1, hn1⟩ : ∃ n1, n1 = xs.length := ⟨_, rfl⟩
  have hWH : W * H ≤ 256 := by have := Nat.mul_le_mul hW hH; omega
  obtain ⟨n, hn⟩ : ∃ n, n = W * H := ⟨_, rfl⟩
  have hn256 : n ≤ 256 := by omega
  obtain ⟨L, hL⟩ : ∃ L, L = ixL W H P xs xss := ⟨_, rfl⟩
  have HLL : Hid (L.length = n) := Lib.hid (by rw [hL, hn]; exact (img_len ..).trans (Nat.mul_one _))
  have HLA : Hid (∀ k : Nat, k < n → L.getD k 0 = nbI xss (pxl W P xs (k % W) (k / W)) n2) := Lib.hid (fun k hk => by
    have h := img_at (W := W) (H := H) (P := 1) (ixF W P xs xss) (k := k) (p := 0) (by rw [← hn]; exact hk) (by omega)
    rw [Nat.mul_one, Nat.add_zero] at h
    rw [hL, Hn2.out]
    exact h)
  have HCx := Lib.hid hcx
  have HCl := Lib.hid hpo.2
  have h16 : n2 ≤ 16 := by have := hpo.1; have := Hn2.out; omega
  have HN1 : Hid (n1 = n * P) := Lib.hid (by rw [hn1, hln, hn])
  have HBl := Lib.hid S1.below
  have hbu : b < u1.heap.size := Nat.lt_of_lt_of_le hb S1.below.size
  have HBy := Lib.hid hby
  have HL0 := Lib.hid hL
  have Hn := Lib.hid hn
  have Hn1 := Lib.hid hn1
  have Hg0 : Hid (0 < W * H) := Lib.hid (Nat.mul_pos hW1 hH1)
  clear hn hL hn1 hln hv hby hcx hp hpo HX HS
  go_wp2_with fail
  rw [show (1 : Int) = ((1 : Nat) : Int) from rfl]
  refine (newImage_any W H 1 hW hH (by omega) u1).mono ?_
  rintro e u3 ⟨v3, rfl, hO3, hB3⟩
  have hzl : (zeros (W * H * 1)).length = n := by simp [zeros, Hn.out]
  obtain ⟨g, c3, rfl, hg1, hg2⟩ := hO3.form (by rw [hzl, Hn.out]; exact Hg0.out)
  have S3 := S1.add hO3 hB3
  rw [hzl] at S3 ⊢
  rw [Nat.mul_one, ← Hn.out] at S3
  rw [← Hn1.out] at S3 ⊢
  obtain ⟨lo3, hlo3⟩ : ∃ lo3, lo3 = u1.heap.size := ⟨_, rfl⟩
  obtain ⟨hi3, hhi3⟩ : ∃ hi3, hi3 = u3.heap.size := ⟨_, rfl⟩
  obtain ⟨b3, hb3⟩ : ∃ b3, b3 = u3.heap.size := ⟨_, rfl⟩
  rw [← hlo3, ← hhi3] at S3
  have HI0 : Hid (GS w (u3.alloc (.cells #[.int .i64 (W : Int), .int .i64 (H : Int), .int .i64 1, .slice (some ⟨g, 0, none⟩) n c3] 25)) [ri lo3 hi3 (.slice (some ⟨g, 0, none⟩) n c3) (L.take 0 ++ zeros (n - 0))] [⟨b3, 25, #[.int .i64 (W : Int), .int .i64 (H : Int), .int .i64 1, .slice (some ⟨g, 0, none⟩) n c3]⟩, ⟨w.heap.size + 1, 25, #[.int .i64 0, .int .i64 0, .int .i64 0, .slice none 0 0]⟩, ⟨w.heap.size, 25, #[.int .i64 (W : Int), .int .i64 (H : Int), .int .i64 (P : Int), .slice (some ⟨b, off, none⟩) n1 c]⟩] ∧ Below u1.heap.size u1 (u3.alloc (.cells #[.int .i64 (W : Int), .int .i64 (H : Int), .int .i64 1, .slice (some ⟨g, 0, none⟩) n c3] 25))) :=
    Lib.hid ⟨by simpa using GS.box' S3 _ _ b3 hb3, hB3.alloc hB3.size _⟩
  have HB3 := Lib.hid hb3
  have hgu : u1.heap.size ≤ g := hg1
  rw [show (((1 : Nat) : Int)) = 1 from rfl]
  clear hO3 hB3 S1 S3 hzl hlo3 hhi3 hb3 hg1 hg2 d0 d1 d2 d3 hpos hW1 hH1
  go_wp2
  (try rw [← HB3.out])
  go_loopw [7] (fun i wr => ∃ k : Nat, k ≤ n ∧ i = .int .i64 (k : Int) ∧ Hid (GS w wr [ri lo3 hi3 (.slice (some ⟨g, 0, none⟩) n c3) (L.take k ++ zeros (n - k))] [⟨b3, 25, #[.int .i64 (W : Int), .int .i64 (H : Int), .int .i64 1, .slice (some ⟨g, 0, none⟩) n c3]⟩, ⟨w.heap.size + 1, 25, #[.int .i64 0, .int .i64 0, .int .i64 0, .slice none 0 0]⟩, ⟨w.heap.size, 25, #[.int .i64 (W : Int), .int .i64 (H : Int), .int .i64 (P : Int), .slice (some ⟨b, off, none⟩) n1 c]⟩] ∧ Below u1.heap.size u1 wr)) (fun i _ => n - (intOf i).toNat)
  case atStart => exact ⟨0, Nat.zero_le _, rfl, by simpa using HI0⟩
  case round =>
    obtain ⟨k, hk, rfl, hI⟩ := hrel
    clear HI0
    obtain ⟨o0, o1, o2, o3⟩ := hI.out.1.b0_4
    by_cases hlt : k < n
    · obtain ⟨q, hq⟩ : ∃ q, q = k * P := ⟨_, rfl⟩
      obtain ⟨q2, hq2⟩ : ∃ q2, q2 = (k + 1) * P := ⟨_, rfl⟩
      have hqq : q2 = q + P := by rw [hq, hq2, Nat.add_mul, Nat.one_mul]
      have hq2n : q2 ≤ n1 := by rw [hq2, HN1.out]; exact Nat.mul_le_mul_right P hlt
      have hn1b : n1 ≤ 1024 := by rw [HN1.out]; have := Nat.mul_le_mul hn256 hPm; omega
      have hkd : k / W * W + k % W = k := by rw [Nat.mul_comm]; exact Nat.div_add_mod k W
      obtain ⟨ys, hys⟩ : ∃ ys, ys = pxl W P xs (k % W) (k / W) := ⟨_, rfl⟩
      have HLy : Hid (ys.length = P) := Lib.hid (by rw [hys]; exact pxl_len ..)
      have HYb : Hid (allB 0 255 ys = true) := Lib.hid (by
        rw [hys]
        refine allB_yes (fun j hj => ?_)
        rw [pxl_len] at hj
        rw [pxl_get _ _ _ _ _ _ hj]
        refine HBy.out _ ?_
        unfold pix
        rw [hkd, ← hq, ← Hn1.out]; omega)
      have hLy : L.getD k 0 = (ncN xss ys n2 : Nat) := by
        rw [HLA.out k hlt, ← hys]
        unfold nbI
        rw [if_neg h0]
      obtain ⟨y, hy⟩ : ∃ y : Int, y = (ncN xss ys n2 : Nat) := ⟨_, rfl⟩
      rw [← hy] at hLy
      have HT : Hid ((L.take k ++ zeros (n - k)).set k y = L.take (k + 1) ++ zeros (n - (k + 1))) := Lib.hid (by have h := take_set_next L k (by rw [HLL.out]; exact hlt); rw [hLy, HLL.out] at h; exact h)
      have HC := Lib.hid hI.out.1.drew
      have HBw := Lib.hid hI.out.2.drew
      have hmem : Rds .i64 wr.drew wr.drew.heap.size (some ⟨b, off + q, none⟩) ys := by
        have h1 : ∀ j, j < xs.length → wr.drew.cell? ⟨b, off + j, none⟩ = some (.int .i64 (xs.getD j 0)) := fun j hj => (HBw.out.cell (p := ⟨b, off + j, none⟩) hbu).trans ((HBl.out.cell (p := ⟨b, off + j, none⟩) hb).trans (HCx.out j hj))
        have h2 := Rds.part (W := W) (P := P) (x := k % W) (y := k / W) (Nat.lt_of_lt_of_le hbu HBw.out.size) h1 (by rw [hkd, ← hq, ← Hn1.out]; omega)
        rw [hkd, ← hq, ← hys] at h2
        exact h2
      have HSw := Lib.hid ((HSu.out.below HBw.out).more HBw.out.size)
      have HNE := Lib.hid (sNear_any A2 (some ⟨b, off + q, none⟩) c2 (c - q) n2 (q2 - q) P _ _ xss ys wr.drew Hn2.out (by rw [HLy.out]; omega) hPm HLy.out HSw.out hmem HCl.out HYb.out (by omega) h16)
      rw [← hy] at HNE
      have hlj : (L.take k ++ zeros (n - k)).length = n := by simp [zeros, HLL.out]; omega
      have Hlj := Lib.hid hlj
      have i1 : (k : Int) * (P : Int) = (q : Int) := by rw [hq]; simp
      have i2 : ((k : Int) + 1) * (P : Int) = (q2 : Int) := by rw [hq2]; simp
      have hw0 : IntKind.i64.wrap ((k : Int) + 1) = (k : Int) + 1 := IntWalk.i64_in _ (by omega)
      have hw1 : IntKind.i64.wrap ((q : Nat) : Int) = (q : Int) := IntWalk.i64_in _ (by omega)
      have hw2 : IntKind.i64.wrap ((q2 : Nat) : Int) = (q2 : Int) := IntWalk.i64_in _ (by omega)
      have k1 : q ≤ q2 := by omega
      have hlc2 : n1 ≤ c := by rw [Hn1.out]; exact hlc
      have k2 : q2 ≤ c := by omega
      have k3 : ¬ (c = q) := by omega
      have k4 : (q : Int) ≤ (q2 : Int) := by omega
      have k5 : (q2 : Int) ≤ (c : Int) := by omega
      have HC0 := Lib.hid (And.intro hW (And.intro hH hk))
      clear hI hmem hys hLy hlj hq hq2 hqq hkd hy
      go_upto_region 7 with fail
      refine wp_region_held_drew (S := (fun w' => w'.cell? ⟨b3, 3, none⟩ = some (.slice (some ⟨g, 0, none⟩) n c3) ∧ w'.cell? ⟨w.heap.size, 2, none⟩ = some (.int .i64 (P : Int)) ∧ w'.cell? ⟨w.heap.size, 3, none⟩ = some (.slice (some ⟨b, off, none⟩) n1 c))) (by kernel_rfl) (by exact ⟨HC.out.b0_4.2.2.2, HC.out.b2_4.2.2.1, HC.out.b2_4.2.2.2⟩) (fun hHeld => ?_)
      refine' wpAnyH_take (i := 0) (oi := _) (v := _) ?hi1 (by kernel_rfl) (by kernel_rfl) (by kernel_rfl) ?hq1 (Or.inl ⟨?hw1, ?hy1⟩) (by assumption) ?rest1
      case hi1 => (simp only [List.getElem?_toArray, List.getElem?_cons_succ, List.getElem?_cons_zero]; rfl)
      case hq1 => exact fun _ _ _ h => h
      case hw1 => rfl
      case hy1 => (intro wq hSw; (try dsimp only at hSw); go_simp; (try with_reducible rfl))
      (try simp only [Act.put, List.setIfInBounds_toArray, List.set_cons_zero, List.set_cons_succ])
      refine' wpAnyH_take (i := 1) (oi := _) (v := _) ?hi2 (by kernel_rfl) (by kernel_rfl) (by kernel_rfl) ?hq2 (Or.inl ⟨?hw2, ?hy2⟩) (by assumption) ?rest2
      case hi2 => (simp only [List.getElem?_toArray, List.getElem?_cons_succ, List.getElem?_cons_zero]; rfl)
      case hq2 => exact fun _ _ _ h => h
      case hw2 => rfl
      case hy2 => (intro wq hSw; (try dsimp only at hSw); go_simp; (try with_reducible rfl))
      (try simp only [Act.put, List.setIfInBounds_toArray, List.set_cons_zero, List.set_cons_succ])
      refine' wpAnyH_take (i := 2) (oi := _) (v := _) ?hi3 (by kernel_rfl) (by kernel_rfl) (by kernel_rfl) ?hq3 (Or.inl ⟨?hw3, ?hy3⟩) (by assumption) ?rest3
      case hi3 => (simp only [List.getElem?_toArray, List.getElem?_cons_succ, List.getElem?_cons_zero]; rfl)
      case hq3 => exact fun _ _ _ h => h
      case hw3 => rfl
      case hy3 => (intro wq hSw; (try dsimp only at hSw); go_simp; (try with_reducible rfl))
      (try simp only [Act.put, List.setIfInBounds_toArray, List.set_cons_zero, List.set_cons_succ])
      refine' wpAnyH_take (i := 3) (oi := _) (v := _) ?hi4 (by kernel_rfl) (by kernel_rfl) (by kernel_rfl) ?hq4 (Or.inl ⟨?hw4, ?hy4⟩) (by assumption) ?rest4
      case hi4 => (simp only [List.getElem?_toArray, List.getElem?_cons_succ, List.getElem?_cons_zero]; rfl)
      case hq4 => exact fun _ _ _ h => h
      case hw4 => rfl
      case hy4 => (intro wq hSw; (try dsimp only at hSw); go_simp; (try with_reducible rfl))
      (try simp only [Act.put, List.setIfInBounds_toArray, List.set_cons_zero, List.set_cons_succ])
      refine' wpAnyH_take (i := 4) (oi := _) (v := _) ?hi5 (by kernel_rfl) (by kernel_rfl) (by kernel_rfl) ?hq5 (Or.inl ⟨?hw5, ?hy5⟩) (by assumption) ?rest5
      case hi5 => (simp only [List.getElem?_toArray, List.getElem?_cons_succ, List.getElem?_cons_zero]; rfl)
      case hq5 => exact fun _ _ _ h => h
      case hw5 => rfl
      case hy5 => (intro wq hSw; (try dsimp only at hSw); go_simp; (try with_reducible rfl))
      (try simp only [Act.put, List.setIfInBounds_toArray, List.set_cons_zero, List.set_cons_succ])
      refine' wpAnyH_take (i := 5) (oi := _) (v := _) ?hi6 (by kernel_rfl) (by kernel_rfl) (by kernel_rfl) ?hq6 (Or.inl ⟨?hw6, ?hy6⟩) (by assumption) ?rest6
      case hi6 => (simp only [List.getElem?_toArray, List.getElem?_cons_succ, List.getElem?_cons_zero]; rfl)
      case hq6 => exact fun _ _ _ h => h
      case hw6 => rfl
      case hy6 => (intro wq hSw; (try dsimp only at hSw); go_simp; (try with_reducible rfl))
      (try simp only [Act.put, List.setIfInBounds_toArray, List.set_cons_zero, List.set_cons_succ])
      refine' wpAnyH_take (i := 6) (oi := _) (v := _) ?hi7 (by kernel_rfl) (by kernel_rfl) (by kernel_rfl) ?hq7 (Or.inl ⟨?hw7, ?hy7⟩) (by assumption) ?rest7
      case hi7 => (simp only [List.getElem?_toArray, List.getElem?_cons_succ, List.getElem?_cons_zero]; rfl)
      case hq7 => exact fun _ _ _ h => h
      case hw7 => rfl
      case hy7 => (intro wq hSw; (try dsimp only at hSw); go_simp; (try with_reducible rfl))
      (try simp only [Act.put, List.setIfInBounds_toArray, List.set_cons_zero, List.set_cons_succ])
      refine' wpAnyH_take (i := 7) (oi := _) (v := _) ?hi8 (by kernel_rfl) (by kernel_rfl) (by kernel_rfl) ?hq8 (Or.inl ⟨?hw8, ?hy8⟩) (by assumption) ?rest8
      case hi8 => (simp only [List.getElem?_toArray, List.getElem?_cons_succ, List.getElem?_cons_zero]; rfl)
      case hq8 => exact fun _ _ _ h => h
      case hw8 => rfl
      case hy8 => (intro wq hSw; (try dsimp only at hSw); go_simp; (try with_reducible rfl))
      (try simp only [Act.put, List.setIfInBounds_toArray, List.set_cons_zero, List.set_cons_succ])
      refine' wpAnyH_take (i := 8) (oi := _) (v := _) ?hi9 (by kernel_rfl) (by kernel_rfl) (by kernel_rfl) ?hq9 (Or.inl ⟨?hw9, ?hy9⟩) (by assumption) ?rest9
      case hi9 => (simp only [List.getElem?_toArray, List.getElem?_cons_succ, List.getElem?_cons_zero]; rfl)
      case hq9 => exact fun _ _ _ h => h
      case hw9 => rfl
      case hy9 => (intro wq hSw; (try dsimp only at hSw); go_simp; (try with_reducible rfl))
      (try simp only [Act.put, List.setIfInBounds_toArray, List.set_cons_zero, List.set_cons_succ])
      refine' wpAnyH_take (i := 9) (oi := _) (v := _) ?hi10 (by kernel_rfl) (by kernel_rfl) (by kernel_rfl) ?hq10 (Or.inl ⟨?hw10, ?hy10⟩) (by assumption) ?rest10
      case hi10 => (simp only [List.getElem?_toArray, List.getElem?_cons_succ, List.getElem?_cons_zero]; rfl)
      case hq10 => exact fun _ _ _ h => h
      case hw10 => rfl
      case hy10 => (intro wq hSw; (try dsimp only at hSw); go_simp; (try with_reducible rfl))
      (try simp only [Act.put, List.setIfInBounds_toArray, List.set_cons_zero, List.set_cons_succ])
      refine' wpAnyH_take (i := 10) (oi := _) (v := _) ?hi11 (by kernel_rfl) (by kernel_rfl) (by kernel_rfl) ?hq11 (Or.inl ⟨?hw11, ?hy11⟩) (by assumption) ?rest11
      case hi11 => (simp only [List.getElem?_toArray, List.getElem?_cons_succ, List.getElem?_cons_zero]; rfl)
      case hq11 => exact fun _ _ _ h => h
      case hw11 => rfl
      case hy11 => (intro wq hSw; (try dsimp only at hSw); go_simp; (try with_reducible rfl))
      (try simp only [Act.put, List.setIfInBounds_toArray, List.set_cons_zero, List.set_cons_succ])
      refine' wpAnyH_take (i := 11) (oi := _) (v := _) ?hi12 (by kernel_rfl) (by kernel_rfl) (by kernel_rfl) ?hq12 (Or.inl ⟨?hw12, ?hy12⟩) (by assumption) ?rest12
      case hi12 => (simp only [List.getElem?_toArray, List.getElem?_cons_succ, List.getElem?_cons_zero]; rfl)
      case hq12 => exact fun _ _ _ h => h
      case hw12 => rfl
      case hy12 => (intro wq hSw; (try dsimp only at hSw); go_simp; (try with_reducible rfl))
      (try simp only [Act.put, List.setIfInBounds_toArray, List.set_cons_zero, List.set_cons_succ])
      refine' wpAnyH_take (i := 12) (oi := _) (v := _) ?hi13 (by kernel_rfl) (by kernel_rfl) (by kernel_rfl) ?hq13 (Or.inl ⟨?hw13, ?hy13⟩) (by assumption) ?rest13
      case hi13 => (simp only [List.getElem?_toArray, List.getElem?_cons_succ, List.getElem?_cons_zero]; rfl)
      case hq13 => exact fun _ _ _ h => h
      case hw13 => rfl
      case hy13 => (intro wq hSw; (try dsimp only at hSw); go_simp; (try with_reducible rfl))
      (try simp only [Act.put, List.setIfInBounds_toArray, List.set_cons_zero, List.set_cons_succ])
      refine' wpAnyH_take (i := 13) (oi := _) (v := _) ?hi14 (by kernel_rfl) (by kernel_rfl) (by kernel_rfl) ?hq14 (Or.inl ⟨?hw14, ?hy14⟩) (by assumption) ?rest14
      case hi14 => (simp only [List.getElem?_toArray, List.getElem?_cons_succ, List.getElem?_cons_zero]; rfl)
      case hq14 => exact fun _ _ _ h => h
      case hw14 => rfl
      case hy14 => (intro wq hSw; (try dsimp only at hSw); go_simp; (try with_reducible rfl))
      (try simp only [Act.put, List.setIfInBounds_toArray, List.set_cons_zero, List.set_cons_succ])
      refine' wpAnyH_take (i := 14) (oi := _) (v := _) ?hi15 (by kernel_rfl) (by kernel_rfl) (by kernel_rfl) ?hq15 (Or.inl ⟨?hw15, ?hy15⟩) (by assumption) ?rest15
      case hi15 => (simp only [List.getElem?_toArray, List.getElem?_cons_succ, List.getElem?_cons_zero]; rfl)
      case hq15 => exact fun _ _ _ h => h
      case hw15 => rfl
      case hy15 => (intro wq hSw; (try dsimp only at hSw); go_simp; (try with_reducible rfl))
      (try simp only [Act.put, List.setIfInBounds_toArray, List.set_cons_zero, List.set_cons_succ])
      refine' wpAnyH_take (i := 15) (oi := _) (v := _) ?hi16 (by kernel_rfl) (by kernel_rfl) (by kernel_rfl) ?hq16 (Or.inl ⟨?hw16, ?hy16⟩) (by assumption) ?rest16
      case hi16 => (simp only [List.getElem?_toArray, List.getElem?_cons_succ, List.getElem?_cons_zero]; rfl)
      case hq16 => exact fun _ _ _ h => h
      case hw16 => rfl
      case hy16 => (intro wq hSw; (try dsimp only at hSw); go_simp; (try with_reducible rfl))
      (try simp only [Act.put, List.setIfInBounds_toArray, List.set_cons_zero, List.set_cons_succ])
      refine wpAnyH_ready (rs := [16]) (by kernel_rfl) (by simp) ?_
      refine' AllReadyH.cons (o := _) ?hi17 (fun K hK => ?rest17) AllReadyH.nil
      case hi17 => (simp only [List.getElem?_toArray, List.getElem?_cons_succ, List.getElem?_cons_zero]; rfl)
      go_simp
      go_at_call 68
      refine HNE.out.mono ?_
      rintro e w5 ⟨rfl, m5, rfl⟩
      have HD := Lib.hid (HC.out.drewN m5)
      clear HC
      have HC := HD
      clear HD
      have hcw := HC.out.o0.cell Hlj.out.symm (j := k) (by rw [Hlj.out]; exact hlt)
      have hfw := HC.out.o0.frozen Hlj.out.symm k
      have HBq : Hid (Below u1.heap.size u1 (wr.drew.drewN m5)) := Lib.hid ⟨HBw.out.os, HBw.out.tape, HBw.out.output, HBw.out.size, HBw.out.block⟩
      have HN : Hid (GS w ((wr.drew.drewN m5).setCell ⟨g, k, none⟩ (.int .i64 y)) [ri lo3 hi3 (.slice (some ⟨g, 0, none⟩) n c3) (L.take (k + 1) ++ zeros (n - (k + 1)))] [⟨b3, 25, #[.int .i64 (W : Int), .int .i64 (H : Int), .int .i64 1, .slice (some ⟨g, 0, none⟩) n c3]⟩, ⟨w.heap.size + 1, 25, #[.int .i64 0, .int .i64 0, .int .i64 0, .slice none 0 0]⟩, ⟨w.heap.size, 25, #[.int .i64 (W : Int), .int .i64 (H : Int), .int .i64 (P : Int), .slice (some ⟨b, off, none⟩) n1 c]⟩]) := Lib.hid (by have hput := HC.out.o0.put Hlj.out.symm k y; have h := HC.out.mark0 hput.1 (by simp) hput.2; rw [HT.out] at h; exact h)
      have HRel : Hid (GS w ((wr.drew.drewN m5).setCell ⟨g, k, none⟩ (.int .i64 y)) [ri lo3 hi3 (.slice (some ⟨g, 0, none⟩) n c3) (L.take (k + 1) ++ zeros (n - (k + 1)))] [⟨b3, 25, #[.int .i64 (W : Int), .int .i64 (H : Int), .int .i64 1, .slice (some ⟨g, 0, none⟩) n c3]⟩, ⟨w.heap.size + 1, 25, #[.int .i64 0, .int .i64 0, .int .i64 0, .slice none 0 0]⟩, ⟨w.heap.size, 25, #[.int .i64 (W : Int), .int .i64 (H : Int), .int .i64 (P : Int), .slice (some ⟨b, off, none⟩) n1 c]⟩] ∧ Below u1.heap.size u1 ((wr.drew.drewN m5).setCell ⟨g, k, none⟩ (.int .i64 y))) := Lib.hid ⟨HN.out, HBq.out.setCell (p := ⟨g, k, none⟩) hgu (.int .i64 y)⟩
      generalize wr.drew.drewN m5 = w5 at *
      generalize (List.getD (L.take k ++ zeros (n - k)) k 0) = yo at *
      go_wp2_with fail
      refine hK.out _ _ (by (try dsimp only); exact ⟨HC.out.b0_4.2.2.2, HC.out.b2_4.2.2.1, HC.out.b2_4.2.2.2⟩) (fun hHeld => ?_)
      clear hK K
      (try simp only [Act.put, List.setIfInBounds_toArray, List.set_cons_zero, List.set_cons_succ])
      refine' wpAnyH_take (i := 17) (oi := _) (v := _) ?hi18 (by kernel_rfl) (by kernel_rfl) (by kernel_rfl) ?hq18 (Or.inl ⟨?hw18, ?hy18⟩) (by assumption) ?rest18
      case hi18 => (simp only [List.getElem?_toArray, List.getElem?_cons_succ, List.getElem?_cons_zero]; rfl)
      case hq18 => exact fun _ _ _ h => h
      case hw18 => rfl
      case hy18 => (intro wq hSw; (try dsimp only at hSw); go_simp; (try with_reducible rfl))
      (try simp only [Act.put, List.setIfInBounds_toArray, List.set_cons_zero, List.set_cons_succ])
      refine wpAnyH_ready (rs := [18]) (by kernel_rfl) (by simp) ?_
      refine' AllReadyH.cons (o := _) ?hi19 (fun K hK => ?rest19) AllReadyH.nil
      case hi19 => (simp only [List.getElem?_toArray, List.getElem?_cons_succ, List.getElem?_cons_zero]; rfl)
      go_simp
      refine hK.out _ _ (by (try dsimp only); exact ⟨HN.out.b0_4.2.2.2, HN.out.b2_4.2.2.1, HN.out.b2_4.2.2.2⟩) (fun hHeld => ?_)
      clear hK K
      (try simp only [Act.put, List.setIfInBounds_toArray, List.set_cons_zero, List.set_cons_succ])
      refine wpAnyH_done (by kernel_rfl) ?_ _
      go_wp2
      go_roundw
      case rel => exact ⟨k + 1, by omega, by go_num, HRel⟩
      case measure => simp [intOf]; omega
    · have hk' : k = n := by omega
      have hG := hI.out.1
      rw [hk', Nat.sub_self, ← HLL.out, List.take_length, show zeros 0 = [] from rfl, List.append_nil, HLL.out] at hG
      obtain ⟨r0, r1, r2, r3⟩ := hG.b1_4
      have f0 := hG.f1 0
      have f1 := hG.f1 1
      have f2 := hG.f1 2
      have f3 := hG.f1 3
      have HE := Lib.hid (hG.e1_4 (.int .i64 (W : Int)) (.int .i64 (H : Int)) (.int .i64 1) (.slice (some ⟨g, 0, none⟩) n c3))
      have HLe : Hid (L = ixL W H P xs xss) := HL0
      clear hI hG
      go_wp2
      exact bodyPost_ret (v := .tuple #[.agg #[.int .i64 (W : Int), .int .i64 (H : Int), .int .i64 1, .slice (some ⟨g, 0, none⟩) n c3], .bool true]) (by simp [results, Try.results24, go_sem, r0, r1, r2, r3]) rfl (ColR.yes Hv.out (by have h := HE.out.2 _ (List.Mem.head _); rw [show ixL (W : Int).toNat (H : Int).toNat (P : Int).toNat xs xss = L from HLe.out.symm]; exact h) HE.out.1)
end Go.Proofs.Ytkjebidkkopalaa
