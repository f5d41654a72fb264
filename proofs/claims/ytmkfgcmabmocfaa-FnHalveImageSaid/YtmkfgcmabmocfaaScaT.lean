/- Contract of ScaleArea in the model. -/
import Derived.Test.YtmkfgcmabmocfaaScaS
import Derived.Test.YtmkfgcmabmocfaaScaQ
namespace Go.Proofs.Ytmkfgcmabmocfaa
open Go.RowKit Go.Shelf
set_option linter.unusedSimpArgs false
set_option linter.unusedVariables false
set_option maxRecDepth 20000

/-- A row that is filled from its beginning on. -/
def stk (L : List Int) (n q : Nat) : List Int := L.take q ++ zeros (n - q)
theorem stk_len' (L : List Int) (n q : Nat) (h : L.length = n) (hq : q ≤ n) : (stk L n q).length = n := by
  unfold stk zeros
  rw [List.length_append, List.length_take, List.length_replicate]
  omega
theorem stk_zero (L : List Int) (n m : Nat) (h : n = m) : stk L n 0 = zeros m := by unfold stk; rw [h]; simp
theorem stk_set (L : List Int) (n q : Nat) (h : L.length = n) (hq : q < n) : (stk L n q).set q (L.getD q 0) = stk L n (q + 1) := by
  subst h; exact take_set_next L q hq
theorem stk_all (L : List Int) (n : Nat) (h : L.length = n) : stk L n n = L := by
  unfold stk zeros; rw [Nat.sub_self, ← h, List.take_of_length_le (Nat.le_refl _)]; simp
set_option maxHeartbeats 16000000 in
theorem s_ScaleArea (W H P a b : Int) (A : Option Addr) (c : Nat) (xs : List Int) (w : World) (hx : Rds .i64 w w.heap.size A xs) (hl : xs.length ≤ 2000000) (hlc : xs.length ≤ c) :
    Calls Try.prog 38 #[.agg #[.int .i64 W, .int .i64 H, .int .i64 P, .slice A xs.length c], .int .i64 a, .int .i64 b] w (MadeIf (scOk W H P xs a b) a b P (areL W.toNat H.toNat P.toNat xs a.toNat b.toNat) w) := by
  have HX := Lib.hid hx
  clear hx
  have S0 : GS w ((w.alloc (.cells #[.int .i64 W, .int .i64 H, .int .i64 P, .slice A xs.length c] 35)).alloc (.cells #[.int .i64 0, .int .i64 0, .int .i64 0, .slice none 0 0] 35)) [] [⟨(w.heap.size + 1), 35, #[.int .i64 0, .int .i64 0, .int .i64 0, .slice none 0 0]⟩, ⟨w.heap.size, 35, #[.int .i64 W, .int .i64 H, .int .i64 P, .slice A xs.length c]⟩] := GS.box' (GS.box' (GS.start w) 35 #[.int .i64 W, .int .i64 H, .int .i64 P, .slice A xs.length c] w.heap.size (by simp)) 35 #[.int .i64 0, .int .i64 0, .int .i64 0, .slice none 0 0] (w.heap.size + 1) (by simp)
  have HV : Hid (scOk W H P xs a b = (vim W H P xs && vsh a b P)) := Lib.hid rfl
  go_enter Try.func38, Try.ntmps38
  go_wp2_with fail
  generalize (w.alloc (.cells #[.int .i64 W, .int .i64 H, .int .i64 P, .slice A xs.length c] 35)).alloc (.cells #[.int .i64 0, .int .i64 0, .int .i64 0, .slice none 0 0] 35) = u0 at *
  refine (sVimg_any W H P A c xs u0 (S0.arg HX.out) hl).mono ?_
  rintro e u1 ⟨rfl, hB⟩
  have S1 := S0.call hB
  clear hB S0
  cases hv : vim W H P xs
  · have Hv : Hid (scOk W H P xs a b = false) := Lib.hid (by rw [HV.out, hv]; rfl)
    clear hv HV
    obtain ⟨r0, r1, r2, r3⟩ := S1.b0_4
    have f0 := S1.f0 0
    have f1 := S1.f0 1
    have f2 := S1.f0 2
    have f3 := S1.f0 3
    have HE := Lib.hid (S1.e0_4 (.int .i64 0) (.int .i64 0) (.int .i64 0) (.slice none 0 0))
    clear S1
    go_wp2
    exact bodyPost_ret (v := .agg #[.int .i64 0, .int .i64 0, .int .i64 0, .slice none 0 0]) (by simp [results, Try.results38, go_sem, r0, r1, r2, r3]) rfl (MadeIf.no Hv.out ⟨_, rfl, World.ownsRow_nil _ _ _ _, HE.out.1⟩)
  · have Hv1 := Lib.hid hv
    obtain ⟨d0, d1, d2, d3⟩ := S1.b1_4
    go_wp2_with fail
    refine (sShape_any a b P u1).mono ?_
    rintro e u2 ⟨rfl, rfl⟩
    clear d0 d1 d2 d3
    cases hv2 : vsh a b P
    · have Hv : Hid (scOk W H P xs a b = false) := Lib.hid (by rw [HV.out, hv, hv2]; rfl)
      clear hv hv2 HV Hv1
      obtain ⟨r0, r1, r2, r3⟩ := S1.b0_4
      have f0 := S1.f0 0
      have f1 := S1.f0 1
      have f2 := S1.f0 2
      have f3 := S1.f0 3
      have HE := Lib.hid (S1.e0_4 (.int .i64 0) (.int .i64 0) (.int .i64 0) (.slice none 0 0))
      clear S1
      go_wp2
      exact bodyPost_ret (v := .agg #[.int .i64 0, .int .i64 0, .int .i64 0, .slice none 0 0]) (by simp [results, Try.results38, go_sem, r0, r1, r2, r3]) rfl (MadeIf.no Hv.out ⟨_, rfl, World.ownsRow_nil _ _ _ _, HE.out.1⟩)
    · have Hv : Hid (scOk W H P xs a b = true) := Lib.hid (by rw [HV.out, hv, hv2]; rfl)
      obtain ⟨W, H, P, rfl, rfl, rfl, hW1, hW, hH1, hH, hP1, hP, hln, hby⟩ := vim_nat hv
      obtain ⟨a, b, pz, rfl, rfl, hpz, ⟨ha1, ha⟩, ⟨hb1, hb⟩, hpz2⟩ := vsh_nat hv2
      have HLn := Lib.hid hln
      have HFp : Hid (∀ p, p < P → ∀ x y, x < W → y < H → 0 ≤ px W P xs x y p ∧ px W P xs x y p ≤ 255) := Lib.hid (fun p hp x y hx hy => hby _ (by
        have h1 := row_lt hx hy
        have := Nat.mul_le_mul_right P (show y * W + x + 1 ≤ W * H from h1)
        rw [Nat.add_mul, Nat.one_mul] at this
        show pix W P x y p < xs.length
        unfold pix; rw [hln]; omega))
      clear hpz2 hpz pz hv hv2 HV Hv1 hby hln
      obtain ⟨d0, d1, d2, d3⟩ := S1.b1_4
      go_wp2_with fail
      refine (newImage_any a b P ha hb hP u1).mono ?_
      rintro e u3 ⟨v3, rfl, hO3, hB3⟩
      have hzl : (zeros (a * b * P)).length = a * b * P := by simp [zeros]
      obtain ⟨g, c2, rfl, hg1, hg2⟩ := hO3.form (by rw [hzl]; exact Nat.mul_pos (Nat.mul_pos (by omega) (by omega)) hP1)
      have S3 := S1.add hO3 hB3
      obtain ⟨n, hn⟩ : ∃ n, n = (zeros (a * b * P)).length := ⟨_, rfl⟩
      obtain ⟨lo3, hlo3⟩ : ∃ lo3, lo3 = u1.heap.size := ⟨_, rfl⟩
      obtain ⟨hi3, hhi3⟩ : ∃ hi3, hi3 = u3.heap.size := ⟨_, rfl⟩
      obtain ⟨b3, hb3⟩ : ∃ b3, b3 = u3.heap.size := ⟨_, rfl⟩
      rw [← hn, ← hlo3, ← hhi3] at S3
      obtain ⟨L, hL⟩ : ∃ L, L = img a b P (fun x y p => arN W H a b (fun x y => px W P xs x y p) x y) := ⟨_, rfl⟩
      have HL := Lib.hid hL
      have HLn2 : Hid (L.length = n) := Lib.hid (by rw [hL, img_len, hn, hzl])
      have HNp : Hid (n = a * b * P) := Lib.hid (by rw [hn, hzl])
      have hab : a * b ≤ 256 := by have := Nat.mul_le_mul ha hb; omega
      have hn1024 : n ≤ 1024 := by rw [hn, hzl]; have := Nat.mul_le_mul hab hP; omega
      obtain ⟨N, hN⟩ : ∃ N, N = W * H := ⟨_, rfl⟩
      have hN1 : 1 ≤ N := by rw [hN]; exact Nat.mul_pos hW1 hH1
      have hN2 : N ≤ 256 := by rw [hN]; have := Nat.mul_le_mul hW hH; omega
      have eN : (W : Int) * (H : Int) = (N : Int) := by rw [hN]; simp
      have eNw := wr_nat (n := N) (by omega)
      have HNN := Lib.hid hN
      have HI0 : Hid (GS w (u3.alloc (.cells #[.int .i64 (a : Int), .int .i64 (b : Int), .int .i64 (P : Int), .slice (some ⟨g, 0, none⟩) n c2] 35)) [ri lo3 hi3 (.slice (some ⟨g, 0, none⟩) n c2) (stk L n 0)] [⟨b3, 35, #[.int .i64 (a : Int), .int .i64 (b : Int), .int .i64 (P : Int), .slice (some ⟨g, 0, none⟩) n c2]⟩, ⟨w.heap.size + 1, 35, #[.int .i64 0, .int .i64 0, .int .i64 0, .slice none 0 0]⟩, ⟨w.heap.size, 35, #[.int .i64 (W : Int), .int .i64 (H : Int), .int .i64 (P : Int), .slice A xs.length c]⟩]) :=
        Lib.hid (by rw [show stk L n 0 = zeros (a * b * P) from stk_zero L n (a * b * P) HNp.out]; exact GS.box' S3 _ _ b3 hb3)
      rw [← hn]
      have HB3 := Lib.hid hb3
      clear hO3 hB3 S1 S3 hzl hn hlo3 hhi3 hb3 hg1 hg2 hL hN
      go_upto_region 4 with fail
      (try rw [← HB3.out])
      generalize hu4 : u3.alloc (.cells #[.int .i64 (a : Int), .int .i64 (b : Int), .int .i64 (P : Int), .slice (some ⟨g, 0, none⟩) n c2] 35) = u4 at *
      clear hu4 d0 d1 d2 d3
      obtain ⟨d0, d1, d2, d3⟩ := HI0.out.b2_4
      go_wp2
      (try rw [← HB3.out])
      go_loopw [9] (fun iy wr => ∃ (y q : Nat), y ≤ b ∧ iy = .int .i64 y ∧ Hid (q = y * a * P) ∧ Hid (GS w wr [ri lo3 hi3 (.slice (some ⟨g, 0, none⟩) n c2) (stk L n q)] [⟨b3, 35, #[.int .i64 (a : Int), .int .i64 (b : Int), .int .i64 (P : Int), .slice (some ⟨g, 0, none⟩) n c2]⟩, ⟨w.heap.size + 1, 35, #[.int .i64 0, .int .i64 0, .int .i64 0, .slice none 0 0]⟩, ⟨w.heap.size, 35, #[.int .i64 (W : Int), .int .i64 (H : Int), .int .i64 (P : Int), .slice A xs.length c]⟩])) (fun iy _ => b - (intOf iy).toNat)
      case atStart => exact ⟨0, 0, Nat.zero_le _, rfl, Lib.hid (by simp), HI0⟩
      case round =>
        clear HI0 d0 d1 d2 d3
        obtain ⟨y, q, hy, rfl, hq, hI⟩ := hrel
        by_cases hylt : y < b
        · go_wp2
          go_loopw [10] (fun ix wr => ∃ (x q : Nat), x ≤ a ∧ ix = .int .i64 x ∧ Hid (q = (y * a + x) * P) ∧ Hid (GS w wr [ri lo3 hi3 (.slice (some ⟨g, 0, none⟩) n c2) (stk L n q)] [⟨b3, 35, #[.int .i64 (a : Int), .int .i64 (b : Int), .int .i64 (P : Int), .slice (some ⟨g, 0, none⟩) n c2]⟩, ⟨w.heap.size + 1, 35, #[.int .i64 0, .int .i64 0, .int .i64 0, .slice none 0 0]⟩, ⟨w.heap.size, 35, #[.int .i64 (W : Int), .int .i64 (H : Int), .int .i64 (P : Int), .slice A xs.length c]⟩])) (fun ix _ => a - (intOf ix).toNat)
          case atStart => exact ⟨0, q, Nat.zero_le _, rfl, Lib.hid (by rw [hq.out]; simp), hI⟩
          case round =>
            clear hI hq q
            obtain ⟨x, q, hx, rfl, hq, hI⟩ := hrel
            by_cases hxlt : x < a
            · obtain ⟨d0, d1, d2, d3⟩ := hI.out.b2_4
              go_wp2
              go_loopw [11] (fun ip wr => ∃ (p q : Nat), p ≤ P ∧ ip = .int .i64 p ∧ Hid (q = (y * a + x) * P + p) ∧ Hid (GS w wr [ri lo3 hi3 (.slice (some ⟨g, 0, none⟩) n c2) (stk L n q)] [⟨b3, 35, #[.int .i64 (a : Int), .int .i64 (b : Int), .int .i64 (P : Int), .slice (some ⟨g, 0, none⟩) n c2]⟩, ⟨w.heap.size + 1, 35, #[.int .i64 0, .int .i64 0, .int .i64 0, .slice none 0 0]⟩, ⟨w.heap.size, 35, #[.int .i64 (W : Int), .int .i64 (H : Int), .int .i64 (P : Int), .slice A xs.length c]⟩])) (fun ip _ => P - (intOf ip).toNat)
              case atStart => exact ⟨0, q, Nat.zero_le _, rfl, Lib.hid (by rw [hq.out]; simp), hI⟩
              case round =>
                clear hI hq q d0 d1 d2 d3
                obtain ⟨p, q, hp, rfl, hq, hI⟩ := hrel
                obtain ⟨d0, d1, d2, d3⟩ := hI.out.b2_4
                by_cases hplt : p < P
                · have hlt := row_lt (W := a) (H := b) hxlt hylt
                  obtain ⟨j1, g1⟩ : ∃ j, j = y * a := ⟨_, rfl⟩
                  obtain ⟨j2, g2⟩ : ∃ j, j = j1 + x := ⟨_, rfl⟩
                  obtain ⟨j3, g3⟩ : ∃ j, j = j2 * P := ⟨_, rfl⟩
                  have g4 : q = j3 + p := by rw [hq.out, g3, g2, g1]
                  have hj2 : j2 < a * b := by rw [g2, g1]; exact hlt
                  have hqn : q < n := by
                    rw [HNp.out, g4, g3]
                    have := Nat.mul_le_mul_right P (show j2 + 1 ≤ a * b from hj2)
                    rw [Nat.add_mul, Nat.one_mul] at this
                    omega
                  have i1 : (y : Int) * (a : Int) = (j1 : Int) := by rw [g1]; simp
                  have i2 : (j1 : Int) + (x : Int) = (j2 : Int) := by rw [g2]; simp
                  have i3 : (j2 : Int) * (P : Int) = (j3 : Int) := by rw [g3]; simp
                  have i4 : (j3 : Int) + (p : Int) = (q : Int) := by rw [g4]; simp
                  have w1 := wr_nat (n := j1) (by omega)
                  have w2 := wr_nat (n := j2) (by omega)
                  have w3 := wr_nat (n := j3) (by omega)
                  have w4 := wr_nat (n := q) (by omega)
                  have hqI : (q : Int) < (n : Int) := by omega
                  obtain ⟨sv, hsv⟩ : ∃ s, s = saF W H a b (fun x y => px W P xs x y p) x y := ⟨_, rfl⟩
                  have HSv := Lib.hid hsv
                  have hsb : 0 ≤ sv ∧ sv ≤ 16711680 := by rw [hsv]; exact saF_bd hW hH ha hb (HFp.out p hplt)
                  obtain ⟨sb0, sb1⟩ := hsb
                  obtain ⟨vq, hvq⟩ : ∃ v, v = (2 * sv + (N : Int)) / (2 * (N : Int)) := ⟨_, rfl⟩
                  have hvb := div_bd (a := 2 * sv + (N : Int)) (b := 2 * (N : Int)) (by omega) (by omega) (by omega)
                  rw [← hvq] at hvb
                  obtain ⟨vb0, vb1⟩ := hvb
                  have HVq : Hid (L.getD q 0 = vq) := Lib.hid (by
                    rw [HL.out, g4, g3, img_at _ hj2 hplt, g2, g1, row_mod hxlt, row_div hxlt, hvq, hsv, HNN.out]; rfl)
                  have HSet : Hid ((stk L n q).set q vq = stk L n (q + 1)) := Lib.hid (by rw [← HVq.out]; exact stk_set L n q HLn2.out hqn)
                  have v1 : IntKind.i64.wrap (2 * sv) = 2 * sv := IntWalk.i64_in _ (by omega)
                  have v2 : IntKind.i64.wrap (2 * sv + (N : Int)) = 2 * sv + (N : Int) := IntWalk.i64_in _ (by omega)
                  have v3 : IntKind.i64.wrap (2 * (N : Int)) = 2 * (N : Int) := IntWalk.i64_in _ (by omega)
                  have v4 : (2 * sv + (N : Int)).tdiv (2 * (N : Int)) = vq := by rw [Int.tdiv_eq_ediv_of_nonneg (by omega)]; exact hvq.symm
                  have v5 : IntKind.i64.wrap vq = vq := IntWalk.i64_in _ (by omega)
                  have hne : ¬ (2 * (N : Int) = 0) := by omega
                  have hne2 : ¬ (N = 0) := by omega
                  have HC := Lib.hid hI.out.drew
                  have Hg4 := Lib.hid (show q + 1 = (y * a + x) * P + (p + 1) by rw [hq.out]; omega)
                  clear hI hq g1 g2 g3 g4 hj2 hsv hvq hlt
                  go_upto_region 14 with fail
                  refine wp_region_held_drew (S := (fun w' => w'.cell? ⟨w.heap.size, 0, none⟩ = some (.int .i64 (W : Int)) ∧ w'.cell? ⟨w.heap.size, 1, none⟩ = some (.int .i64 (H : Int)) ∧ w'.cell? ⟨w.heap.size, 2, none⟩ = some (.int .i64 (P : Int)) ∧ w'.cell? ⟨w.heap.size, 3, none⟩ = some (.slice A xs.length c) ∧ w'.cell? ⟨b3, 0, none⟩ = some (.int .i64 (a : Int)) ∧ w'.cell? ⟨b3, 1, none⟩ = some (.int .i64 (b : Int)) ∧ w'.cell? ⟨b3, 2, none⟩ = some (.int .i64 (P : Int)) ∧ w'.cell? ⟨b3, 3, none⟩ = some (.slice (some ⟨g, 0, none⟩) n c2))) (by kernel_rfl) (by exact ⟨HC.out.b2_4.1, HC.out.b2_4.2.1, HC.out.b2_4.2.2.1, HC.out.b2_4.2.2.2, HC.out.b0_4.1, HC.out.b0_4.2.1, HC.out.b0_4.2.2.1, HC.out.b0_4.2.2.2⟩) (fun hHeld => ?_)
                  refine' wpAnyH_take (i := 0) (oi := _) (v := _) ?hi1 (by kernel_rfl) (by kernel_rfl) (by kernel_rfl) ?hq1 (Or.inl ⟨?hw1, ?hy1⟩) (by assumption) ?rest1
                  case hi1 => (simp only [List.getElem?_toArray, List.getElem?_cons_succ, List.getElem?_cons_zero]; rfl)
                  case hq1 => exact fun _ _ _ h => h
                  case hw1 => rfl
                  case hy1 => (intro wq hSw; (try dsimp only at hSw); go_simp; (try with_reducible rfl))
                  (try simp only [Act.put, List.setIfInBounds_toArray, List.set_cons_zero, List.set_cons_succ])
                  refine' wpAnyH_take (i := 1) (oi := _) (v := _) ?hi2 (by kernel_rfl) (by kernel_rfl) (by kernel_rfl) ?hq2 (Or.inl ⟨?hw2, ?hy2⟩) (by assumption) ?rest2
                  case hi2 => (simp only [List.getElem?_toArray, List.getElem?_cons_succ, List.getElem?_cons_zero]; rfl)
                  case hq2 => exact fun _ _ _ h => h
                  case hw2 => rfl
                  case hy2 => (intro wq hSw; (try dsimp only at hSw); go_simp; (try with_reducible rfl))
                  (try simp only [Act.put, List.setIfInBounds_toArray, List.set_cons_zero, List.set_cons_succ])
                  refine' wpAnyH_take (i := 2) (oi := _) (v := _) ?hi3 (by kernel_rfl) (by kernel_rfl) (by kernel_rfl) ?hq3 (Or.inl ⟨?hw3, ?hy3⟩) (by assumption) ?rest3
                  case hi3 => (simp only [List.getElem?_toArray, List.getElem?_cons_succ, List.getElem?_cons_zero]; rfl)
                  case hq3 => exact fun _ _ _ h => h
                  case hw3 => rfl
                  case hy3 => (intro wq hSw; (try dsimp only at hSw); go_simp; (try with_reducible rfl))
                  (try simp only [Act.put, List.setIfInBounds_toArray, List.set_cons_zero, List.set_cons_succ])
                  refine' wpAnyH_take (i := 3) (oi := _) (v := _) ?hi4 (by kernel_rfl) (by kernel_rfl) (by kernel_rfl) ?hq4 (Or.inl ⟨?hw4, ?hy4⟩) (by assumption) ?rest4
                  case hi4 => (simp only [List.getElem?_toArray, List.getElem?_cons_succ, List.getElem?_cons_zero]; rfl)
                  case hq4 => exact fun _ _ _ h => h
                  case hw4 => rfl
                  case hy4 => (intro wq hSw; (try dsimp only at hSw); go_simp; (try with_reducible rfl))
                  (try simp only [Act.put, List.setIfInBounds_toArray, List.set_cons_zero, List.set_cons_succ])
                  refine' wpAnyH_take (i := 4) (oi := _) (v := _) ?hi5 (by kernel_rfl) (by kernel_rfl) (by kernel_rfl) ?hq5 (Or.inl ⟨?hw5, ?hy5⟩) (by assumption) ?rest5
                  case hi5 => (simp only [List.getElem?_toArray, List.getElem?_cons_succ, List.getElem?_cons_zero]; rfl)
                  case hq5 => exact fun _ _ _ h => h
                  case hw5 => rfl
                  case hy5 => (intro wq hSw; (try dsimp only at hSw); go_simp; (try with_reducible rfl))
                  (try simp only [Act.put, List.setIfInBounds_toArray, List.set_cons_zero, List.set_cons_succ])
                  refine' wpAnyH_take (i := 5) (oi := _) (v := _) ?hi6 (by kernel_rfl) (by kernel_rfl) (by kernel_rfl) ?hq6 (Or.inl ⟨?hw6, ?hy6⟩) (by assumption) ?rest6
                  case hi6 => (simp only [List.getElem?_toArray, List.getElem?_cons_succ, List.getElem?_cons_zero]; rfl)
                  case hq6 => exact fun _ _ _ h => h
                  case hw6 => rfl
                  case hy6 => (intro wq hSw; (try dsimp only at hSw); go_simp; (try with_reducible rfl))
                  (try simp only [Act.put, List.setIfInBounds_toArray, List.set_cons_zero, List.set_cons_succ])
                  refine' wpAnyH_take (i := 6) (oi := _) (v := _) ?hi7 (by kernel_rfl) (by kernel_rfl) (by kernel_rfl) ?hq7 (Or.inl ⟨?hw7, ?hy7⟩) (by assumption) ?rest7
                  case hi7 => (simp only [List.getElem?_toArray, List.getElem?_cons_succ, List.getElem?_cons_zero]; rfl)
                  case hq7 => exact fun _ _ _ h => h
                  case hw7 => rfl
                  case hy7 => (intro wq hSw; (try dsimp only at hSw); go_simp; (try with_reducible rfl))
                  (try simp only [Act.put, List.setIfInBounds_toArray, List.set_cons_zero, List.set_cons_succ])
                  refine' wpAnyH_take (i := 7) (oi := _) (v := _) ?hi8 (by kernel_rfl) (by kernel_rfl) (by kernel_rfl) ?hq8 (Or.inl ⟨?hw8, ?hy8⟩) (by assumption) ?rest8
                  case hi8 => (simp only [List.getElem?_toArray, List.getElem?_cons_succ, List.getElem?_cons_zero]; rfl)
                  case hq8 => exact fun _ _ _ h => h
                  case hw8 => rfl
                  case hy8 => (intro wq hSw; (try dsimp only at hSw); go_simp; (try with_reducible rfl))
                  (try simp only [Act.put, List.setIfInBounds_toArray, List.set_cons_zero, List.set_cons_succ])
                  refine' wpAnyH_take (i := 8) (oi := _) (v := _) ?hi9 (by kernel_rfl) (by kernel_rfl) (by kernel_rfl) ?hq9 (Or.inl ⟨?hw9, ?hy9⟩) (by assumption) ?rest9
                  case hi9 => (simp only [List.getElem?_toArray, List.getElem?_cons_succ, List.getElem?_cons_zero]; rfl)
                  case hq9 => exact fun _ _ _ h => h
                  case hw9 => rfl
                  case hy9 => (intro wq hSw; (try dsimp only at hSw); go_simp; (try with_reducible rfl))
                  (try simp only [Act.put, List.setIfInBounds_toArray, List.set_cons_zero, List.set_cons_succ])
                  refine' wpAnyH_take (i := 9) (oi := _) (v := _) ?hi10 (by kernel_rfl) (by kernel_rfl) (by kernel_rfl) ?hq10 (Or.inl ⟨?hw10, ?hy10⟩) (by assumption) ?rest10
                  case hi10 => (simp only [List.getElem?_toArray, List.getElem?_cons_succ, List.getElem?_cons_zero]; rfl)
                  case hq10 => exact fun _ _ _ h => h
                  case hw10 => rfl
                  case hy10 => (intro wq hSw; (try dsimp only at hSw); go_simp; (try with_reducible rfl))
                  (try simp only [Act.put, List.setIfInBounds_toArray, List.set_cons_zero, List.set_cons_succ])
                  refine' wpAnyH_take (i := 10) (oi := _) (v := _) ?hi11 (by kernel_rfl) (by kernel_rfl) (by kernel_rfl) ?hq11 (Or.inl ⟨?hw11, ?hy11⟩) (by assumption) ?rest11
                  case hi11 => (simp only [List.getElem?_toArray, List.getElem?_cons_succ, List.getElem?_cons_zero]; rfl)
                  case hq11 => exact fun _ _ _ h => h
                  case hw11 => rfl
                  case hy11 => (intro wq hSw; (try dsimp only at hSw); go_simp; (try with_reducible rfl))
                  (try simp only [Act.put, List.setIfInBounds_toArray, List.set_cons_zero, List.set_cons_succ])
                  refine' wpAnyH_take (i := 11) (oi := _) (v := _) ?hi12 (by kernel_rfl) (by kernel_rfl) (by kernel_rfl) ?hq12 (Or.inl ⟨?hw12, ?hy12⟩) (by assumption) ?rest12
                  case hi12 => (simp only [List.getElem?_toArray, List.getElem?_cons_succ, List.getElem?_cons_zero]; rfl)
                  case hq12 => exact fun _ _ _ h => h
                  case hw12 => rfl
                  case hy12 => (intro wq hSw; (try dsimp only at hSw); go_simp; (try with_reducible rfl))
                  (try simp only [Act.put, List.setIfInBounds_toArray, List.set_cons_zero, List.set_cons_succ])
                  refine' wpAnyH_take (i := 12) (oi := _) (v := _) ?hi13 (by kernel_rfl) (by kernel_rfl) (by kernel_rfl) ?hq13 (Or.inl ⟨?hw13, ?hy13⟩) (by assumption) ?rest13
                  case hi13 => (simp only [List.getElem?_toArray, List.getElem?_cons_succ, List.getElem?_cons_zero]; rfl)
                  case hq13 => exact fun _ _ _ h => h
                  case hw13 => rfl
                  case hy13 => (intro wq hSw; (try dsimp only at hSw); go_simp; (try with_reducible rfl))
                  (try simp only [Act.put, List.setIfInBounds_toArray, List.set_cons_zero, List.set_cons_succ])
                  refine' wpAnyH_take (i := 13) (oi := _) (v := _) ?hi14 (by kernel_rfl) (by kernel_rfl) (by kernel_rfl) ?hq14 (Or.inl ⟨?hw14, ?hy14⟩) (by assumption) ?rest14
                  case hi14 => (simp only [List.getElem?_toArray, List.getElem?_cons_succ, List.getElem?_cons_zero]; rfl)
                  case hq14 => exact fun _ _ _ h => h
                  case hw14 => rfl
                  case hy14 => (intro wq hSw; (try dsimp only at hSw); go_simp; (try with_reducible rfl))
                  (try simp only [Act.put, List.setIfInBounds_toArray, List.set_cons_zero, List.set_cons_succ])
                  refine' wpAnyH_take (i := 14) (oi := _) (v := _) ?hi15 (by kernel_rfl) (by kernel_rfl) (by kernel_rfl) ?hq15 (Or.inl ⟨?hw15, ?hy15⟩) (by assumption) ?rest15
                  case hi15 => (simp only [List.getElem?_toArray, List.getElem?_cons_succ, List.getElem?_cons_zero]; rfl)
                  case hq15 => exact fun _ _ _ h => h
                  case hw15 => rfl
                  case hy15 => (intro wq hSw; (try dsimp only at hSw); go_simp; (try with_reducible rfl))
                  (try simp only [Act.put, List.setIfInBounds_toArray, List.set_cons_zero, List.set_cons_succ])
                  refine' wpAnyH_take (i := 15) (oi := _) (v := _) ?hi16 (by kernel_rfl) (by kernel_rfl) (by kernel_rfl) ?hq16 (Or.inl ⟨?hw16, ?hy16⟩) (by assumption) ?rest16
                  case hi16 => (simp only [List.getElem?_toArray, List.getElem?_cons_succ, List.getElem?_cons_zero]; rfl)
                  case hq16 => exact fun _ _ _ h => h
                  case hw16 => rfl
                  case hy16 => (intro wq hSw; (try dsimp only at hSw); go_simp; (try with_reducible rfl))
                  (try simp only [Act.put, List.setIfInBounds_toArray, List.set_cons_zero, List.set_cons_succ])
                  refine' wpAnyH_take (i := 16) (oi := _) (v := _) ?hi17 (by kernel_rfl) (by kernel_rfl) (by kernel_rfl) ?hq17 (Or.inl ⟨?hw17, ?hy17⟩) (by assumption) ?rest17
                  case hi17 => (simp only [List.getElem?_toArray, List.getElem?_cons_succ, List.getElem?_cons_zero]; rfl)
                  case hq17 => exact fun _ _ _ h => h
                  case hw17 => rfl
                  case hy17 => (intro wq hSw; (try dsimp only at hSw); go_simp; (try with_reducible rfl))
                  (try simp only [Act.put, List.setIfInBounds_toArray, List.set_cons_zero, List.set_cons_succ])
                  refine' wpAnyH_take (i := 17) (oi := _) (v := _) ?hi18 (by kernel_rfl) (by kernel_rfl) (by kernel_rfl) ?hq18 (Or.inl ⟨?hw18, ?hy18⟩) (by assumption) ?rest18
                  case hi18 => (simp only [List.getElem?_toArray, List.getElem?_cons_succ, List.getElem?_cons_zero]; rfl)
                  case hq18 => exact fun _ _ _ h => h
                  case hw18 => rfl
                  case hy18 => (intro wq hSw; (try dsimp only at hSw); go_simp; (try with_reducible rfl))
                  (try simp only [Act.put, List.setIfInBounds_toArray, List.set_cons_zero, List.set_cons_succ])
                  refine' wpAnyH_take (i := 20) (oi := _) (v := _) ?hi19 (by kernel_rfl) (by kernel_rfl) (by kernel_rfl) ?hq19 (Or.inl ⟨?hw19, ?hy19⟩) (by assumption) ?rest19
                  case hi19 => (simp only [List.getElem?_toArray, List.getElem?_cons_succ, List.getElem?_cons_zero]; rfl)
                  case hq19 => exact fun _ _ _ h => h
                  case hw19 => rfl
                  case hy19 => (intro wq hSw; (try dsimp only at hSw); go_simp; (try with_reducible rfl))
                  (try simp only [Act.put, List.setIfInBounds_toArray, List.set_cons_zero, List.set_cons_succ])
                  refine' wpAnyH_take (i := 22) (oi := _) (v := _) ?hi20 (by kernel_rfl) (by kernel_rfl) (by kernel_rfl) ?hq20 (Or.inl ⟨?hw20, ?hy20⟩) (by assumption) ?rest20
                  case hi20 => (simp only [List.getElem?_toArray, List.getElem?_cons_succ, List.getElem?_cons_zero]; rfl)
                  case hq20 => exact fun _ _ _ h => h
                  case hw20 => rfl
                  case hy20 => (intro wq hSw; (try dsimp only at hSw); go_simp; (try with_reducible rfl))
                  (try simp only [Act.put, List.setIfInBounds_toArray, List.set_cons_zero, List.set_cons_succ])
                  refine' wpAnyH_take (i := 23) (oi := _) (v := _) ?hi21 (by kernel_rfl) (by kernel_rfl) (by kernel_rfl) ?hq21 (Or.inl ⟨?hw21, ?hy21⟩) (by assumption) ?rest21
                  case hi21 => (simp only [List.getElem?_toArray, List.getElem?_cons_succ, List.getElem?_cons_zero]; rfl)
                  case hq21 => exact fun _ _ _ h => h
                  case hw21 => rfl
                  case hy21 => (intro wq hSw; (try dsimp only at hSw); go_simp; (try with_reducible rfl))
                  (try simp only [Act.put, List.setIfInBounds_toArray, List.set_cons_zero, List.set_cons_succ])
                  refine wpAnyH_ready (rs := [18]) (by kernel_rfl) (by simp) ?_
                  refine' AllReadyH.cons (o := _) ?hi22 (fun K hK => ?rest22) AllReadyH.nil
                  case hi22 => (simp only [List.getElem?_toArray, List.getElem?_cons_succ, List.getElem?_cons_zero]; rfl)
                  go_simp
                  go_at_call 81
                  refine (sSum_any W H P a b x y p hW hH hP ha hb hxlt hylt hplt A c xs HLn.out (HFp.out p hplt) _ (by exact HC.out.arg HX.out)).mono ?_
                  rintro e w5 ⟨rfl, hB5⟩
                  rw [← HSv.out]
                  have HD := Lib.hid (GS.call HC.out hB5)
                  clear HC hB5
                  have HC := HD
                  clear HD
                  have hcw := (HC.out.o0).cell (stk_len' L n q HLn2.out (Nat.le_of_lt hqn)).symm (j := q) (by rw [stk_len' L n q HLn2.out (Nat.le_of_lt hqn)]; exact hqn)
                  have hfw := (HC.out.o0).frozen (stk_len' L n q HLn2.out (Nat.le_of_lt hqn)).symm q
                  generalize (stk L n q).getD q 0 = old at *
                  have HM : Hid (GS w (w5.setCell ⟨g, q, none⟩ (.int .i64 vq)) [ri lo3 hi3 (.slice (some ⟨g, 0, none⟩) n c2) (stk L n (q + 1))] [⟨b3, 35, #[.int .i64 (a : Int), .int .i64 (b : Int), .int .i64 (P : Int), .slice (some ⟨g, 0, none⟩) n c2]⟩, ⟨w.heap.size + 1, 35, #[.int .i64 0, .int .i64 0, .int .i64 0, .slice none 0 0]⟩, ⟨w.heap.size, 35, #[.int .i64 (W : Int), .int .i64 (H : Int), .int .i64 (P : Int), .slice A xs.length c]⟩]) := Lib.hid (by
                    have hp := (HC.out.o0).put (stk_len' L n q HLn2.out (Nat.le_of_lt hqn)).symm q vq
                    rw [HSet.out] at hp
                    exact GS.mark0 HC.out hp.1 (by rw [stk_len' L n _ HLn2.out hqn, stk_len' L n _ HLn2.out (Nat.le_of_lt hqn)]) hp.2)
                  go_wp2_with fail
                  refine hK.out _ _ (by (try dsimp only); exact ⟨HC.out.b2_4.1, HC.out.b2_4.2.1, HC.out.b2_4.2.2.1, HC.out.b2_4.2.2.2, HC.out.b0_4.1, HC.out.b0_4.2.1, HC.out.b0_4.2.2.1, HC.out.b0_4.2.2.2⟩) (fun hHeld => ?_)
                  clear hK K
                  (try simp only [Act.put, List.setIfInBounds_toArray, List.set_cons_zero, List.set_cons_succ])
                  refine' wpAnyH_take (i := 19) (oi := _) (v := _) ?hi23 (by kernel_rfl) (by kernel_rfl) (by kernel_rfl) ?hq23 (Or.inl ⟨?hw23, ?hy23⟩) (by assumption) ?rest23
                  case hi23 => (simp only [List.getElem?_toArray, List.getElem?_cons_succ, List.getElem?_cons_zero]; rfl)
                  case hq23 => exact fun _ _ _ h => h
                  case hw23 => rfl
                  case hy23 => (intro wq hSw; (try dsimp only at hSw); go_simp; (try with_reducible rfl))
                  (try simp only [Act.put, List.setIfInBounds_toArray, List.set_cons_zero, List.set_cons_succ])
                  refine' wpAnyH_take (i := 21) (oi := _) (v := _) ?hi24 (by kernel_rfl) (by kernel_rfl) (by kernel_rfl) ?hq24 (Or.inl ⟨?hw24, ?hy24⟩) (by assumption) ?rest24
                  case hi24 => (simp only [List.getElem?_toArray, List.getElem?_cons_succ, List.getElem?_cons_zero]; rfl)
                  case hq24 => exact fun _ _ _ h => h
                  case hw24 => rfl
                  case hy24 => (intro wq hSw; (try dsimp only at hSw); go_simp; (try with_reducible rfl))
                  (try simp only [Act.put, List.setIfInBounds_toArray, List.set_cons_zero, List.set_cons_succ])
                  refine' wpAnyH_take (i := 24) (oi := _) (v := _) ?hi25 (by kernel_rfl) (by kernel_rfl) (by kernel_rfl) ?hq25 (Or.inl ⟨?hw25, ?hy25⟩) (by assumption) ?rest25
                  case hi25 => (simp only [List.getElem?_toArray, List.getElem?_cons_succ, List.getElem?_cons_zero]; rfl)
                  case hq25 => exact fun _ _ _ h => h
                  case hw25 => rfl
                  case hy25 => (intro wq hSw; (try dsimp only at hSw); go_simp; (try with_reducible rfl))
                  (try simp only [Act.put, List.setIfInBounds_toArray, List.set_cons_zero, List.set_cons_succ])
                  refine' wpAnyH_take (i := 25) (oi := _) (v := _) ?hi26 (by kernel_rfl) (by kernel_rfl) (by kernel_rfl) ?hq26 (Or.inl ⟨?hw26, ?hy26⟩) (by assumption) ?rest26
                  case hi26 => (simp only [List.getElem?_toArray, List.getElem?_cons_succ, List.getElem?_cons_zero]; rfl)
                  case hq26 => exact fun _ _ _ h => h
                  case hw26 => rfl
                  case hy26 => (intro wq hSw; (try dsimp only at hSw); go_simp; (try with_reducible rfl))
                  (try simp only [Act.put, List.setIfInBounds_toArray, List.set_cons_zero, List.set_cons_succ])
                  refine wpAnyH_ready (rs := [26]) (by kernel_rfl) (by simp) ?_
                  refine' AllReadyH.cons (o := _) ?hi27 (fun K hK => ?rest27) AllReadyH.nil
                  case hi27 => (simp only [List.getElem?_toArray, List.getElem?_cons_succ, List.getElem?_cons_zero]; rfl)
                  go_simp
                  (try skip)
                  refine hK.out _ _ (by (try dsimp only); exact ⟨HM.out.b2_4.1, HM.out.b2_4.2.1, HM.out.b2_4.2.2.1, HM.out.b2_4.2.2.2, HM.out.b0_4.1, HM.out.b0_4.2.1, HM.out.b0_4.2.2.1, HM.out.b0_4.2.2.2⟩) (fun hHeld => ?_)
                  clear hK K
                  (try simp only [Act.put, List.setIfInBounds_toArray, List.set_cons_zero, List.set_cons_succ])
                  refine wpAnyH_done (by kernel_rfl) ?_ _
                  all_goals
                    clear HC hcw hfw
                    (try go_wp2)
                    go_roundw
                    case rel => exact ⟨p + 1, q + 1, by omega, by go_num, Hg4, HM⟩
                    case measure => simp [intOf]; omega
                · have hpP : p = P := by omega
                  have HQ : Hid (q = (y * a + (x + 1)) * P) := Lib.hid (by rw [hq.out, hpP, ← Nat.add_assoc, Nat.add_mul (y * a + x) 1 P, Nat.one_mul])
                  clear hq
                  go_wp2
                  go_roundw
                  case rel => exact ⟨x + 1, q, by omega, by go_num, HQ, hI⟩
                  case measure => simp [intOf]; omega
            · have hxa : x = a := by omega
              have HQ : Hid (q = (y + 1) * a * P) := Lib.hid (by rw [hq.out, hxa, Nat.add_mul y 1 a, Nat.one_mul])
              clear hq
              go_wp2
              go_roundw
              case rel => exact ⟨y + 1, q, by omega, by go_num, HQ, hI⟩
              case measure => simp [intOf]; omega
        · have hyb : y = b := by omega
          have hqn : q = n := by rw [hq.out, HNp.out, hyb, Nat.mul_comm b a]
          have hG := hI.out
          rw [hqn, stk_all L n HLn2.out, HL.out] at hG
          have HN := Lib.hid (show n = (img a b P (fun x y p => arN W H a b (fun x y => px W P xs x y p) x y)).length by rw [← HL.out]; exact HLn2.out.symm)
          obtain ⟨r0, r1, r2, r3⟩ := hG.b1_4
          obtain ⟨o0, o1, o2, o3⟩ := hG.b0_4
          have f0 := hG.f1 0
          have f1 := hG.f1 1
          have f2 := hG.f1 2
          have f3 := hG.f1 3
          have HE := Lib.hid (hG.e1_4 (.int .i64 (a : Int)) (.int .i64 (b : Int)) (.int .i64 (P : Int)) (.slice (some ⟨g, 0, none⟩) n c2))
          clear hI hyb hG hqn hq
          go_wp2
          exact bodyPost_ret (v := .agg #[.int .i64 (a : Int), .int .i64 (b : Int), .int .i64 (P : Int), .slice (some ⟨g, 0, none⟩) n c2]) (by simp [results, Try.results38, go_sem, r0, r1, r2, r3]) rfl (MadeIf.yes Hv.out ⟨_, rfl, HE.out.2 _ (List.Mem.head _), HE.out.1⟩)
end Go.Proofs.Ytmkfgcmabmocfaa
