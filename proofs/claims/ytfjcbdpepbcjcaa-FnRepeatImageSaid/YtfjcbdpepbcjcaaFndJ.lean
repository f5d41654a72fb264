/- Contract of CountImage in the program. -/
import Derived.Test.YtfjcbdpepbcjcaaFndQ
namespace Go.Proofs.Ytfjcbdpepbcjcaa
open Go.RowKit Go.Shelf
set_option linter.unusedSimpArgs false
set_option linter.unusedVariables false
set_option maxRecDepth 20000
attribute [local go_sem] Oper.semAt_some

set_option maxHeartbeats 64000000 in
theorem i_CountImage (W H P W' H' P' : Int) (A A' : Option Addr) (c c' : Nat) (xs ps : List Int) (w : World) (hx : Rds .i64 w w.heap.size A xs) (hl : xs.length ≤ 2000000) (hlc : xs.length ≤ c) (hy : Rds .i64 w w.heap.size A' ps) (hl' : ps.length ≤ 2000000) (hlc' : ps.length ≤ c') :
    Calls Try.prog 16 #[.agg #[.int .i64 W, .int .i64 H, .int .i64 P, .slice A xs.length c], .agg #[.int .i64 W', .int .i64 H', .int .i64 P', .slice A' ps.length c']] w fun e w' => e = .returned (.int .i64 (cond (fdB W H P xs W' H' P' ps) ((fdZ (fdG W.toNat P.toNat xs W'.toNat H'.toNat ps) ((W.toNat - W'.toNat + 1) * (H.toNat - H'.toNat + 1)) : Nat) : Int) (-1))) ∧ Below w.heap.size w w' := by
  have HX := Lib.hid hx
  have HY := Lib.hid hy
  have S0 := ((GS.start w).box' 30 #[.int .i64 W, .int .i64 H, .int .i64 P, .slice A xs.length c] w.heap.size (by simp)).box' 30 #[.int .i64 W', .int .i64 H', .int .i64 P', .slice A' ps.length c'] (w.heap.size + 1) (by simp)
  clear hx hy
  refine (callsIn_wide (n := 5)).1 ?_
  refine callsIn_of_wp_marks Try.func16 rfl trivial ?_ rfl
  refine wpIn_wide.2 ?_
  simp only [Try.ntmps16, List.size_toArray, List.length_cons, List.length_nil, Nat.reduceAdd, Nat.reduceSub, Array.replicate_succ, Array.replicate_zero, List.push_toArray, List.append_toArray, List.nil_append, List.cons_append]
  go_wp2_with fail
  generalize (w.alloc (.cells #[.int .i64 W, .int .i64 H, .int .i64 P, .slice A xs.length c] 30)).alloc (.cells #[.int .i64 W', .int .i64 H', .int .i64 P', .slice A' ps.length c'] 30) = u0 at *
  refine (iMatch_any W H P W' H' P' A A' c c' xs ps u0 (S0.arg HX.out) hl (S0.arg HY.out) hl').mono ?_
  rintro e u1 ⟨rfl, hB⟩
  have HS := Lib.hid (S0.call hB)
  clear hB S0
  cases hv : fdB W H P xs W' H' P' ps
  · have HF : Hid (fdB W H P xs W' H' P' ps = false) := Lib.hid hv
    clear hv
    go_wp2
    exact ⟨_, results_tmp rfl _ _ _, by rw [HF.out]; rfl, HS.out.below⟩
  obtain ⟨W, H, P, PW, PH, rfl, rfl, rfl, rfl, rfl, rfl, ⟨hW1, hW⟩, ⟨hH1, hH⟩, ⟨hP1, hP⟩, ⟨hw1, hw⟩, ⟨hh1, hh⟩, hxl, hpl, hxb, hpb⟩ := fdB_nat hv
  have HXL := Lib.hid hxl
  have HPL := Lib.hid hpl
  have HXB := Lib.hid hxb
  have HPB := Lib.hid hpb
  have HBt := Lib.hid hv
  obtain ⟨m0, m1, m2, m3⟩ := HS.out.b1_4
  obtain ⟨p0, p1, p2, p3⟩ := HS.out.b0_4
  clear hv hxl hpl hxb hpb
  have hml := HS.out.l1
  have hpl := HS.out.l0
  go_upto_region 3 with fail
  go_cut [5, 6] from 16 to 19 (fun s8 s9 wx => ∃ (g cg lo1 hi1 b8 b9 lo2 hi2 : Nat) (A2 : Option Addr) (c2 : Nat), s8 = .pointer (some ⟨b8, 0, none⟩) ∧ s9 = .pointer (some ⟨b9, 0, none⟩) ∧ Hid (W * H ≤ cg ∧ PW * PH ≤ c2 ∧ GS w wx [rt 70 4 lo2 hi2 (.slice A2 (PW * PH) c2) (PW * PH) (img PW PH 4 (pxc PW P ps)), rt 70 4 lo1 hi1 (.slice (some ⟨g, 0, none⟩) (W * H) cg) (W * H) (img W H 4 (pxc W P xs))] [⟨b9, 51, #[.int .i64 (PW : Int), .int .i64 (PH : Int), .slice A2 (PW * PH) c2]⟩, ⟨b8, 51, #[.int .i64 (W : Int), .int .i64 (H : Int), .slice (some ⟨g, 0, none⟩) (W * H) cg]⟩, ⟨w.heap.size + 1, 30, #[.int .i64 (PW : Int), .int .i64 (PH : Int), .int .i64 (P : Int), .slice A' ps.length c']⟩, ⟨w.heap.size, 30, #[.int .i64 (W : Int), .int .i64 (H : Int), .int .i64 (P : Int), .slice A xs.length c]⟩]))
  case first =>
    go_region_held3 (fun w' => (w'.cell? ⟨w.heap.size, 0, none⟩ = some (.int .i64 (W : Int)) ∧ w'.cell? ⟨w.heap.size, 1, none⟩ = some (.int .i64 (H : Int)) ∧ w'.cell? ⟨w.heap.size, 2, none⟩ = some (.int .i64 (P : Int)) ∧ w'.cell? ⟨w.heap.size, 3, none⟩ = some (.slice A xs.length c)) ∧ (w'.cell? ⟨w.heap.size + 1, 0, none⟩ = some (.int .i64 (PW : Int)) ∧ w'.cell? ⟨w.heap.size + 1, 1, none⟩ = some (.int .i64 (PH : Int)) ∧ w'.cell? ⟨w.heap.size + 1, 2, none⟩ = some (.int .i64 (P : Int)) ∧ w'.cell? ⟨w.heap.size + 1, 3, none⟩ = some (.slice A' ps.length c')))
      (first | (with_reducible exact ⟨⟨k0, k1, k2, k3⟩, k4, k5, k6, k7⟩) | (with_reducible exact ⟨⟨d0, d1, d2, d3⟩, d4, d5, d6, d7⟩) | (with_reducible exact ⟨⟨m0, m1, m2, m3⟩, p0, p1, p2, p3⟩) | (refine ⟨⟨?_, ?_, ?_, ?_⟩, ?_, ?_, ?_, ?_⟩ <;> ((repeat (first | with_reducible refine (sc3F (by omega) _ _ _).trans ?_ | with_reducible refine (al1F (by first | omega | (simp; omega)) _).trans ?_)); (with_reducible first | exact k0 | exact k1 | exact k2 | exact k3 | exact k4 | exact k5 | exact k6 | exact k7))) | go_keep)
      (first
        | (go_at_call 30; refine (gridOf_any W H P hW hH hP1 hP hW1 hH1 A c xs HXL.out hlc _ (by first | exact HS.out.drew.arg HX.out | exact (HS.out.drew.box' _ _ u1.heap.size rfl).arg HX.out | exact ((HS.out.drew.box' _ _ u1.heap.size rfl).box' _ _ (u1.heap.size + 1) (by simp)).arg HX.out)).mono ?_; rintro e u3 ⟨v3, rfl, hO3, hB3⟩; obtain ⟨g, c9, rfl, hg1, hg2, hc9⟩ := OwnC.form hO3 (Nat.mul_pos hW1 hH1); obtain ⟨hBB, hXs⟩ := below2F (u := u1) (by first | exact (Below.refl _ _).drew | exact (Below.refl _ _).drew.alloc (Nat.le_refl _) _ | exact ((Below.refl _ _).drew.alloc (Nat.le_refl _) _).alloc ((Below.refl _ _).drew.alloc (Nat.le_refl _) _).size _) hB3; obtain ⟨d0, d1, d2, d3⟩ := keep4 hBB hml m0 m1 m2 m3; obtain ⟨d4, d5, d6, d7⟩ := keep4 hBB hpl p0 p1 p2 p3; have hml3 := Nat.lt_of_lt_of_le hml hBB.size; have hpl3 := Nat.lt_of_lt_of_le hpl hBB.size; clear hBB; (first | have HS3 := Lib.hid (HS.out.drew.addT hO3 hB3) | have HS3 := Lib.hid ((HS.out.drew.box' _ _ u1.heap.size rfl).addT hO3 hB3) | have HS3 := Lib.hid (((HS.out.drew.box' _ _ u1.heap.size rfl).box' _ _ (u1.heap.size + 1) (by simp)).addT hO3 hB3)); have Hc9 := Lib.hid hc9; have hu13 : u1.heap.size < u3.heap.size := (by have hg1' := Nat.le_trans hXs hg1; omega); have hx1 : ¬ u1.heap.size = u3.heap.size := (by omega); have hx2 : ¬ u3.heap.size = u1.heap.size := (by omega); clear hO3 hB3 hc9 hg1 hg2)
        | (go_at_call 30; refine (gridOf_any PW PH P (by omega) (by omega) hP1 hP hw1 hh1 A' c' ps HPL.out hlc' _ (by first | exact HS3.out.arg HY.out | exact (HS3.out.box' _ _ u3.heap.size rfl).arg HY.out | exact ((HS3.out.box' _ _ u3.heap.size rfl).box' _ _ (u3.heap.size + 1) (by simp)).arg HY.out)).mono ?_; rintro e u4 ⟨v4, rfl, hO4, hB4⟩; obtain ⟨A10, c10, rfl, hc10⟩ := OwnC.slice hO4; obtain ⟨hBB, hXs4⟩ := below2F (u := u3) (by first | exact Below.refl _ _ | exact (Below.refl _ _).alloc (Nat.le_refl _) _ | exact ((Below.refl _ _).alloc (Nat.le_refl _) _).alloc ((Below.refl _ _).alloc (Nat.le_refl _) _).size _) hB4; obtain ⟨k0, k1, k2, k3⟩ := keep4 hBB hml3 d0 d1 d2 d3; obtain ⟨k4, k5, k6, k7⟩ := keep4 hBB hpl3 d4 d5 d6 d7; have hml4 := Nat.lt_of_lt_of_le hml3 hBB.size; have hpl4 := Nat.lt_of_lt_of_le hpl3 hBB.size; clear hBB; (first | have HS4 := Lib.hid (HS3.out.addT hO4 hB4) | have HS4 := Lib.hid ((HS3.out.box' _ _ u3.heap.size rfl).addT hO4 hB4) | have HS4 := Lib.hid (((HS3.out.box' _ _ u3.heap.size rfl).box' _ _ (u3.heap.size + 1) (by simp)).addT hO4 hB4)); have Hc10 := Lib.hid hc10; clear hO4 hB4 hc10; (try (obtain ⟨y0, y1, y2⟩ := HS4.out.b0_3; have y3 := HS4.out.f0 0; have y4 := HS4.out.f0 1; have y5 := HS4.out.f0 2; have y6 := HS4.out.l0)); (try (obtain ⟨z0, z1, z2⟩ := HS4.out.b1_3; have z3 := HS4.out.f1 0; have z4 := HS4.out.f1 1; have z5 := HS4.out.f1 2; have z6 := HS4.out.l1))))
    all_goals
      (go_wp2_with fail; go_meet; exact ⟨g, c9, _, _, _, _, _, _, _, _, rfl, rfl, Lib.hid ⟨Hc9.out, Hc10.out, (by first | with_reducible exact (HS4.out.box' _ _ u4.heap.size rfl).box' _ _ (u4.heap.size + 1) (by simp) | with_reducible exact ((HS4.out.box' _ _ u4.heap.size rfl).box' _ _ (u4.heap.size + 1) (by simp)).swapF | with_reducible exact (HS4.out.fill3F _ _ _).box' _ _ u4.heap.size (by simp [World.setCell]) | with_reducible exact ((HS4.out.fill3F _ _ _).box' _ _ u4.heap.size (by simp [World.setCell])).swapF | with_reducible exact (HS4.out.swapF.fill3F _ _ _).swapF.fill3F _ _ _ | with_reducible exact (HS4.out.fill3F _ _ _).swapF.fill3F _ _ _)⟩⟩)
  case rest =>
  obtain ⟨g, cg, lo1, hi1, b8, b9, lo2, hi2, A2, c2, rfl, rfl, HG⟩ := hcut
  obtain ⟨n1, hn1⟩ : ∃ m, W * H = m := ⟨_, rfl⟩
  obtain ⟨n2, hn2⟩ : ∃ m, PW * PH = m := ⟨_, rfl⟩
  rw [hn1, hn2] at HG
  obtain ⟨hcg, hc2, hG0⟩ := HG.out
  obtain ⟨N, hN⟩ : ∃ N, N = W - PW + 1 := ⟨_, rfl⟩
  obtain ⟨M, hM⟩ : ∃ M, M = H - PH + 1 := ⟨_, rfl⟩
  obtain ⟨G, hG⟩ : ∃ G, G = fdG W P xs PW PH ps := ⟨_, rfl⟩
  have h1024 : PW * PH * P ≤ 1024 := by have := Nat.mul_le_mul (Nat.mul_le_mul (show PW ≤ 16 by omega) (show PH ≤ 16 by omega)) hP; omega
  have HGa : Hid (∀ k, k < N * M → k % N + PW ≤ W ∧ k / N + PH ≤ H ∧ fdV W P xs PW PH ps (k % N) (k / N) = G k ∧ 0 ≤ G k ∧ G k ≤ 66585600) := Lib.hid (fun k hk => by
    have h1 : k % N < N := Nat.mod_lt _ (by omega)
    have h2 : k / N < M := (Nat.div_lt_iff_lt_mul (by omega)).mpr (by rw [Nat.mul_comm]; exact hk)
    have e : G k = fdV W P xs PW PH ps (k % N) (k / N) := by rw [hG]; unfold fdG; rw [← hN]
    have h3 := fdV_bd HXL.out HXB.out HPL.out HPB.out (x := k % N) (y := k / N) (by omega) (by omega) h1024
    exact ⟨by omega, by omega, e.symm, by rw [e]; exact h3.1, by rw [e]; exact h3.2⟩)
  have HFZ : Hid (fdZ (fdG (W : Int).toNat (P : Int).toNat xs (PW : Int).toNat (PH : Int).toNat ps) (((W : Int).toNat - (PW : Int).toNat + 1) * ((H : Int).toNat - (PH : Int).toNat + 1)) = fdZ G (N * M)) := Lib.hid (by simp only [Int.toNat_natCast, ← hN, ← hM, ← hG])
  obtain ⟨q, hq⟩ : ∃ q, q = wc.heap.size := ⟨_, rfl⟩
  have HS5 := Lib.hid (hG0.box' 3 #[.int .i64 0] q hq)
  have hs5 : q < wc.heap.size + 2 := by omega
  clear HG hG0 hG HS m0 m1 m2 m3 p0 p1 p2 p3 hml hpl
  obtain ⟨m0, m1, m2, m3⟩ := HS5.out.b4_4
  obtain ⟨p0, p1, p2, p3⟩ := HS5.out.b3_4
  have hml := HS5.out.l4
  have hpl := HS5.out.l3
  go_wp2_with fail
  rw [← hq]
  generalize (wc.alloc (.cells #[.int .i64 0] 3)) = u5 at *
  clear hq m0 m1 m2 m3 p0 p1 p2 p3 hml hpl
  refine (iParts_any W H P PW PH P hW hH hw hh _ _ u5).mono ?_
  rintro e u6 ⟨bp, bw, bh, rfl, g1, g2, g3, hPB, hB⟩
  rw [← hN, ← hM] at hPB
  have HS6 : Hid (GS w u6 [rt 70 4 lo2 hi2 (.slice A2 (n2) c2) (n2) (img PW PH 4 (pxc PW P ps)), rt 70 4 lo1 hi1 (.slice (some ⟨g, 0, none⟩) (n1) cg) (n1) (img W H 4 (pxc W P xs))] [⟨q, 3, #[.int .i64 ((zL G ([] : List (Fin (N * M))) : Nat) : Int)]⟩, ⟨b9, 51, #[.int .i64 (PW : Int), .int .i64 (PH : Int), .slice A2 (n2) c2]⟩, ⟨b8, 51, #[.int .i64 (W : Int), .int .i64 (H : Int), .slice (some ⟨g, 0, none⟩) (n1) cg]⟩, ⟨w.heap.size + 1, 30, #[.int .i64 (PW : Int), .int .i64 (PH : Int), .int .i64 (P : Int), .slice A' ps.length c']⟩, ⟨w.heap.size, 30, #[.int .i64 (W : Int), .int .i64 (H : Int), .int .i64 (P : Int), .slice A xs.length c]⟩]) := Lib.hid (HS5.out.call hB)
  have HGB : Hid (GSB u6.heap.size _ _) := Lib.hid HS6.out.bnd
  have hs6 := HS6.out.below.size
  have hq5 := HS5.out.l0
  have HPt := Lib.hid hPB
  have HN : Hid (N + PW = W + 1 ∧ M + PH = H + 1) := Lib.hid (by omega)
  have hN16 : N ≤ 16 ∧ M ≤ 16 := by omega
  have hTT : N * M ≤ 256 := by have := Nat.mul_le_mul (show N ≤ 16 by omega) (show M ≤ 16 by omega); omega
  clear hB hN hM HS5 hPB
  go_wp2
  have hbl : bp < u6.heap.size ∧ bw < u6.heap.size ∧ bh < u6.heap.size := ⟨HPt.out.1.lt, HPt.out.2.1.lt, HPt.out.2.2.lt⟩
  have hql : q + 1 < u5.heap.size ∨ q < u5.heap.size := by first | exact .inr hq5 | exact .inl hq5
  refine (wpIn_wide (n := 5)).1 ?_
  refine' wpIn_rangeFunc_ownG rfl (by omega) (gf := 78) (lb := #[.pointer (some ⟨bp, 0, none⟩), .pointer (some ⟨bh, 0, none⟩), .pointer (some ⟨bw, 0, none⟩)]) rfl trivial (enters_of Try.func78 (by kernel_rfl) rfl)
    (places_stops 4 (by omega) bp bw bh 0 1 0 1 N M N M (N * M) rfl (by omega) (by omega) (by omega) (by omega) (by omega) (by omega) (by omega) (by omega) (fun i h => by omega) (by omega) (fun i h => by omega) (by omega) u6 HPt.out)
    (fun h k x => k (h x)) (fun V l o o' hl _ _ _ h => h.kept (fun b hb he => World.putObj_heap_other (fun e => by rcases he with rfl | rfl | rfl <;> omega))) (Below.refl _ _) (fun _ => rfl)
    (fun pre V => GS w V [rt 70 4 lo2 hi2 (.slice A2 (n2) c2) (n2) (img PW PH 4 (pxc PW P ps)), rt 70 4 lo1 hi1 (.slice (some ⟨g, 0, none⟩) (n1) cg) (n1) (img W H 4 (pxc W P xs))] [⟨q, 3, #[.int .i64 ((zL G pre : Nat) : Int)]⟩, ⟨b9, 51, #[.int .i64 (PW : Int), .int .i64 (PH : Int), .slice A2 (n2) c2]⟩, ⟨b8, 51, #[.int .i64 (W : Int), .int .i64 (H : Int), .slice (some ⟨g, 0, none⟩) (n1) cg]⟩, ⟨w.heap.size + 1, 30, #[.int .i64 (PW : Int), .int .i64 (PH : Int), .int .i64 (P : Int), .slice A' ps.length c']⟩, ⟨w.heap.size, 30, #[.int .i64 (W : Int), .int .i64 (H : Int), .int .i64 (P : Int), .slice A xs.length c]⟩]) (fun _ _ _ => False)
    (fun pre V V' row h hG hr => h.other (B := u6.heap.size) ⟨HGB.out.1, by have h2 := HGB.out.2; simp only [List.forall_mem_cons] at h2 ⊢; exact h2⟩ hs6 hG (fun r e => (hr r e).1))
    (fun _ _ _ _ _ hs _ _ => hs) HS6.out _ ?assign ?body ?done ?stop
  case assign =>
    intro l x V K hK
    gi_wp2
    exact hK
  case stop =>
    rintro D c pre V _ _ h _
    exact h.elim
  case body =>
    rintro l pre x V hS hlt
    have hx := x.isLt
    obtain ⟨a1, a2, a3, a4, a5⟩ := HGa.out x.val hx
    obtain ⟨X0, hX0⟩ : ∃ X0, X0 = x.val % N := ⟨_, rfl⟩
    obtain ⟨Y0, hY0⟩ : ∃ Y0, Y0 = x.val / N := ⟨_, rfl⟩
    obtain ⟨gx, hgx⟩ : ∃ gx, gx = G x.val := ⟨_, rfl⟩
    rw [show ((x.val : Nat) : Int) % ((N : Nat) : Int) = ((X0 : Nat) : Int) by rw [hX0]; exact (Int.natCast_emod _ _).symm, show ((x.val : Nat) : Int) / ((N : Nat) : Int) = ((Y0 : Nat) : Int) by rw [hY0]; exact (Int.natCast_ediv _ _).symm]
    rw [← hX0, ← hY0, ← hgx] at a3
    rw [← hX0] at a1
    rw [← hY0] at a2
    rw [← hgx] at a4 a5
    have HX0 := Lib.hid hX0
    have HY0 := Lib.hid hY0
    have HGX := Lib.hid hgx
    clear hX0 hY0
    have HC := Lib.hid (i_gapBelow W H P X0 Y0 PW PH n1 n2 1 hn1 hn2 hW hH hP hw1 hh1 a1 a2 (some ⟨g, 0, none⟩) A2 cg c2 xs ps HXL.out HPL.out HXB.out HPB.out V (hS.rdsT (E := 70) (C := 4) (lo := lo1) (hi := hi1) (A := some ⟨g, 0, none⟩) (n := n1) (m := n1) (c := cg) (xs := img W H 4 (pxc W P xs)) (by simp)) (hS.rdsT (E := 70) (C := 4) (lo := lo2) (hi := hi2) (A := A2) (n := n2) (m := n2) (c := c2) (xs := img PW PH 4 (pxc PW P ps)) (by simp)) hcg hc2)
    have HKp : Hid (PB bp bw bh 0 1 0 1 N M V → PB bp bw bh 0 1 0 1 N M V) := Lib.hid (fun h => h)
    obtain ⟨s0, s1, s2⟩ := hS.b1_3
    obtain ⟨t0, t1, t2⟩ := hS.b2_3
    rw [a3] at HC
    have HS := Lib.hid hS
    have hVs := hS.l0
    clear hS
    have hz := zL_le G pre
    have HZn := Lib.hid (zL_snoc G pre x)
    rw [← hgx] at HZn
    by_cases hg : gx = 0
    · have HZ : Hid (zL G (pre ++ [x]) = zL G pre + 1) := Lib.hid (by have := HZn.out; rwa [if_pos hg] at this)
      have HC2 : Hid (∀ V2 e, GbR gx 1 V e V2 → e = .returned (.tuple #[.int .i64 gx, .bool true]) ∧ Below V.heap.size V V2) := Lib.hid (fun V2 e h => ⟨by have := h.1; rwa [if_pos (by omega : gx < 1), decide_eq_true (by omega : gx < 1)] at this, h.2⟩)
      clear HZn
      gi_wp2_with fail
      refine ⟨trivial, ?_⟩
      gi_at_call 32
      refine (CallsIn.inRound l (callsIn_wide.2 HC.out)).mono ?_
      intro e V2 hr
      obtain ⟨rfl, hB⟩ := HC2.out V2 e hr
      have HS2 := Lib.hid (HS.out.call hB)
      have HBb := Lib.hid hB
      have cq := HS2.out.b0_1
      have hq2 := HS2.out.l0
      have fq := HS2.out.f0 0
      clear hB hr s0 s1 s2 t0 t1 t2
      gi_wp2
      have HF := HS2.out.fill1F (.int .i64 (((zL G pre : Nat) : Int) + 1))
      refine ⟨(keepsF HBb.out).trans ((KeepsOthers.setCell _ _ _).from _), fun h => (h.call HBb.out).put (grown_set _ q 0 _) (.inl (by omega)) (.inl (by omega)) (.inl (by omega)), ?_⟩
      (try dsimp only)
      rw [HZ.out]
      exact HF
    · have HZ : Hid (zL G (pre ++ [x]) = zL G pre) := Lib.hid (by have := HZn.out; rwa [if_neg hg] at this)
      have HC2 : Hid (∀ V2 e, GbR gx 1 V e V2 → e = .returned (.tuple #[.int .i64 0, .bool false]) ∧ Below V.heap.size V V2) := Lib.hid (fun V2 e h => ⟨by have := h.1; rwa [if_neg (by omega : ¬ gx < 1), decide_eq_false (by omega : ¬ gx < 1)] at this, h.2⟩)
      clear HZn
      gi_wp2_with fail
      refine ⟨trivial, ?_⟩
      gi_at_call 32
      refine (CallsIn.inRound l (callsIn_wide.2 HC.out)).mono ?_
      intro e V2 hr
      obtain ⟨rfl, hB⟩ := HC2.out V2 e hr
      have HS2 := Lib.hid (HS.out.call hB)
      have HBb := Lib.hid hB
      clear hB hr s0 s1 s2 t0 t1 t2
      gi_wp2
      refine ⟨keepsF HBb.out, fun h => h.call HBb.out, ?_⟩
      (try dsimp only)
      rw [HZ.out]
      exact HS2.out
  case done =>
    rintro D ys V hD rfl hS hK
    have cq := hS.b0_1
    have hq2 := hS.l0
    have HS := Lib.hid hS
    have HZ := Lib.hid (zL_all (T := N * M) G)
    clear hS
    go_wp2
    refine ⟨by simp, .inl ⟨_, _, rfl, run_takeDeferred hK, ?_⟩⟩
    exact ⟨_, results_tmp rfl _ _ _, by rw [HBt.out, HFZ.out, HZ.out]; rfl, HS.out.below.grown (grownBy_putObj' V D _) HS.out.below.size (fun k e => by cases e; omega)⟩
end Go.Proofs.Ytfjcbdpepbcjcaa
