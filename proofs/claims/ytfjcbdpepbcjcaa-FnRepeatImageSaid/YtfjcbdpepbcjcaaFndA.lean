/- Contract of the model's gap of a part at a place. -/
import Derived.Test.YtfjcbdpepbcjcaaFndM
import Derived.Test.YtfjcbdpepbcjcaaCropS
import Derived.Test.YtfjcbdpepbcjcaaGap
import Derived.Test.YtfjcbdpepbcjcaaGenP
namespace Go.Proofs.Ytfjcbdpepbcjcaa
open Go.RowKit Go.Shelf
set_option linter.unusedSimpArgs false
set_option linter.unusedVariables false
set_option maxRecDepth 20000

theorem fld_img (a b c v : Value) (w : World) : (Instr.field 30 (.agg #[a, b, c, v]) 3).run Try.prog w = .ok v w := by
  simp [Instr.field, run_underlying Try.underlying30, asAgg, go_sem]
set_option maxHeartbeats 8000000 in
theorem sgapAt_any (W H P X0 Y0 bw bh : Nat) (hW1 : 1 ≤ W) (hW : W ≤ 16) (hH1 : 1 ≤ H) (hH : H ≤ 16) (hP1 : 1 ≤ P) (hP : P ≤ 4) (hbw : 1 ≤ bw) (hbh : 1 ≤ bh) (hXw : X0 + bw ≤ W) (hYh : Y0 + bh ≤ H) (A A' : Option Addr) (c c' : Nat) (xs ps : List Int) (hl : xs.length = W * H * P) (hlc : xs.length ≤ c) (hl' : ps.length = bw * bh * P)
    (hxb : ∀ j, j < xs.length → 0 ≤ xs.getD j 0 ∧ xs.getD j 0 ≤ 255) (hpb : ∀ j, j < ps.length → 0 ≤ ps.getD j 0 ∧ ps.getD j 0 ≤ 255) (w : World) (hx : Rds .i64 w w.heap.size A xs) (hy : Rds .i64 w w.heap.size A' ps) :
    Calls Try.prog 27 #[.agg #[.int .i64 (W : Int), .int .i64 (H : Int), .int .i64 (P : Int), .slice A xs.length c], .agg #[.int .i64 (bw : Int), .int .i64 (bh : Int), .int .i64 (P : Int), .slice A' ps.length c'], .int .i64 (X0 : Int), .int .i64 (Y0 : Int)] w fun e w' => e = .returned (.int .i64 (fdV W P xs bw bh ps X0 Y0)) ∧ Below w.heap.size w w' := by
  have HX := Lib.hid hx
  have HY := Lib.hid hy
  have HL := Lib.hid hl
  have HL' := Lib.hid hl'
  have HXB := Lib.hid hxb
  have HPB := Lib.hid hpb
  have hcl : (cropL W P xs X0 Y0 bw bh).length = ps.length := by rw [hl']; exact img_len _ _ _ _
  have HCL := Lib.hid hcl
  have hps : ps.length ≤ 1024 := by rw [hl']; have := Nat.mul_le_mul (Nat.mul_le_mul (show bw ≤ 16 by omega) (show bh ≤ 16 by omega)) hP; omega
  have HV : Hid (gapN (cropL W P xs X0 Y0 bw bh) ps ps.length = fdV W P xs bw bh ps X0 Y0) := Lib.hid (by unfold fdV; rw [hl'])
  have S0 := ((GS.start w).box' 30 #[.int .i64 (W : Int), .int .i64 (H : Int), .int .i64 (P : Int), .slice A xs.length c] w.heap.size (by simp)).box' 30 #[.int .i64 (bw : Int), .int .i64 (bh : Int), .int .i64 (P : Int), .slice A' ps.length c'] (w.heap.size + 1) (by simp)
  have S1 : Hid (GS w ((w.alloc (.cells #[.int .i64 (W : Int), .int .i64 (H : Int), .int .i64 (P : Int), .slice A xs.length c] 30)).alloc (.cells #[.int .i64 (bw : Int), .int .i64 (bh : Int), .int .i64 (P : Int), .slice A' ps.length c'] 30)).drew _ _) := Lib.hid S0.drew
  obtain ⟨p0, p1, p2, p3⟩ := S0.b0_4
  obtain ⟨m0, m1, m2, m3⟩ := S0.b1_4
  have hpl := S0.l0
  have hml := S0.l1
  clear hx hy hl hl' hxb hpb S0 hcl
  go_enter Try.func27, Try.ntmps27
  go_wp2_with fail
  generalize (w.alloc (.cells #[.int .i64 (W : Int), .int .i64 (H : Int), .int .i64 (P : Int), .slice A xs.length c] 30)).alloc (.cells #[.int .i64 (bw : Int), .int .i64 (bh : Int), .int .i64 (P : Int), .slice A' ps.length c'] 30) = u0 at *
  go_upto_region 1 with fail
  refine wp_region_held_drew (S := (fun w' => w'.cell? ⟨w.heap.size, 0, none⟩ = some (.int .i64 (W : Int)) ∧ w'.cell? ⟨w.heap.size, 1, none⟩ = some (.int .i64 (H : Int)) ∧ w'.cell? ⟨w.heap.size, 2, none⟩ = some (.int .i64 (P : Int)) ∧ w'.cell? ⟨w.heap.size, 3, none⟩ = some (.slice A xs.length c) ∧ w'.cell? ⟨w.heap.size + 1, 0, none⟩ = some (.int .i64 (bw : Int)) ∧ w'.cell? ⟨w.heap.size + 1, 1, none⟩ = some (.int .i64 (bh : Int)) ∧ w'.cell? ⟨w.heap.size + 1, 2, none⟩ = some (.int .i64 (P : Int)) ∧ w'.cell? ⟨w.heap.size + 1, 3, none⟩ = some (.slice A' ps.length c'))) (by kernel_rfl) (by exact ⟨m0, m1, m2, m3, p0, p1, p2, p3⟩) (fun hHeld => ?_)
  refine' wpAnyH_take (i := 0) (oi := _) (v := _) ?hi1 (by kernel_rfl) (by kernel_rfl) (by kernel_rfl) ?hq1 (Or.inl ⟨?hw1, ?hy1⟩) (by assumption) ?rest1
  case hi1 => (simp only [List.getElem?_toArray, List.getElem?_cons_succ, List.getElem?_cons_zero]; rfl)
  case hq1 => exact fun _ _ _ h => h
  case hw1 => rfl
  case hy1 => (intro wq hSw; (try dsimp only at hSw); go_simp; (try with_reducible rfl))
  (try simp only [Act.put, List.setIfInBounds_toArray, List.set_cons_zero, List.set_cons_succ])
  refine' wpAnyH_take (i := 1) (oi := _) (v := _) ?hi2 (by kernel_rfl) (by kernel_rfl) (by kernel_rfl) ?hq2 (Or.inl ⟨?hw2, ?hy2⟩) (by assumption) ?rest2
  case hi2 => (simp only [List.getElem?_toArray, List.getElem?_cons_succ, List.getElem?_cons_zero]; rfl)
  case hq2 => exact fun _ _ _ h => h
  case hw2 => rfl
  case hy2 => (intro wq hSw; (try dsimp only at hSw); go_simp; (try with_reducible rfl))
  (try simp only [Act.put, List.setIfInBounds_toArray, List.set_cons_zero, List.set_cons_succ])
  refine' wpAnyH_take (i := 2) (oi := _) (v := _) ?hi3 (by kernel_rfl) (by kernel_rfl) (by kernel_rfl) ?hq3 (Or.inl ⟨?hw3, ?hy3⟩) (by assumption) ?rest3
  case hi3 => (simp only [List.getElem?_toArray, List.getElem?_cons_succ, List.getElem?_cons_zero]; rfl)
  case hq3 => exact fun _ _ _ h => h
  case hw3 => rfl
  case hy3 => (intro wq hSw; (try dsimp only at hSw); go_simp; (try with_reducible rfl))
  (try simp only [Act.put, List.setIfInBounds_toArray, List.set_cons_zero, List.set_cons_succ])
  refine' wpAnyH_take (i := 3) (oi := _) (v := _) ?hi4 (by kernel_rfl) (by kernel_rfl) (by kernel_rfl) ?hq4 (Or.inl ⟨?hw4, ?hy4⟩) (by assumption) ?rest4
  case hi4 => (simp only [List.getElem?_toArray, List.getElem?_cons_succ, List.getElem?_cons_zero]; rfl)
  case hq4 => exact fun _ _ _ h => h
  case hw4 => rfl
  case hy4 => (intro wq hSw; (try dsimp only at hSw); go_simp; (try with_reducible rfl))
  (try simp only [Act.put, List.setIfInBounds_toArray, List.set_cons_zero, List.set_cons_succ])
  refine' wpAnyH_take (i := 4) (oi := _) (v := _) ?hi5 (by kernel_rfl) (by kernel_rfl) (by kernel_rfl) ?hq5 (Or.inl ⟨?hw5, ?hy5⟩) (by assumption) ?rest5
  case hi5 => (simp only [List.getElem?_toArray, List.getElem?_cons_succ, List.getElem?_cons_zero]; rfl)
  case hq5 => exact fun _ _ _ h => h
  case hw5 => rfl
  case hy5 => (intro wq hSw; (try dsimp only at hSw); go_simp; (try with_reducible rfl))
  (try simp only [Act.put, List.setIfInBounds_toArray, List.set_cons_zero, List.set_cons_succ])
  refine' wpAnyH_take (i := 5) (oi := _) (v := _) ?hi6 (by kernel_rfl) (by kernel_rfl) (by kernel_rfl) ?hq6 (Or.inl ⟨?hw6, ?hy6⟩) (by assumption) ?rest6
  case hi6 => (simp only [List.getElem?_toArray, List.getElem?_cons_succ, List.getElem?_cons_zero]; rfl)
  case hq6 => exact fun _ _ _ h => h
  case hw6 => rfl
  case hy6 => (intro wq hSw; (try dsimp only at hSw); go_simp; (try with_reducible rfl))
  (try simp only [Act.put, List.setIfInBounds_toArray, List.set_cons_zero, List.set_cons_succ])
  refine' wpAnyH_take (i := 6) (oi := _) (v := _) ?hi7 (by kernel_rfl) (by kernel_rfl) (by kernel_rfl) ?hq7 (Or.inl ⟨?hw7, ?hy7⟩) (by assumption) ?rest7
  case hi7 => (simp only [List.getElem?_toArray, List.getElem?_cons_succ, List.getElem?_cons_zero]; rfl)
  case hq7 => exact fun _ _ _ h => h
  case hw7 => rfl
  case hy7 => (intro wq hSw; (try dsimp only at hSw); go_simp; (try with_reducible rfl))
  (try simp only [Act.put, List.setIfInBounds_toArray, List.set_cons_zero, List.set_cons_succ])
  refine' wpAnyH_take (i := 9) (oi := _) (v := _) ?hi8 (by kernel_rfl) (by kernel_rfl) (by kernel_rfl) ?hq8 (Or.inl ⟨?hw8, ?hy8⟩) (by assumption) ?rest8
  case hi8 => (simp only [List.getElem?_toArray, List.getElem?_cons_succ, List.getElem?_cons_zero]; rfl)
  case hq8 => exact fun _ _ _ h => h
  case hw8 => rfl
  case hy8 => (intro wq hSw; (try dsimp only at hSw); go_simp; (try with_reducible rfl))
  (try simp only [Act.put, List.setIfInBounds_toArray, List.set_cons_zero, List.set_cons_succ])
  refine' wpAnyH_take (i := 10) (oi := _) (v := _) ?hi9 (by kernel_rfl) (by kernel_rfl) (by kernel_rfl) ?hq9 (Or.inl ⟨?hw9, ?hy9⟩) (by assumption) ?rest9
  case hi9 => (simp only [List.getElem?_toArray, List.getElem?_cons_succ, List.getElem?_cons_zero]; rfl)
  case hq9 => exact fun _ _ _ h => h
  case hw9 => rfl
  case hy9 => (intro wq hSw; (try dsimp only at hSw); go_simp; (try with_reducible rfl))
  (try simp only [Act.put, List.setIfInBounds_toArray, List.set_cons_zero, List.set_cons_succ])
  refine wpAnyH_ready (rs := [7]) (by kernel_rfl) (by simp) ?_
  refine' AllReadyH.cons (o := _) ?hi10 (fun K hK => ?rest10) AllReadyH.nil
  case hi10 => (simp only [List.getElem?_toArray, List.getElem?_cons_succ, List.getElem?_cons_zero]; rfl)
  go_simp
  go_at_call 59
  refine (crop_any W H P X0 Y0 bw bh hW1 hW hH1 hH hP1 hP hbw hbh hXw hYh A c xs HL.out hlc u0.drew (S1.out.arg HX.out)).mono ?_
  rintro e u2 ⟨v2, rfl, hO, hB⟩
  obtain ⟨A2, c2, rfl, hc2⟩ := hO.slice
  have S2 := Lib.hid (S1.out.call hB)
  have HR2 := Lib.hid hO.rds.2
  obtain ⟨k0, k1, k2, k3⟩ := S2.out.b0_4
  obtain ⟨k4, k5, k6, k7⟩ := S2.out.b1_4
  clear hO hB
  refine hK.out _ _ (by (try dsimp only); exact ⟨k4, k5, k6, k7, k0, k1, k2, k3⟩) (fun hHeld => ?_)
  clear hK K
  (try simp only [Act.put, List.setIfInBounds_toArray, List.set_cons_zero, List.set_cons_succ])
  refine' wpAnyH_take (i := 8) (oi := _) (v := _) ?hi11 (by kernel_rfl) (by kernel_rfl) (by kernel_rfl) ?hq11 (Or.inl ⟨?hw11, ?hy11⟩) (by assumption) ?rest11
  case hi11 => (simp only [List.getElem?_toArray, List.getElem?_cons_succ, List.getElem?_cons_zero]; rfl)
  case hq11 => exact fun _ _ _ h => h
  case hw11 => rfl
  case hy11 => (intro wq hSw; (try dsimp only at hSw); simp [Instr.field, run_underlying Try.underlying30, asAgg, go_sem]; (try with_reducible rfl))
  (try simp only [Act.put, List.setIfInBounds_toArray, List.set_cons_zero, List.set_cons_succ])
  refine wpAnyH_ready (rs := [11]) (by kernel_rfl) (by simp) ?_
  refine' AllReadyH.cons (o := _) ?hi12 (fun K hK => ?rest12) AllReadyH.nil
  case hi12 => (simp only [List.getElem?_toArray, List.getElem?_cons_succ, List.getElem?_cons_zero]; rfl)
  go_simp
  go_at_call 58
  rw [HCL.out]
  refine (sgap_any A2 A' c2 c' ps.length (cropL W P xs X0 Y0 bw bh) ps u2 HCL.out.symm rfl HR2.out (S2.out.arg HY.out) (by omega) (by rw [← HCL.out]; exact fun j hj => cropL_b HL.out HXB.out hXw hYh j (by rw [HL'.out] at HCL; exact HCL.out ▸ hj)) HPB.out).mono ?_
  rintro e u3 ⟨rfl, hB3⟩
  have S3 := Lib.hid (S2.out.call hB3)
  rw [HV.out]
  obtain ⟨s0, s1, s2, s3⟩ := S3.out.b0_4
  obtain ⟨s4, s5, s6, s7⟩ := S3.out.b1_4
  clear hB3
  refine hK.out _ _ (by (try dsimp only); exact ⟨s4, s5, s6, s7, s0, s1, s2, s3⟩) (fun hHeld => ?_)
  clear hK K
  (try simp only [Act.put, List.setIfInBounds_toArray, List.set_cons_zero, List.set_cons_succ])
  refine' wpAnyH_take (i := 12) (oi := _) (v := _) ?hi13 (by kernel_rfl) (by kernel_rfl) (by kernel_rfl) ?hq13 (Or.inl ⟨?hw13, ?hy13⟩) (by assumption) ?rest13
  case hi13 => (simp only [List.getElem?_toArray, List.getElem?_cons_succ, List.getElem?_cons_zero]; rfl)
  case hq13 => exact fun _ _ _ h => h
  case hw13 => rfl
  case hy13 => (intro wq hSw; (try dsimp only at hSw); go_simp; (try with_reducible rfl))
  (try simp only [Act.put, List.setIfInBounds_toArray, List.set_cons_zero, List.set_cons_succ])
  refine wpAnyH_done (by kernel_rfl) ?_ _
  clear p0 p1 p2 p3 m0 m1 m2 m3
  go_wp2
  go_ret
  exact ⟨rfl, S3.out.below⟩
end Go.Proofs.Ytfjcbdpepbcjcaa
