/- Contract of HalveImage in the model. -/
import Derived.Test.YtcmjlpmdmejmaaaHlvI
set_option linter.unusedVariables false
set_option linter.unusedSimpArgs false
namespace Go
section
variable {P : Program} {ops : Array Oper} {Q : Exit → Act → World → Prop} {md : Region.Mode}
/-- A stronger condition from here on. -/
theorem wpAnyH_narrow {S S' : World → Prop} (hSS : ∀ w, S' w → S w) : ∀ (fuel : Nat) (listed : Array Bool) (a : Act) (w : World), wpAnyH P md ops Q S' fuel listed a w → wpAnyH P md ops Q S fuel listed a w
  | 0, _, _, _, h => h
  | fuel + 1, listed, a, w, h => ⟨h.1, fun i hi => wpOp_mono (fun a' w' h3 => ⟨hSS _ h3.1, wpAnyH_narrow hSS fuel _ _ _ h3.2⟩) (h.2 i hi)⟩
end
end Go
namespace Go.Proofs.Ytcmjlpmdmejmaaa
open Go.RowKit Go.Shelf
set_option linter.unusedSimpArgs false
set_option linter.unusedVariables false
set_option maxRecDepth 20000

theorem wr_natH {n : Nat} (h : n ≤ 100000) : IntKind.i64.wrap (n : Int) = (n : Int) := IntWalk.i64_in _ (by omega)
set_option maxHeartbeats 16000000 in
theorem s_HalveImage (W H P : Int) (A : Option Addr) (c : Nat) (xs : List Int) (w : World) (hx : Rds .i64 w w.heap.size A xs) (hl : xs.length ≤ 2000000) (hlc : xs.length ≤ c) :
    Calls Try.prog 8 #[.agg #[.int .i64 W, .int .i64 H, .int .i64 P, .slice A xs.length c]] w (MadeIf (hvOk W H P xs) (W / 2) (H / 2) P (hvL W.toNat H.toNat P.toNat xs) w) := by
  have HX := Lib.hid hx
  clear hx
  have S0 : GS w ((w.alloc (.cells #[.int .i64 W, .int .i64 H, .int .i64 P, .slice A xs.length c] 25)).alloc (.cells #[.int .i64 0, .int .i64 0, .int .i64 0, .slice none 0 0] 25)) [] [⟨(w.heap.size + 1), 25, #[.int .i64 0, .int .i64 0, .int .i64 0, .slice none 0 0]⟩, ⟨w.heap.size, 25, #[.int .i64 W, .int .i64 H, .int .i64 P, .slice A xs.length c]⟩] := GS.box' (GS.box' (GS.start w) 25 #[.int .i64 W, .int .i64 H, .int .i64 P, .slice A xs.length c] w.heap.size (by simp)) 25 #[.int .i64 0, .int .i64 0, .int .i64 0, .slice none 0 0] (w.heap.size + 1) (by simp)
  have HV : Hid (hvOk W H P xs = (vim W H P xs && (decide (W.tmod 2 = 0) && decide (H.tmod 2 = 0)))) := Lib.hid rfl
  have HS := Lib.hid S0
  clear S0
  cases hv : vim W H P xs
  · have Hv : Hid (hvOk W H P xs = false) := Lib.hid (by rw [HV.out, hv]; rfl)
    go_enter Try.func8, Try.ntmps8
    go_wp2_with fail
    generalize (w.alloc (.cells #[.int .i64 W, .int .i64 H, .int .i64 P, .slice A xs.length c] 25)).alloc (.cells #[.int .i64 0, .int .i64 0, .int .i64 0, .slice none 0 0] 25) = u0 at *
    refine (sVimg_any W H P A c xs u0 (HS.out.arg HX.out) hl).mono ?_
    rintro e u1 ⟨rfl, hB⟩
    have S1 := HS.out.call hB
    obtain ⟨d0, d1, d2, d3⟩ := S1.b1_4
    obtain ⟨r0, r1, r2, r3⟩ := S1.b0_4
    have f0 := S1.f0 0
    have f1 := S1.f0 1
    have f2 := S1.f0 2
    have f3 := S1.f0 3
    have HE := Lib.hid (S1.e0_4 (.int .i64 0) (.int .i64 0) (.int .i64 0) (.slice none 0 0))
    have HB := Lib.hid S1.below
    rw [hv]
    clear S1 HS hB
    go_wp2
    exact bodyPost_ret (v := .agg #[.int .i64 0, .int .i64 0, .int .i64 0, .slice none 0 0]) (by simp [results, Try.results8, go_sem, r0, r1, r2, r3]) rfl (MadeIf.no Hv.out ⟨_, rfl, World.ownsRow_nil _ _ _ _, by first | exact HE.out.1 | exact HB.out⟩)
  by_cases hW2 : W.tmod 2 = 0
  · by_cases hH2 : H.tmod 2 = 0
    · have Hv : Hid (hvOk W H P xs = true) := Lib.hid (by rw [HV.out, hv, decide_eq_true hW2, decide_eq_true hH2]; rfl)
      obtain ⟨W, H, P, rfl, rfl, rfl, hW1, hW, hH1, hH, hP1, hP, hln, hby⟩ := vim_nat hv
      rw [Int.tmod_eq_emod_of_nonneg (by omega)] at hW2 hH2
      obtain ⟨k, hWd⟩ : ∃ k, W = 2 * k := ⟨W / 2, by omega⟩
      obtain ⟨l, hHd⟩ : ∃ l, H = 2 * l := ⟨H / 2, by omega⟩
      have t1 : (W : Int).tmod 2 = 0 := by rw [Int.tmod_eq_emod_of_nonneg (by omega)]; omega
      have t2 : (H : Int).tmod 2 = 0 := by rw [Int.tmod_eq_emod_of_nonneg (by omega)]; omega
      have t3 : (W : Int).tdiv 2 = (k : Int) := by rw [Int.tdiv_eq_ediv_of_nonneg (by omega)]; omega
      have t4 : (H : Int).tdiv 2 = (l : Int) := by rw [Int.tdiv_eq_ediv_of_nonneg (by omega)]; omega
      have t5 : (W : Int) / 2 = (k : Int) := by omega
      have t6 : (H : Int) / 2 = (l : Int) := by omega
      have t7 : (W : Int) % 2 = 0 := by omega
      have t8 : (H : Int) % 2 = 0 := by omega
      have hk8 : k ≤ 16 := by omega
      have hl8 : l ≤ 16 := by omega
      have hk1 : 1 ≤ k := by omega
      have hl1 : 1 ≤ l := by omega
      have e1 : IntKind.i64.wrap (k : Int) = (k : Int) := IntWalk.i64_in _ (by omega)
      have e2 : IntKind.i64.wrap (l : Int) = (l : Int) := IntWalk.i64_in _ (by omega)
      have HLn := Lib.hid hln
      have HFp : Hid (∀ p, p < P → ∀ x y, x < W → y < H → 0 ≤ px W P xs x y p ∧ px W P xs x y p ≤ 255) := Lib.hid (fun p hp x y hx hy => hby _ (by
        have h1 := row_lt hx hy
        have := Nat.mul_le_mul_right P (show y * W + x + 1 ≤ W * H from h1)
        rw [Nat.add_mul, Nat.one_mul] at this
        show pix W P x y p < xs.length
        unfold pix; rw [hln]; omega))
      have HWd := Lib.hid hWd
      have HHd := Lib.hid hHd
      have Hvv := Lib.hid hv
      obtain ⟨L, hL⟩ : ∃ L, L = hvL W H P xs := ⟨_, rfl⟩
      have HL := Lib.hid hL
      have HL2 : Hid (L = img k l P (hvF (px W P xs))) := Lib.hid (by rw [hL]; unfold hvL; rw [show W / 2 = k by omega, show H / 2 = l by omega])
      rw [t5, t6, show ((W : Int).toNat) = W from rfl, show ((H : Int).toNat) = H from rfl, show ((P : Int).toNat) = P from rfl, ← hL]
      clear hv hWd hHd hW2 hH2 hln hby hL HV
      go_enter Try.func8, Try.ntmps8
      go_wp2_with fail
      generalize (w.alloc (.cells #[.int .i64 (W : Int), .int .i64 (H : Int), .int .i64 (P : Int), .slice A xs.length c] 25)).alloc (.cells #[.int .i64 0, .int .i64 0, .int .i64 0, .slice none 0 0] 25) = u0 at *
      refine (sVimg_any (W : Int) (H : Int) (P : Int) A c xs u0 (HS.out.arg HX.out) hl).mono ?_
      rintro e u1 ⟨rfl, hB⟩
      rw [Hvv.out]
      have S1 := HS.out.call hB
      obtain ⟨d0, d1, d2, d3⟩ := S1.b1_4
      have HS1 := Lib.hid S1
      clear hB HS S1
      go_wp2_with fail
      refine (newImage_any k l P hk8 hl8 hP u1).mono ?_
      rintro e u3 ⟨v3, rfl, hO3, hB3⟩
      have hzl : (zeros (k * l * P)).length = k * l * P := by simp [zeros]
      obtain ⟨g, c2, rfl, hg1, hg2⟩ := hO3.form (by rw [hzl]; exact Nat.mul_pos (Nat.mul_pos (by omega) (by omega)) hP1)
      have S3 := HS1.out.add hO3 hB3
      obtain ⟨n, hn⟩ : ∃ n, n = (zeros (k * l * P)).length := ⟨_, rfl⟩
      obtain ⟨lo3, hlo3⟩ : ∃ lo3, lo3 = u1.heap.size := ⟨_, rfl⟩
      obtain ⟨hi3, hhi3⟩ : ∃ hi3, hi3 = u3.heap.size := ⟨_, rfl⟩
      obtain ⟨b3, hb3⟩ : ∃ b3, b3 = u3.heap.size := ⟨_, rfl⟩
      rw [← hn, ← hlo3, ← hhi3] at S3
      have HLn2 : Hid (L.length = n) := Lib.hid (by rw [HL2.out, img_len, hn, hzl])
      have HNp : Hid (n = k * l * P) := Lib.hid (by rw [hn, hzl])
      have hab : k * l ≤ 256 := by have := Nat.mul_le_mul hk8 hl8; omega
      have hn1024 : n ≤ 1024 := by rw [hn, hzl]; have := Nat.mul_le_mul hab hP; omega
      have HI0 : Hid (GS w (u3.alloc (.cells #[.int .i64 (k : Int), .int .i64 (l : Int), .int .i64 (P : Int), .slice (some ⟨g, 0, none⟩) n c2] 25)) [ri lo3 hi3 (.slice (some ⟨g, 0, none⟩) n c2) (stk L n 0)] [⟨b3, 25, #[.int .i64 (k : Int), .int .i64 (l : Int), .int .i64 (P : Int), .slice (some ⟨g, 0, none⟩) n c2]⟩, ⟨w.heap.size + 1, 25, #[.int .i64 0, .int .i64 0, .int .i64 0, .slice none 0 0]⟩, ⟨w.heap.size, 25, #[.int .i64 (W : Int), .int .i64 (H : Int), .int .i64 (P : Int), .slice A xs.length c]⟩]) :=
        Lib.hid (by rw [show stk L n 0 = zeros (k * l * P) from stk_zero L n (k * l * P) HNp.out]; exact GS.box' S3 _ _ b3 hb3)
      rw [← hn]
      have HB3 := Lib.hid hb3
      clear hO3 hB3 HS1 S3 hzl hn hlo3 hhi3 hb3 hg1 hg2 d0 d1 d2 d3 t1 t2 t3 t4 t5 t6 t7 t8
      go_wp2
      (try rw [← HB3.out])
      go_loopw [4] (fun ii wr => ∃ (q : Nat), q ≤ n ∧ ii = .int .i64 (q : Int) ∧ Hid (GS w wr [ri lo3 hi3 (.slice (some ⟨g, 0, none⟩) n c2) (stk L n q)] [⟨b3, 25, #[.int .i64 (k : Int), .int .i64 (l : Int), .int .i64 (P : Int), .slice (some ⟨g, 0, none⟩) n c2]⟩, ⟨w.heap.size + 1, 25, #[.int .i64 0, .int .i64 0, .int .i64 0, .slice none 0 0]⟩, ⟨w.heap.size, 25, #[.int .i64 (W : Int), .int .i64 (H : Int), .int .i64 (P : Int), .slice A xs.length c]⟩])) (fun ii _ => n - (intOf ii).toNat)
      case atStart => exact ⟨0, Nat.zero_le _, rfl, HI0⟩
      case round =>
        clear HI0
        obtain ⟨q, hq, rfl, hI⟩ := hrel
        obtain ⟨o0, o1, o2, o3⟩ := hI.out.b0_4
        by_cases hqn : q < n
        · skip
          obtain ⟨m0, m1, m2, m3⟩ := hI.out.b2_4
          obtain ⟨p, hp⟩ : ∃ p, p = q % P := ⟨_, rfl⟩
          obtain ⟨d, hd⟩ : ∃ d, d = q / P := ⟨_, rfl⟩
          obtain ⟨xm, hxm⟩ : ∃ x, x = d % k := ⟨_, rfl⟩
          obtain ⟨ym, hym⟩ : ∃ y, y = d / k := ⟨_, rfl⟩
          have hpP : p < P := by rw [hp]; exact Nat.mod_lt _ hP1
          have hdk : d < k * l := by rw [hd, Nat.div_lt_iff_lt_mul hP1, ← HNp.out]; exact hqn
          have lxm : xm < k := by rw [hxm]; exact Nat.mod_lt _ hk1
          have lym : ym < l := by rw [hym, Nat.div_lt_iff_lt_mul hk1, Nat.mul_comm l k]; exact hdk
          have hqd : q = d * P + p := by rw [hd, hp]; exact (Nat.div_add_mod' q P).symm
          obtain ⟨X2, hX2⟩ : ∃ x, x = xm * 2 := ⟨_, rfl⟩
          obtain ⟨Y2, hY2⟩ : ∃ x, x = ym * 2 := ⟨_, rfl⟩
          obtain ⟨X3, hX3⟩ : ∃ x, x = X2 + 1 := ⟨_, rfl⟩
          obtain ⟨Y3, hY3⟩ : ∃ x, x = Y2 + 1 := ⟨_, rfl⟩
          have lX2 : X2 < W := by rw [HWd.out]; omega
          have lX3 : X3 < W := by rw [HWd.out]; omega
          have lY2 : Y2 < H := by rw [HHd.out]; omega
          have lY3 : Y3 < H := by rw [HHd.out]; omega
          obtain ⟨z1, hz1⟩ : ∃ z, z = (pxl W P xs X2 Y2).getD p 0 := ⟨_, rfl⟩
          obtain ⟨z2, hz2⟩ : ∃ z, z = (pxl W P xs X3 Y2).getD p 0 := ⟨_, rfl⟩
          obtain ⟨z3, hz3⟩ : ∃ z, z = (pxl W P xs X2 Y3).getD p 0 := ⟨_, rfl⟩
          obtain ⟨z4, hz4⟩ : ∃ z, z = (pxl W P xs X3 Y3).getD p 0 := ⟨_, rfl⟩
          have y1 : z1 = px W P xs X2 Y2 p := by rw [hz1]; exact img_pxc (H := H) hpP
          have y2 : z2 = px W P xs X3 Y2 p := by rw [hz2]; exact img_pxc (H := H) hpP
          have y3 : z3 = px W P xs X2 Y3 p := by rw [hz3]; exact img_pxc (H := H) hpP
          have y4 : z4 = px W P xs X3 Y3 p := by rw [hz4]; exact img_pxc (H := H) hpP
          have zb1 := HFp.out p hpP X2 Y2 lX2 lY2
          have zb2 := HFp.out p hpP X3 Y2 lX3 lY2
          have zb3 := HFp.out p hpP X2 Y3 lX2 lY3
          have zb4 := HFp.out p hpP X3 Y3 lX3 lY3
          rw [← y1] at zb1
          rw [← y2] at zb2
          rw [← y3] at zb3
          rw [← y4] at zb4
          obtain ⟨za1, zc1⟩ := zb1
          obtain ⟨za2, zc2⟩ := zb2
          obtain ⟨za3, zc3⟩ := zb3
          obtain ⟨za4, zc4⟩ := zb4
          have Hz1 := Lib.hid hz1
          have Hz2 := Lib.hid hz2
          have Hz3 := Lib.hid hz3
          have Hz4 := Lib.hid hz4
          obtain ⟨sm, hsm⟩ : ∃ s, s = z1 + z2 + z3 + z4 := ⟨_, rfl⟩
          obtain ⟨vq, hvq⟩ : ∃ v, v = (sm + 2) / 4 := ⟨_, rfl⟩
          have HVq : Hid (L.getD q 0 = vq) := Lib.hid (by
            rw [HL2.out, hqd, img_at _ hdk hpP, ← hxm, ← hym, hvq, hsm, y1, y2, y3, y4, hX3, hY3, hX2, hY2]
            show (px W P xs (2 * xm) (2 * ym) p + px W P xs (2 * xm + 1) (2 * ym) p + px W P xs (2 * xm) (2 * ym + 1) p + px W P xs (2 * xm + 1) (2 * ym + 1) p + 2) / 4 = _
            rw [Nat.mul_comm 2 xm, Nat.mul_comm 2 ym])
          have HSet : Hid ((stk L n q).set q vq = stk L n (q + 1)) := Lib.hid (by rw [← HVq.out]; exact stk_set L n q HLn2.out hqn)
          have a1 : (q : Int).tmod (P : Int) = (p : Int) := by rw [hp]; rfl
          have a2 : (q : Int).tdiv (P : Int) = (d : Int) := by rw [hd]; exact (Int.ofNat_tdiv _ _).symm
          have a3 : (d : Int).tmod (k : Int) = (xm : Int) := by rw [hxm]; rfl
          have a4 : (d : Int).tdiv (k : Int) = (ym : Int) := by rw [hym]; exact (Int.ofNat_tdiv _ _).symm
          have a5 : (xm : Int) * 2 = (X2 : Int) := by rw [hX2]; simp
          have a6 : (ym : Int) * 2 = (Y2 : Int) := by rw [hY2]; simp
          have a7 : (X2 : Int) + 1 = (X3 : Int) := by rw [hX3]; simp
          have a8 : (Y2 : Int) + 1 = (Y3 : Int) := by rw [hY3]; simp
          have hd1024 : d ≤ 1024 := by omega
          have b1 := wr_natH (n := p) (by omega)
          have b2 := wr_natH (n := d) (by omega)
          have b3' := wr_natH (n := xm) (by omega)
          have b4 := wr_natH (n := ym) (by omega)
          have b5 := wr_natH (n := X2) (by omega)
          have b6 := wr_natH (n := Y2) (by omega)
          have b7 := wr_natH (n := X3) (by omega)
          have b8 := wr_natH (n := Y3) (by omega)
          have s1 : IntKind.i64.wrap (z1 + z2) = z1 + z2 := IntWalk.i64_in _ (by omega)
          have s2 : IntKind.i64.wrap (z1 + z2 + z3) = z1 + z2 + z3 := IntWalk.i64_in _ (by omega)
          have s3 : z1 + z2 + z3 + z4 = sm := hsm.symm
          have s4 : IntKind.i64.wrap sm = sm := IntWalk.i64_in _ (by omega)
          have smb : 0 ≤ sm ∧ sm ≤ 1020 := by omega
          obtain ⟨sm0, sm1⟩ := smb
          have s5 : IntKind.i64.wrap (sm + 2) = sm + 2 := IntWalk.i64_in _ (by omega)
          have s6 : (sm + 2).tdiv 4 = vq := by rw [Int.tdiv_eq_ediv_of_nonneg (by omega)]; exact hvq.symm
          have s6' : (sm + 2) / 4 = vq := hvq.symm
          have s7 : IntKind.i64.wrap vq = vq := IntWalk.i64_in _ (by omega)
          have hne1 : ¬ (P = 0) := by omega
          have hne2 : ¬ (k = 0) := by omega
          have hne3 : ¬ ((P : Int) = 0) := by omega
          have hne4 : ¬ ((k : Int) = 0) := by omega
          have hqI : (q : Int) < (n : Int) := by omega
          have hpI : (p : Int) < (P : Int) := by omega
          have HI := Lib.hid hI.out
          clear hI hp hd hxm hym hqd hX2 hY2 hX3 hY3 hz1 hz2 hz3 hz4 y1 y2 y3 y4 hsm hvq
          go_wp2
          go_quiet (fail)
          have HI2 := Lib.hid (GS.drewN HI.out nq)
          clear HI m0 m1 m2 m3 o0 o1 o2 o3
          generalize wr.drewN nq = wr2 at *
          obtain ⟨m0, m1, m2, m3⟩ := HI2.out.b2_4
          obtain ⟨o0, o1, o2, o3⟩ := HI2.out.b0_4
          go_wp2
          go_quiet (fail)
          have HI3 := Lib.hid (GS.drewN HI2.out nq)
          clear HI2 m0 m1 m2 m3 o0 o1 o2 o3
          generalize wr2.drewN nq = wr3 at *
          have HC := Lib.hid (GS.drew HI3.out)
          obtain ⟨m0, m1, m2, m3⟩ := HI3.out.b2_4
          obtain ⟨o0, o1, o2, o3⟩ := HI3.out.b0_4
          clear HI3
          go_upto_region 10 with fail
          refine wp_region_held_drew (S := (fun w' => w'.cell? ⟨w.heap.size, 0, none⟩ = some (.int .i64 (W : Int)) ∧ w'.cell? ⟨w.heap.size, 1, none⟩ = some (.int .i64 (H : Int)) ∧ w'.cell? ⟨w.heap.size, 2, none⟩ = some (.int .i64 (P : Int)) ∧ w'.cell? ⟨w.heap.size, 3, none⟩ = some (.slice A xs.length c))) (by kernel_rfl) (by exact HC.out.b2_4) (fun hHeld => ?_)
          refine' wpAnyH_take (i := 0) (oi := _) (v := _) ?hi1 (by kernel_rfl) (by kernel_rfl) (by kernel_rfl) ?hq1 (Or.inl ⟨?hw1, ?hy1⟩) (by assumption) ?rest1
          case hi1 => (simp only [List.getElem?_toArray, List.getElem?_cons_succ, List.getElem?_cons_zero]; rfl)
          case hq1 => exact fun _ _ _ h => h
          case hw1 => rfl
          case hy1 => (intro wq hSw; (try dsimp only at hSw); go_simp; (try with_reducible rfl))
          (try simp only [Act.put, List.setIfInBounds_toArray, List.set_cons_zero, List.set_cons_succ])
          refine' wpAnyH_take (i := 1) (oi := _) (v := _) ?hi2 (by kernel_rfl) (by kernel_rfl) (by kernel_rfl) ?hq2 (Or.inl ⟨?hw2, ?hy2⟩) (by assumption) ?rest2
          case hi2 => (simp only [List.getElem?_toArray, List.getElem?_cons_succ, List.getElem?_cons_zero]; rfl)
          case hq2 => exact fun _ _ _ h => h
          case hw2 => rfl
          case hy2 => (intro wq hSw; (try dsimp only at hSw); go_simp; (try with_reducible rfl))
          (try simp only [Act.put, List.setIfInBounds_toArray, List.set_cons_zero, List.set_cons_succ])
          refine' wpAnyH_take (i := 2) (oi := _) (v := _) ?hi3 (by kernel_rfl) (by kernel_rfl) (by kernel_rfl) ?hq3 (Or.inl ⟨?hw3, ?hy3⟩) (by assumption) ?rest3
          case hi3 => (simp only [List.getElem?_toArray, List.getElem?_cons_succ, List.getElem?_cons_zero]; rfl)
          case hq3 => exact fun _ _ _ h => h
          case hw3 => rfl
          case hy3 => (intro wq hSw; (try dsimp only at hSw); go_simp; (try with_reducible rfl))
          (try simp only [Act.put, List.setIfInBounds_toArray, List.set_cons_zero, List.set_cons_succ])
          refine' wpAnyH_take (i := 4) (oi := _) (v := _) ?hi4 (by kernel_rfl) (by kernel_rfl) (by kernel_rfl) ?hq4 (Or.inl ⟨?hw4, ?hy4⟩) (by assumption) ?rest4
          case hi4 => (simp only [List.getElem?_toArray, List.getElem?_cons_succ, List.getElem?_cons_zero]; rfl)
          case hq4 => exact fun _ _ _ h => h
          case hw4 => rfl
          case hy4 => (intro wq hSw; (try dsimp only at hSw); go_simp; (try with_reducible rfl))
          (try simp only [Act.put, List.setIfInBounds_toArray, List.set_cons_zero, List.set_cons_succ])
          refine' wpAnyH_take (i := 7) (oi := _) (v := _) ?hi5 (by kernel_rfl) (by kernel_rfl) (by kernel_rfl) ?hq5 (Or.inl ⟨?hw5, ?hy5⟩) (by assumption) ?rest5
          case hi5 => (simp only [List.getElem?_toArray, List.getElem?_cons_succ, List.getElem?_cons_zero]; rfl)
          case hq5 => exact fun _ _ _ h => h
          case hw5 => rfl
          case hy5 => (intro wq hSw; (try dsimp only at hSw); go_simp; (try with_reducible rfl))
          (try simp only [Act.put, List.setIfInBounds_toArray, List.set_cons_zero, List.set_cons_succ])
          refine' wpAnyH_take (i := 8) (oi := _) (v := _) ?hi6 (by kernel_rfl) (by kernel_rfl) (by kernel_rfl) ?hq6 (Or.inl ⟨?hw6, ?hy6⟩) (by assumption) ?rest6
          case hi6 => (simp only [List.getElem?_toArray, List.getElem?_cons_succ, List.getElem?_cons_zero]; rfl)
          case hq6 => exact fun _ _ _ h => h
          case hw6 => rfl
          case hy6 => (intro wq hSw; (try dsimp only at hSw); go_simp; (try with_reducible rfl))
          (try simp only [Act.put, List.setIfInBounds_toArray, List.set_cons_zero, List.set_cons_succ])
          refine' wpAnyH_take (i := 9) (oi := _) (v := _) ?hi7 (by kernel_rfl) (by kernel_rfl) (by kernel_rfl) ?hq7 (Or.inl ⟨?hw7, ?hy7⟩) (by assumption) ?rest7
          case hi7 => (simp only [List.getElem?_toArray, List.getElem?_cons_succ, List.getElem?_cons_zero]; rfl)
          case hq7 => exact fun _ _ _ h => h
          case hw7 => rfl
          case hy7 => (intro wq hSw; (try dsimp only at hSw); go_simp; (try with_reducible rfl))
          (try simp only [Act.put, List.setIfInBounds_toArray, List.set_cons_zero, List.set_cons_succ])
          refine' wpAnyH_take (i := 10) (oi := _) (v := _) ?hi8 (by kernel_rfl) (by kernel_rfl) (by kernel_rfl) ?hq8 (Or.inl ⟨?hw8, ?hy8⟩) (by assumption) ?rest8
          case hi8 => (simp only [List.getElem?_toArray, List.getElem?_cons_succ, List.getElem?_cons_zero]; rfl)
          case hq8 => exact fun _ _ _ h => h
          case hw8 => rfl
          case hy8 => (intro wq hSw; (try dsimp only at hSw); go_simp; (try with_reducible rfl))
          (try simp only [Act.put, List.setIfInBounds_toArray, List.set_cons_zero, List.set_cons_succ])
          refine' wpAnyH_take (i := 12) (oi := _) (v := _) ?hi9 (by kernel_rfl) (by kernel_rfl) (by kernel_rfl) ?hq9 (Or.inl ⟨?hw9, ?hy9⟩) (by assumption) ?rest9
          case hi9 => (simp only [List.getElem?_toArray, List.getElem?_cons_succ, List.getElem?_cons_zero]; rfl)
          case hq9 => exact fun _ _ _ h => h
          case hw9 => rfl
          case hy9 => (intro wq hSw; (try dsimp only at hSw); go_simp; (try with_reducible rfl))
          (try simp only [Act.put, List.setIfInBounds_toArray, List.set_cons_zero, List.set_cons_succ])
          refine' wpAnyH_take (i := 16) (oi := _) (v := _) ?hi10 (by kernel_rfl) (by kernel_rfl) (by kernel_rfl) ?hq10 (Or.inl ⟨?hw10, ?hy10⟩) (by assumption) ?rest10
          case hi10 => (simp only [List.getElem?_toArray, List.getElem?_cons_succ, List.getElem?_cons_zero]; rfl)
          case hq10 => exact fun _ _ _ h => h
          case hw10 => rfl
          case hy10 => (intro wq hSw; (try dsimp only at hSw); go_simp; (try with_reducible rfl))
          (try simp only [Act.put, List.setIfInBounds_toArray, List.set_cons_zero, List.set_cons_succ])
          refine' wpAnyH_take (i := 17) (oi := _) (v := _) ?hi11 (by kernel_rfl) (by kernel_rfl) (by kernel_rfl) ?hq11 (Or.inl ⟨?hw11, ?hy11⟩) (by assumption) ?rest11
          case hi11 => (simp only [List.getElem?_toArray, List.getElem?_cons_succ, List.getElem?_cons_zero]; rfl)
          case hq11 => exact fun _ _ _ h => h
          case hw11 => rfl
          case hy11 => (intro wq hSw; (try dsimp only at hSw); go_simp; (try with_reducible rfl))
          (try simp only [Act.put, List.setIfInBounds_toArray, List.set_cons_zero, List.set_cons_succ])
          refine' wpAnyH_take (i := 18) (oi := _) (v := _) ?hi12 (by kernel_rfl) (by kernel_rfl) (by kernel_rfl) ?hq12 (Or.inl ⟨?hw12, ?hy12⟩) (by assumption) ?rest12
          case hi12 => (simp only [List.getElem?_toArray, List.getElem?_cons_succ, List.getElem?_cons_zero]; rfl)
          case hq12 => exact fun _ _ _ h => h
          case hw12 => rfl
          case hy12 => (intro wq hSw; (try dsimp only at hSw); go_simp; (try with_reducible rfl))
          (try simp only [Act.put, List.setIfInBounds_toArray, List.set_cons_zero, List.set_cons_succ])
          refine' wpAnyH_take (i := 19) (oi := _) (v := _) ?hi13 (by kernel_rfl) (by kernel_rfl) (by kernel_rfl) ?hq13 (Or.inl ⟨?hw13, ?hy13⟩) (by assumption) ?rest13
          case hi13 => (simp only [List.getElem?_toArray, List.getElem?_cons_succ, List.getElem?_cons_zero]; rfl)
          case hq13 => exact fun _ _ _ h => h
          case hw13 => rfl
          case hy13 => (intro wq hSw; (try dsimp only at hSw); go_simp; (try with_reducible rfl))
          (try simp only [Act.put, List.setIfInBounds_toArray, List.set_cons_zero, List.set_cons_succ])
          refine' wpAnyH_take (i := 21) (oi := _) (v := _) ?hi14 (by kernel_rfl) (by kernel_rfl) (by kernel_rfl) ?hq14 (Or.inl ⟨?hw14, ?hy14⟩) (by assumption) ?rest14
          case hi14 => (simp only [List.getElem?_toArray, List.getElem?_cons_succ, List.getElem?_cons_zero]; rfl)
          case hq14 => exact fun _ _ _ h => h
          case hw14 => rfl
          case hy14 => (intro wq hSw; (try dsimp only at hSw); go_simp; (try with_reducible rfl))
          (try simp only [Act.put, List.setIfInBounds_toArray, List.set_cons_zero, List.set_cons_succ])
          refine' wpAnyH_take (i := 25) (oi := _) (v := _) ?hi15 (by kernel_rfl) (by kernel_rfl) (by kernel_rfl) ?hq15 (Or.inl ⟨?hw15, ?hy15⟩) (by assumption) ?rest15
          case hi15 => (simp only [List.getElem?_toArray, List.getElem?_cons_succ, List.getElem?_cons_zero]; rfl)
          case hq15 => exact fun _ _ _ h => h
          case hw15 => rfl
          case hy15 => (intro wq hSw; (try dsimp only at hSw); go_simp; (try with_reducible rfl))
          (try simp only [Act.put, List.setIfInBounds_toArray, List.set_cons_zero, List.set_cons_succ])
          refine' wpAnyH_take (i := 26) (oi := _) (v := _) ?hi16 (by kernel_rfl) (by kernel_rfl) (by kernel_rfl) ?hq16 (Or.inl ⟨?hw16, ?hy16⟩) (by assumption) ?rest16
          case hi16 => (simp only [List.getElem?_toArray, List.getElem?_cons_succ, List.getElem?_cons_zero]; rfl)
          case hq16 => exact fun _ _ _ h => h
          case hw16 => rfl
          case hy16 => (intro wq hSw; (try dsimp only at hSw); go_simp; (try with_reducible rfl))
          (try simp only [Act.put, List.setIfInBounds_toArray, List.set_cons_zero, List.set_cons_succ])
          refine' wpAnyH_take (i := 27) (oi := _) (v := _) ?hi17 (by kernel_rfl) (by kernel_rfl) (by kernel_rfl) ?hq17 (Or.inl ⟨?hw17, ?hy17⟩) (by assumption) ?rest17
          case hi17 => (simp only [List.getElem?_toArray, List.getElem?_cons_succ, List.getElem?_cons_zero]; rfl)
          case hq17 => exact fun _ _ _ h => h
          case hw17 => rfl
          case hy17 => (intro wq hSw; (try dsimp only at hSw); go_simp; (try with_reducible rfl))
          (try simp only [Act.put, List.setIfInBounds_toArray, List.set_cons_zero, List.set_cons_succ])
          refine' wpAnyH_take (i := 28) (oi := _) (v := _) ?hi18 (by kernel_rfl) (by kernel_rfl) (by kernel_rfl) ?hq18 (Or.inl ⟨?hw18, ?hy18⟩) (by assumption) ?rest18
          case hi18 => (simp only [List.getElem?_toArray, List.getElem?_cons_succ, List.getElem?_cons_zero]; rfl)
          case hq18 => exact fun _ _ _ h => h
          case hw18 => rfl
          case hy18 => (intro wq hSw; (try dsimp only at hSw); go_simp; (try with_reducible rfl))
          (try simp only [Act.put, List.setIfInBounds_toArray, List.set_cons_zero, List.set_cons_succ])
          refine' wpAnyH_take (i := 29) (oi := _) (v := _) ?hi19 (by kernel_rfl) (by kernel_rfl) (by kernel_rfl) ?hq19 (Or.inl ⟨?hw19, ?hy19⟩) (by assumption) ?rest19
          case hi19 => (simp only [List.getElem?_toArray, List.getElem?_cons_succ, List.getElem?_cons_zero]; rfl)
          case hq19 => exact fun _ _ _ h => h
          case hw19 => rfl
          case hy19 => (intro wq hSw; (try dsimp only at hSw); go_simp; (try with_reducible rfl))
          (try simp only [Act.put, List.setIfInBounds_toArray, List.set_cons_zero, List.set_cons_succ])
          refine' wpAnyH_take (i := 31) (oi := _) (v := _) ?hi20 (by kernel_rfl) (by kernel_rfl) (by kernel_rfl) ?hq20 (Or.inl ⟨?hw20, ?hy20⟩) (by assumption) ?rest20
          case hi20 => (simp only [List.getElem?_toArray, List.getElem?_cons_succ, List.getElem?_cons_zero]; rfl)
          case hq20 => exact fun _ _ _ h => h
          case hw20 => rfl
          case hy20 => (intro wq hSw; (try dsimp only at hSw); go_simp; (try with_reducible rfl))
          (try simp only [Act.put, List.setIfInBounds_toArray, List.set_cons_zero, List.set_cons_succ])
          refine wpAnyH_ready (rs := [3]) (by kernel_rfl) (by simp) ?_
          refine' AllReadyH.cons (o := _) ?hi21 (fun K hK => ?rest21) AllReadyH.nil
          case hi21 => (simp only [List.getElem?_toArray, List.getElem?_cons_succ, List.getElem?_cons_zero]; rfl)
          go_simp
          go_at_call 23
          refine (pixelAt_of W H P hW hH hP1 hP A c xs HLn.out hlc X2 Y2 lX2 lY2 _ _ rfl rfl _ (by exact HC.out.arg HX.out)).mono ?_
          rintro e w5 ⟨v5, rfl, hO5, hB5⟩
          obtain ⟨g5, c5, rfl, _, hg5⟩ := hO5.form (by rw [pxl_len]; omega)
          have k1 := hO5.cell rfl (j := p) (by rw [pxl_len]; exact hpP)
          rw [← Hz1.out] at k1
          rw [pxl_len]
          have HD := Lib.hid (GS.call HC.out hB5)
          clear HC hO5 hB5
          have HC := HD
          clear HD
          go_wp2_with fail
          refine hK.out _ _ (by (try dsimp only); exact HC.out.b2_4) (fun hHeld => ?_)
          clear hK K
          (try simp only [Act.put, List.setIfInBounds_toArray, List.set_cons_zero, List.set_cons_succ])
          have hHeld := (show (fun w' => (w'.cell? ⟨w.heap.size, 0, none⟩ = some (.int .i64 (W : Int)) ∧ w'.cell? ⟨w.heap.size, 1, none⟩ = some (.int .i64 (H : Int)) ∧ w'.cell? ⟨w.heap.size, 2, none⟩ = some (.int .i64 (P : Int)) ∧ w'.cell? ⟨w.heap.size, 3, none⟩ = some (.slice A xs.length c)) ∧ w'.cell? ⟨g5, p, none⟩ = some (.int .i64 z1)) w5 from ⟨hHeld, k1⟩)
          refine wpAnyH_narrow (S' := (fun w' => (w'.cell? ⟨w.heap.size, 0, none⟩ = some (.int .i64 (W : Int)) ∧ w'.cell? ⟨w.heap.size, 1, none⟩ = some (.int .i64 (H : Int)) ∧ w'.cell? ⟨w.heap.size, 2, none⟩ = some (.int .i64 (P : Int)) ∧ w'.cell? ⟨w.heap.size, 3, none⟩ = some (.slice A xs.length c)) ∧ w'.cell? ⟨g5, p, none⟩ = some (.int .i64 z1))) (fun _ h => h.1) _ _ _ _ ?_
          refine' wpAnyH_take (i := 5) (oi := _) (v := _) ?hi22 (by kernel_rfl) (by kernel_rfl) (by kernel_rfl) ?hq22 (Or.inl ⟨?hw22, ?hy22⟩) (by assumption) ?rest22
          case hi22 => (simp only [List.getElem?_toArray, List.getElem?_cons_succ, List.getElem?_cons_zero]; rfl)
          case hq22 => exact fun _ _ _ h => h
          case hw22 => rfl
          case hy22 => (intro wq hSw; (try dsimp only at hSw); go_simp; (try with_reducible rfl))
          (try simp only [Act.put, List.setIfInBounds_toArray, List.set_cons_zero, List.set_cons_succ])
          refine' wpAnyH_take (i := 6) (oi := _) (v := _) ?hi23 (by kernel_rfl) (by kernel_rfl) (by kernel_rfl) ?hq23 (Or.inl ⟨?hw23, ?hy23⟩) (by assumption) ?rest23
          case hi23 => (simp only [List.getElem?_toArray, List.getElem?_cons_succ, List.getElem?_cons_zero]; rfl)
          case hq23 => exact fun _ _ _ h => h
          case hw23 => rfl
          case hy23 => (intro wq hSw; (try dsimp only at hSw); go_simp; (try with_reducible rfl))
          (try simp only [Act.put, List.setIfInBounds_toArray, List.set_cons_zero, List.set_cons_succ])
          refine wpAnyH_ready (rs := [11]) (by kernel_rfl) (by simp) ?_
          refine' AllReadyH.cons (o := _) ?hi24 (fun K hK => ?rest24) AllReadyH.nil
          case hi24 => (simp only [List.getElem?_toArray, List.getElem?_cons_succ, List.getElem?_cons_zero]; rfl)
          go_simp
          go_at_call 23
          refine (pixelAt_of W H P hW hH hP1 hP A c xs HLn.out hlc X3 Y2 lX3 lY2 _ _ rfl rfl _ (by exact HC.out.arg HX.out)).mono ?_
          rintro e w6 ⟨v6, rfl, hO6, hB6⟩
          obtain ⟨g6, c6, rfl, _, hg6⟩ := hO6.form (by rw [pxl_len]; omega)
          have k2 := hO6.cell rfl (j := p) (by rw [pxl_len]; exact hpP)
          rw [← Hz2.out] at k2
          rw [pxl_len]
          have k1 := (hB6.cell (p := ⟨g5, p, none⟩) (by have := hg5; omega)).trans k1
          have hg5 := Nat.lt_of_lt_of_le hg5 hB6.size
          have HD := Lib.hid (GS.call HC.out hB6)
          clear HC hO6 hB6
          have HC := HD
          clear HD
          go_wp2_with fail
          refine hK.out _ _ (by (try dsimp only); exact ⟨HC.out.b2_4, k1⟩) (fun hHeld => ?_)
          clear hK K
          (try simp only [Act.put, List.setIfInBounds_toArray, List.set_cons_zero, List.set_cons_succ])
          have hHeld := (show (fun w' => ((w'.cell? ⟨w.heap.size, 0, none⟩ = some (.int .i64 (W : Int)) ∧ w'.cell? ⟨w.heap.size, 1, none⟩ = some (.int .i64 (H : Int)) ∧ w'.cell? ⟨w.heap.size, 2, none⟩ = some (.int .i64 (P : Int)) ∧ w'.cell? ⟨w.heap.size, 3, none⟩ = some (.slice A xs.length c)) ∧ w'.cell? ⟨g5, p, none⟩ = some (.int .i64 z1)) ∧ w'.cell? ⟨g6, p, none⟩ = some (.int .i64 z2)) w6 from ⟨hHeld, k2⟩)
          refine wpAnyH_narrow (S' := (fun w' => ((w'.cell? ⟨w.heap.size, 0, none⟩ = some (.int .i64 (W : Int)) ∧ w'.cell? ⟨w.heap.size, 1, none⟩ = some (.int .i64 (H : Int)) ∧ w'.cell? ⟨w.heap.size, 2, none⟩ = some (.int .i64 (P : Int)) ∧ w'.cell? ⟨w.heap.size, 3, none⟩ = some (.slice A xs.length c)) ∧ w'.cell? ⟨g5, p, none⟩ = some (.int .i64 z1)) ∧ w'.cell? ⟨g6, p, none⟩ = some (.int .i64 z2))) (fun _ h => h.1) _ _ _ _ ?_
          refine' wpAnyH_take (i := 13) (oi := _) (v := _) ?hi25 (by kernel_rfl) (by kernel_rfl) (by kernel_rfl) ?hq25 (Or.inl ⟨?hw25, ?hy25⟩) (by assumption) ?rest25
          case hi25 => (simp only [List.getElem?_toArray, List.getElem?_cons_succ, List.getElem?_cons_zero]; rfl)
          case hq25 => exact fun _ _ _ h => h
          case hw25 => rfl
          case hy25 => (intro wq hSw; (try dsimp only at hSw); go_simp; (try with_reducible rfl))
          (try simp only [Act.put, List.setIfInBounds_toArray, List.set_cons_zero, List.set_cons_succ])
          refine' wpAnyH_take (i := 14) (oi := _) (v := _) ?hi26 (by kernel_rfl) (by kernel_rfl) (by kernel_rfl) ?hq26 (Or.inl ⟨?hw26, ?hy26⟩) (by assumption) ?rest26
          case hi26 => (simp only [List.getElem?_toArray, List.getElem?_cons_succ, List.getElem?_cons_zero]; rfl)
          case hq26 => exact fun _ _ _ h => h
          case hw26 => rfl
          case hy26 => (intro wq hSw; (try dsimp only at hSw); go_simp; (try with_reducible rfl))
          (try simp only [Act.put, List.setIfInBounds_toArray, List.set_cons_zero, List.set_cons_succ])
          refine' wpAnyH_take (i := 15) (oi := _) (v := _) ?hi27 (by kernel_rfl) (by kernel_rfl) (by kernel_rfl) ?hq27 (Or.inl ⟨?hw27, ?hy27⟩) (by assumption) ?rest27
          case hi27 => (simp only [List.getElem?_toArray, List.getElem?_cons_succ, List.getElem?_cons_zero]; rfl)
          case hq27 => exact fun _ _ _ h => h
          case hw27 => rfl
          case hy27 => (intro wq hSw; (try dsimp only at hSw); go_simp; (try with_reducible rfl))
          (try simp only [Act.put, List.setIfInBounds_toArray, List.set_cons_zero, List.set_cons_succ])
          refine wpAnyH_ready (rs := [20]) (by kernel_rfl) (by simp) ?_
          refine' AllReadyH.cons (o := _) ?hi28 (fun K hK => ?rest28) AllReadyH.nil
          case hi28 => (simp only [List.getElem?_toArray, List.getElem?_cons_succ, List.getElem?_cons_zero]; rfl)
          go_simp
          go_at_call 23
          refine (pixelAt_of W H P hW hH hP1 hP A c xs HLn.out hlc X2 Y3 lX2 lY3 _ _ rfl rfl _ (by exact HC.out.arg HX.out)).mono ?_
          rintro e w7 ⟨v7, rfl, hO7, hB7⟩
          obtain ⟨g7, c7, rfl, _, hg7⟩ := hO7.form (by rw [pxl_len]; omega)
          have k3 := hO7.cell rfl (j := p) (by rw [pxl_len]; exact hpP)
          rw [← Hz3.out] at k3
          rw [pxl_len]
          have k1 := (hB7.cell (p := ⟨g5, p, none⟩) (by have := hg5; omega)).trans k1
          have k2 := (hB7.cell (p := ⟨g6, p, none⟩) (by have := hg6; omega)).trans k2
          have hg5 := Nat.lt_of_lt_of_le hg5 hB7.size
          have hg6 := Nat.lt_of_lt_of_le hg6 hB7.size
          have HD := Lib.hid (GS.call HC.out hB7)
          clear HC hO7 hB7
          have HC := HD
          clear HD
          go_wp2_with fail
          refine hK.out _ _ (by (try dsimp only); exact ⟨⟨HC.out.b2_4, k1⟩, k2⟩) (fun hHeld => ?_)
          clear hK K
          (try simp only [Act.put, List.setIfInBounds_toArray, List.set_cons_zero, List.set_cons_succ])
          have hHeld := (show (fun w' => (((w'.cell? ⟨w.heap.size, 0, none⟩ = some (.int .i64 (W : Int)) ∧ w'.cell? ⟨w.heap.size, 1, none⟩ = some (.int .i64 (H : Int)) ∧ w'.cell? ⟨w.heap.size, 2, none⟩ = some (.int .i64 (P : Int)) ∧ w'.cell? ⟨w.heap.size, 3, none⟩ = some (.slice A xs.length c)) ∧ w'.cell? ⟨g5, p, none⟩ = some (.int .i64 z1)) ∧ w'.cell? ⟨g6, p, none⟩ = some (.int .i64 z2)) ∧ w'.cell? ⟨g7, p, none⟩ = some (.int .i64 z3)) w7 from ⟨hHeld, k3⟩)
          refine wpAnyH_narrow (S' := (fun w' => (((w'.cell? ⟨w.heap.size, 0, none⟩ = some (.int .i64 (W : Int)) ∧ w'.cell? ⟨w.heap.size, 1, none⟩ = some (.int .i64 (H : Int)) ∧ w'.cell? ⟨w.heap.size, 2, none⟩ = some (.int .i64 (P : Int)) ∧ w'.cell? ⟨w.heap.size, 3, none⟩ = some (.slice A xs.length c)) ∧ w'.cell? ⟨g5, p, none⟩ = some (.int .i64 z1)) ∧ w'.cell? ⟨g6, p, none⟩ = some (.int .i64 z2)) ∧ w'.cell? ⟨g7, p, none⟩ = some (.int .i64 z3))) (fun _ h => h.1) _ _ _ _ ?_
          refine' wpAnyH_take (i := 22) (oi := _) (v := _) ?hi29 (by kernel_rfl) (by kernel_rfl) (by kernel_rfl) ?hq29 (Or.inl ⟨?hw29, ?hy29⟩) (by assumption) ?rest29
          case hi29 => (simp only [List.getElem?_toArray, List.getElem?_cons_succ, List.getElem?_cons_zero]; rfl)
          case hq29 => exact fun _ _ _ h => h
          case hw29 => rfl
          case hy29 => (intro wq hSw; (try dsimp only at hSw); go_simp; (try with_reducible rfl))
          (try simp only [Act.put, List.setIfInBounds_toArray, List.set_cons_zero, List.set_cons_succ])
          refine' wpAnyH_take (i := 23) (oi := _) (v := _) ?hi30 (by kernel_rfl) (by kernel_rfl) (by kernel_rfl) ?hq30 (Or.inl ⟨?hw30, ?hy30⟩) (by assumption) ?rest30
          case hi30 => (simp only [List.getElem?_toArray, List.getElem?_cons_succ, List.getElem?_cons_zero]; rfl)
          case hq30 => exact fun _ _ _ h => h
          case hw30 => rfl
          case hy30 => (intro wq hSw; (try dsimp only at hSw); go_simp; (try with_reducible rfl))
          (try simp only [Act.put, List.setIfInBounds_toArray, List.set_cons_zero, List.set_cons_succ])
          refine' wpAnyH_take (i := 24) (oi := _) (v := _) ?hi31 (by kernel_rfl) (by kernel_rfl) (by kernel_rfl) ?hq31 (Or.inl ⟨?hw31, ?hy31⟩) (by assumption) ?rest31
          case hi31 => (simp only [List.getElem?_toArray, List.getElem?_cons_succ, List.getElem?_cons_zero]; rfl)
          case hq31 => exact fun _ _ _ h => h
          case hw31 => rfl
          case hy31 => (intro wq hSw; (try dsimp only at hSw); go_simp; (try with_reducible rfl))
          (try simp only [Act.put, List.setIfInBounds_toArray, List.set_cons_zero, List.set_cons_succ])
          refine wpAnyH_ready (rs := [30]) (by kernel_rfl) (by simp) ?_
          refine' AllReadyH.cons (o := _) ?hi32 (fun K hK => ?rest32) AllReadyH.nil
          case hi32 => (simp only [List.getElem?_toArray, List.getElem?_cons_succ, List.getElem?_cons_zero]; rfl)
          go_simp
          go_at_call 23
          refine (pixelAt_of W H P hW hH hP1 hP A c xs HLn.out hlc X3 Y3 lX3 lY3 _ _ rfl rfl _ (by exact HC.out.arg HX.out)).mono ?_
          rintro e w8 ⟨v8, rfl, hO8, hB8⟩
          obtain ⟨g8, c8, rfl, _, hg8⟩ := hO8.form (by rw [pxl_len]; omega)
          have k4 := hO8.cell rfl (j := p) (by rw [pxl_len]; exact hpP)
          rw [← Hz4.out] at k4
          rw [pxl_len]
          have k1 := (hB8.cell (p := ⟨g5, p, none⟩) (by have := hg5; omega)).trans k1
          have k2 := (hB8.cell (p := ⟨g6, p, none⟩) (by have := hg6; omega)).trans k2
          have k3 := (hB8.cell (p := ⟨g7, p, none⟩) (by have := hg7; omega)).trans k3
          have hg5 := Nat.lt_of_lt_of_le hg5 hB8.size
          have hg6 := Nat.lt_of_lt_of_le hg6 hB8.size
          have hg7 := Nat.lt_of_lt_of_le hg7 hB8.size
          have HD := Lib.hid (GS.call HC.out hB8)
          clear HC hO8 hB8
          have HC := HD
          clear HD
          go_wp2_with fail
          refine hK.out _ _ (by (try dsimp only); exact ⟨⟨⟨HC.out.b2_4, k1⟩, k2⟩, k3⟩) (fun hHeld => ?_)
          clear hK K
          (try simp only [Act.put, List.setIfInBounds_toArray, List.set_cons_zero, List.set_cons_succ])
          have hHeld := (show (fun w' => ((((w'.cell? ⟨w.heap.size, 0, none⟩ = some (.int .i64 (W : Int)) ∧ w'.cell? ⟨w.heap.size, 1, none⟩ = some (.int .i64 (H : Int)) ∧ w'.cell? ⟨w.heap.size, 2, none⟩ = some (.int .i64 (P : Int)) ∧ w'.cell? ⟨w.heap.size, 3, none⟩ = some (.slice A xs.length c)) ∧ w'.cell? ⟨g5, p, none⟩ = some (.int .i64 z1)) ∧ w'.cell? ⟨g6, p, none⟩ = some (.int .i64 z2)) ∧ w'.cell? ⟨g7, p, none⟩ = some (.int .i64 z3)) ∧ w'.cell? ⟨g8, p, none⟩ = some (.int .i64 z4)) w8 from ⟨hHeld, k4⟩)
          refine wpAnyH_narrow (S' := (fun w' => ((((w'.cell? ⟨w.heap.size, 0, none⟩ = some (.int .i64 (W : Int)) ∧ w'.cell? ⟨w.heap.size, 1, none⟩ = some (.int .i64 (H : Int)) ∧ w'.cell? ⟨w.heap.size, 2, none⟩ = some (.int .i64 (P : Int)) ∧ w'.cell? ⟨w.heap.size, 3, none⟩ = some (.slice A xs.length c)) ∧ w'.cell? ⟨g5, p, none⟩ = some (.int .i64 z1)) ∧ w'.cell? ⟨g6, p, none⟩ = some (.int .i64 z2)) ∧ w'.cell? ⟨g7, p, none⟩ = some (.int .i64 z3)) ∧ w'.cell? ⟨g8, p, none⟩ = some (.int .i64 z4))) (fun _ h => h.1) _ _ _ _ ?_
          refine' wpAnyH_take (i := 32) (oi := _) (v := _) ?hi33 (by kernel_rfl) (by kernel_rfl) (by kernel_rfl) ?hq33 (Or.inl ⟨?hw33, ?hy33⟩) (by assumption) ?rest33
          case hi33 => (simp only [List.getElem?_toArray, List.getElem?_cons_succ, List.getElem?_cons_zero]; rfl)
          case hq33 => exact fun _ _ _ h => h
          case hw33 => rfl
          case hy33 => (intro wq hSw; (try dsimp only at hSw); go_simp; (try with_reducible rfl))
          (try simp only [Act.put, List.setIfInBounds_toArray, List.set_cons_zero, List.set_cons_succ])
          refine' wpAnyH_take (i := 33) (oi := _) (v := _) ?hi34 (by kernel_rfl) (by kernel_rfl) (by kernel_rfl) ?hq34 (Or.inl ⟨?hw34, ?hy34⟩) (by assumption) ?rest34
          case hi34 => (simp only [List.getElem?_toArray, List.getElem?_cons_succ, List.getElem?_cons_zero]; rfl)
          case hq34 => exact fun _ _ _ h => h
          case hw34 => rfl
          case hy34 => (intro wq hSw; (try dsimp only at hSw); go_simp; (try with_reducible rfl))
          (try simp only [Act.put, List.setIfInBounds_toArray, List.set_cons_zero, List.set_cons_succ])
          refine' wpAnyH_take (i := 34) (oi := _) (v := _) ?hi35 (by kernel_rfl) (by kernel_rfl) (by kernel_rfl) ?hq35 (Or.inl ⟨?hw35, ?hy35⟩) (by assumption) ?rest35
          case hi35 => (simp only [List.getElem?_toArray, List.getElem?_cons_succ, List.getElem?_cons_zero]; rfl)
          case hq35 => exact fun _ _ _ h => h
          case hw35 => rfl
          case hy35 => (intro wq hSw; (try dsimp only at hSw); go_simp; (try with_reducible rfl))
          (try simp only [Act.put, List.setIfInBounds_toArray, List.set_cons_zero, List.set_cons_succ])
          refine' wpAnyH_take (i := 35) (oi := _) (v := _) ?hi36 (by kernel_rfl) (by kernel_rfl) (by kernel_rfl) ?hq36 (Or.inl ⟨?hw36, ?hy36⟩) (by assumption) ?rest36
          case hi36 => (simp only [List.getElem?_toArray, List.getElem?_cons_succ, List.getElem?_cons_zero]; rfl)
          case hq36 => exact fun _ _ _ h => h
          case hw36 => rfl
          case hy36 => (intro wq hSw; (try dsimp only at hSw); go_simp; (try with_reducible rfl))
          (try simp only [Act.put, List.setIfInBounds_toArray, List.set_cons_zero, List.set_cons_succ])
          refine wpAnyH_done (by kernel_rfl) ?_ _
          all_goals
            clear k1 k2 k3 k4 hg5 hg6 hg7 hg8
            have hcw := (HC.out.o0).cell (stk_len' L n q HLn2.out (Nat.le_of_lt hqn)).symm (j := q) (by rw [stk_len' L n q HLn2.out (Nat.le_of_lt hqn)]; exact hqn)
            have hfw := (HC.out.o0).frozen (stk_len' L n q HLn2.out (Nat.le_of_lt hqn)).symm q
            generalize (stk L n q).getD q 0 = old at *
            have HM : Hid (GS w (w8.setCell ⟨g, q, none⟩ (.int .i64 vq)) [ri lo3 hi3 (.slice (some ⟨g, 0, none⟩) n c2) (stk L n (q + 1))] [⟨b3, 25, #[.int .i64 (k : Int), .int .i64 (l : Int), .int .i64 (P : Int), .slice (some ⟨g, 0, none⟩) n c2]⟩, ⟨w.heap.size + 1, 25, #[.int .i64 0, .int .i64 0, .int .i64 0, .slice none 0 0]⟩, ⟨w.heap.size, 25, #[.int .i64 (W : Int), .int .i64 (H : Int), .int .i64 (P : Int), .slice A xs.length c]⟩]) := Lib.hid (by
              have hp := (HC.out.o0).put (stk_len' L n q HLn2.out (Nat.le_of_lt hqn)).symm q vq
              rw [HSet.out] at hp
              exact GS.mark0 HC.out hp.1 (by rw [stk_len' L n _ HLn2.out hqn, stk_len' L n _ HLn2.out (Nat.le_of_lt hqn)]) hp.2)
            obtain ⟨o0, o1, o2, o3⟩ := HC.out.b0_4
            clear HC
            go_wp2
            go_roundw
            case rel => exact ⟨q + 1, by omega, by go_num, HM⟩
            case measure => simp [intOf]; omega
        · have hqe : q = n := by omega
          have hG := hI.out
          rw [hqe, stk_all L n HLn2.out] at hG
          have HN := Lib.hid (show n = L.length from HLn2.out.symm)
          obtain ⟨r0, r1, r2, r3⟩ := hG.b1_4
          have f0 := hG.f1 0
          have f1 := hG.f1 1
          have f2 := hG.f1 2
          have f3 := hG.f1 3
          have HE := Lib.hid (hG.e1_4 (.int .i64 (k : Int)) (.int .i64 (l : Int)) (.int .i64 (P : Int)) (.slice (some ⟨g, 0, none⟩) n c2))
          clear hI hqe hG
          go_wp2
          exact bodyPost_ret (v := .agg #[.int .i64 (k : Int), .int .i64 (l : Int), .int .i64 (P : Int), .slice (some ⟨g, 0, none⟩) n c2]) (by simp [results, Try.results8, go_sem, r0, r1, r2, r3]) rfl (MadeIf.yes Hv.out ⟨_, rfl, HE.out.2 _ (List.Mem.head _), HE.out.1⟩)
    · have Hv : Hid (hvOk W H P xs = false) := Lib.hid (by rw [HV.out, hv, decide_eq_false hH2]; simp)
      go_enter Try.func8, Try.ntmps8
      go_wp2_with fail
      generalize (w.alloc (.cells #[.int .i64 W, .int .i64 H, .int .i64 P, .slice A xs.length c] 25)).alloc (.cells #[.int .i64 0, .int .i64 0, .int .i64 0, .slice none 0 0] 25) = u0 at *
      refine (sVimg_any W H P A c xs u0 (HS.out.arg HX.out) hl).mono ?_
      rintro e u1 ⟨rfl, hB⟩
      have S1 := HS.out.call hB
      obtain ⟨d0, d1, d2, d3⟩ := S1.b1_4
      obtain ⟨r0, r1, r2, r3⟩ := S1.b0_4
      have f0 := S1.f0 0
      have f1 := S1.f0 1
      have f2 := S1.f0 2
      have f3 := S1.f0 3
      have HE := Lib.hid (S1.e0_4 (.int .i64 0) (.int .i64 0) (.int .i64 0) (.slice none 0 0))
      have HB := Lib.hid S1.below
      rw [hv]
      clear S1 HS hB
      go_wp2
      exact bodyPost_ret (v := .agg #[.int .i64 0, .int .i64 0, .int .i64 0, .slice none 0 0]) (by simp [results, Try.results8, go_sem, r0, r1, r2, r3]) rfl (MadeIf.no Hv.out ⟨_, rfl, World.ownsRow_nil _ _ _ _, by first | exact HE.out.1 | exact HB.out⟩)
  · have Hv : Hid (hvOk W H P xs = false) := Lib.hid (by rw [HV.out, hv, decide_eq_false hW2]; rfl)
    go_enter Try.func8, Try.ntmps8
    go_wp2_with fail
    generalize (w.alloc (.cells #[.int .i64 W, .int .i64 H, .int .i64 P, .slice A xs.length c] 25)).alloc (.cells #[.int .i64 0, .int .i64 0, .int .i64 0, .slice none 0 0] 25) = u0 at *
    refine (sVimg_any W H P A c xs u0 (HS.out.arg HX.out) hl).mono ?_
    rintro e u1 ⟨rfl, hB⟩
    have S1 := HS.out.call hB
    obtain ⟨d0, d1, d2, d3⟩ := S1.b1_4
    obtain ⟨r0, r1, r2, r3⟩ := S1.b0_4
    have f0 := S1.f0 0
    have f1 := S1.f0 1
    have f2 := S1.f0 2
    have f3 := S1.f0 3
    have HE := Lib.hid (S1.e0_4 (.int .i64 0) (.int .i64 0) (.int .i64 0) (.slice none 0 0))
    have HB := Lib.hid S1.below
    rw [hv]
    clear S1 HS hB
    go_wp2
    exact bodyPost_ret (v := .agg #[.int .i64 0, .int .i64 0, .int .i64 0, .slice none 0 0]) (by simp [results, Try.results8, go_sem, r0, r1, r2, r3]) rfl (MadeIf.no Hv.out ⟨_, rfl, World.ownsRow_nil _ _ _ _, by first | exact HE.out.1 | exact HB.out⟩)
end Go.Proofs.Ytcmjlpmdmejmaaa
