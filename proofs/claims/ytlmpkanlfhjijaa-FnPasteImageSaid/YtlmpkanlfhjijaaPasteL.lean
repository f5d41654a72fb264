/- Contract of PasteImage in the program. -/
import Derived.Test.YtlmpkanlfhjijaaPasteK
namespace Go.Proofs.Ytlmpkanlfhjijaa
open Go.RowKit Go.Shelf
set_option linter.unusedSimpArgs false
set_option linter.unusedVariables false

theorem near_any (X Y : Int) (w : World) : Calls Try.prog 38 #[.int .i64 X, .int .i64 Y] w fun e w' => e = .returned (.bool (decide (-16 ≤ X ∧ X ≤ 16) && decide (-16 ≤ Y ∧ Y ≤ 16))) ∧ w = w' := by
  cases h1 : decide (-16 ≤ X ∧ X ≤ 16) <;> cases h2 : decide (-16 ≤ Y ∧ Y ≤ 16)
  all_goals
    have H1 := Lib.hid h1
    have H2 := Lib.hid h2
    clear h1 h2
    go_enter Try.func38, Try.ntmps38
    go_wp2_with fail
    refine (iIn_any X (-16) 16 _).mono ?_
    rintro e w' ⟨rfl, rfl⟩
    rw [H1.out]
    go_wp2_with fail
    try (refine (iIn_any Y (-16) 16 _).mono ?_; rintro e w' ⟨rfl, rfl⟩; rw [H2.out]; go_wp2_with fail)
    go_ret
    exact ⟨rfl, rfl⟩
set_option maxHeartbeats 8000000 in
theorem i_PasteImage (W H P X Y PW PH PP : Int) (A A2 : Option Addr) (c c2 : Nat) (xs ps : List Int) (w : World) (hx : Rds .i64 w w.heap.size A xs) (hl : xs.length ≤ 2000000) (hlc : xs.length ≤ c) (hp : Rds .i64 w w.heap.size A2 ps) (hpl : ps.length ≤ 2000000) (hpc : ps.length ≤ c2) :
    Calls Try.prog 9 #[.agg #[.int .i64 W, .int .i64 H, .int .i64 P, .slice A xs.length c], .int .i64 X, .int .i64 Y, .agg #[.int .i64 PW, .int .i64 PH, .int .i64 PP, .slice A2 ps.length c2]] w (SetR (pasteOk W H P xs X Y PW PH PP ps) W H P (pasteL W.toNat H.toNat P.toNat xs X Y PW.toNat PH.toNat ps) w) := by
  obtain ⟨u0, hu⟩ : ∃ u0, u0 = ((w.alloc (.cells #[.int .i64 W, .int .i64 H, .int .i64 P, .slice A xs.length c] 25)).alloc (.cells #[.int .i64 PW, .int .i64 PH, .int .i64 PP, .slice A2 ps.length c2] 25)).alloc (.cells #[.int .i64 0, .int .i64 0, .int .i64 0, .slice none 0 0] 25) := ⟨_, rfl⟩
  obtain ⟨r, hr⟩ : ∃ r, r = w.heap.size + 2 := ⟨_, rfl⟩
  obtain ⟨pb, hpb⟩ : ∃ pb, pb = w.heap.size + 1 := ⟨_, rfl⟩
  have Hsz : Hid (u0.heap.size = w.heap.size + 3) := Lib.hid (by rw [hu]; simp)
  have HB0 : Hid (Below w.heap.size w u0) := Lib.hid (by rw [hu]; exact (((Below.refl w.heap.size w).alloc (Nat.le_refl _) _).alloc (by simp) _).alloc (by simp <;> omega) _)
  have HM0 : Hid (Bx u0 w.heap.size 25 (imC W H P (.slice A xs.length c))) := Lib.hid (by rw [hu]; exact Bx.at2.1)
  have HP0 : Hid (Bx u0 pb 25 (imC PW PH PP (.slice A2 ps.length c2))) := Lib.hid (by rw [hu, hpb]; exact Bx.at2.2.1)
  have HR0 : Hid (Bx u0 r 25 (imC 0 0 0 (.slice none 0 0))) := Lib.hid (by rw [hu, hr]; exact Bx.at2.2.2)
  have HxW := Lib.hid hx
  have HpW := Lib.hid hp
  have HU := Lib.hid hu
  have Hr := Lib.hid hr
  have Hpb := Lib.hid hpb
  have hrw : w.heap.size ≤ r := by omega
  have HOK : Hid (pasteOk W H P xs X Y PW PH PP ps = (vim W H P xs && (vim PW PH PP ps && (decide (P = PP) && (decide (-16 ≤ X ∧ X ≤ 16) && decide (-16 ≤ Y ∧ Y ≤ 16)))))) := Lib.hid rfl
  have hz0 : w.heap.size + 3 ≤ u0.heap.size := by have := Hsz.out; omega
  clear hx hp hu hr hpb Hsz
  go_enter Try.func9, Try.ntmps9
  go_wp2_with fail
  rw [← HU.out]
  (try rw [← Hr.out])
  (try rw [← Hpb.out])
  clear HU
  refine (iVimg_any W H P A c xs u0 ((HxW.out.below HB0.out).more (by omega)) hl).mono ?_
  rintro e u1 ⟨rfl, hB⟩
  have HM1 := Lib.hid (HM0.out.below hB)
  have HP1 := Lib.hid (HP0.out.below hB)
  have HR1 := Lib.hid (HR0.out.below hB)
  have HB1 := Lib.hid (HB0.out.trans (hB.mono (by omega)))
  have hz1 : w.heap.size + 3 ≤ u1.heap.size := by have := hB.size; omega
  clear hB HB0 HM0 HR0 HP0 hz0
  cases hv : vim W H P xs
  · have HF : Hid (pasteOk W H P xs X Y PW PH PP ps = false) := Lib.hid (by rw [HOK.out]; simp [hv])
    obtain ⟨r0, r1, r2, r3⟩ := HR1.out.im
    have f0 := HR1.out.fz 0
    have f1 := HR1.out.fz 1
    have f2 := HR1.out.fz 2
    have f3 := HR1.out.fz 3
    clear hv
    go_wp2
    exact bodyPost_ret (v := .tuple #[.agg #[.int .i64 0, .int .i64 0, .int .i64 0, .slice none 0 0], .bool false]) (by simp [results, Try.results9, go_sem, r0, r1, r2, r3]) rfl (SetR.noR HF.out hrw HB1.out _ _ _ _)
  · obtain ⟨p0, p1, p2, p3⟩ := HP1.out.im
    have HV := Lib.hid hv
    clear hv
    go_wp2_with fail
    refine (iVimg_any PW PH PP A2 c2 ps u1 ((HpW.out.below HB1.out).more (by omega)) hpl).mono ?_
    rintro e u2 ⟨rfl, hB⟩
    have HM2 := Lib.hid (HM1.out.below hB)
    have HP2 := Lib.hid (HP1.out.below hB)
    have HR2 := Lib.hid (HR1.out.below hB)
    have HB2 := Lib.hid (HB1.out.trans (hB.mono (by omega)))
    have hz2 : w.heap.size + 3 ≤ u2.heap.size := by have := hB.size; omega
    clear p0 p1 p2 p3 hB HB1 HM1 HR1 HP1 hz1
    cases hv2 : vim PW PH PP ps
    · have HF : Hid (pasteOk W H P xs X Y PW PH PP ps = false) := Lib.hid (by rw [HOK.out]; simp [hv2])
      obtain ⟨r0, r1, r2, r3⟩ := HR2.out.im
      have f0 := HR2.out.fz 0
      have f1 := HR2.out.fz 1
      have f2 := HR2.out.fz 2
      have f3 := HR2.out.fz 3
      clear hv2
      go_wp2
      exact bodyPost_ret (v := .tuple #[.agg #[.int .i64 0, .int .i64 0, .int .i64 0, .slice none 0 0], .bool false]) (by simp [results, Try.results9, go_sem, r0, r1, r2, r3]) rfl (SetR.noR HF.out hrw HB2.out _ _ _ _)
    · obtain ⟨m0, m1, m2, m3⟩ := HM2.out.im
      obtain ⟨p0, p1, p2, p3⟩ := HP2.out.im
      have HV2 := Lib.hid hv2
      clear hv2
      by_cases hPP : P = PP
      · subst hPP
        go_wp2_with fail
        refine (near_any X Y u2).mono ?_
        rintro e u3 ⟨rfl, rfl⟩
        cases hN : (decide (-16 ≤ X ∧ X ≤ 16) && decide (-16 ≤ Y ∧ Y ≤ 16))
        · have HF : Hid (pasteOk W H P xs X Y PW PH P ps = false) := Lib.hid (by rw [HOK.out, hN]; simp)
          obtain ⟨r0, r1, r2, r3⟩ := HR2.out.im
          have f0 := HR2.out.fz 0
          have f1 := HR2.out.fz 1
          have f2 := HR2.out.fz 2
          have f3 := HR2.out.fz 3
          clear hN m0 m1 m2 m3 p0 p1 p2 p3
          go_wp2
          exact bodyPost_ret (v := .tuple #[.agg #[.int .i64 0, .int .i64 0, .int .i64 0, .slice none 0 0], .bool false]) (by simp [results, Try.results9, go_sem, r0, r1, r2, r3]) rfl (SetR.noR HF.out hrw HB2.out _ _ _ _)
        · skip
          have HT : Hid (pasteOk W H P xs X Y PW PH P ps = true) := Lib.hid (by rw [HOK.out, HV.out, HV2.out, hN]; simp)
          rw [Bool.and_eq_true, decide_eq_true_eq, decide_eq_true_eq] at hN
          obtain ⟨⟨hX0, hX1⟩, hY0, hY1⟩ := hN
          have hv := HV.out
          have hv2 := HV2.out
          clear HV HV2 HOK
          obtain ⟨W, H, P, rfl, rfl, rfl, hW1, hW, hH1, hH, hP1, hP, hln, _⟩ := vim_nat hv
          obtain ⟨PW, PH, P2, rfl, rfl, hP2, hPW1, hPW, hPH1, hPH, _, _, hpln, _⟩ := vim_nat hv2
          obtain rfl : P = P2 := by omega
          have HLn := Lib.hid hln
          have HPn := Lib.hid hpln
          have hrlt : r < u2.heap.size := by have := Hr.out; omega
          have hplt : pb < u2.heap.size := by have := Hpb.out; omega
          have hwh : 0 < W * H := Nat.mul_pos (by omega) (by omega)
          clear hv hv2 hln hpln hP2
          go_wp2_with fail
          refine (gridOf_any W H P hW hH hP1 hP hW1 hH1 A c xs HLn.out hlc u2 ((HxW.out.below HB2.out).more (by omega))).mono ?_
          rintro e u3 ⟨v3, rfl, hO3, hB3⟩
          obtain ⟨g, c3, rfl, hg1, hg2⟩ := hO3.form hwh
          obtain ⟨n, hn⟩ : ∃ n, W * H = n := ⟨_, rfl⟩
          obtain ⟨m, hm⟩ : ∃ m, PW * PH = m := ⟨_, rfl⟩
          have hc3 : n ≤ c3 := by
            obtain ⟨A9, c9, h9, hc9⟩ := hO3.slice
            simp only [Value.slice.injEq] at h9
            omega
          rw [hn] at hO3 ⊢
          have hz3 := hB3.size
          have HM3 := Lib.hid ((HM2.out.below hB3).alloc (.cells #[.int .i64 (W : Int), .int .i64 (H : Int), .slice (some ⟨g, 0, none⟩) n c3] 66))
          have HP3 := Lib.hid ((HP2.out.below hB3).alloc (.cells #[.int .i64 (W : Int), .int .i64 (H : Int), .slice (some ⟨g, 0, none⟩) n c3] 66))
          have HR3 := Lib.hid ((HR2.out.below hB3).alloc (.cells #[.int .i64 (W : Int), .int .i64 (H : Int), .slice (some ⟨g, 0, none⟩) n c3] 66))
          have HQ3 : Hid (Bx (u3.alloc (.cells #[.int .i64 (W : Int), .int .i64 (H : Int), .slice (some ⟨g, 0, none⟩) n c3] 66)) u3.heap.size 66 #[.int .i64 (W : Int), .int .i64 (H : Int), .slice (some ⟨g, 0, none⟩) n c3]) := Lib.hid (Bx.new u3 _ _)
          have HO3 := Lib.hid (hO3.alloc (.cells #[.int .i64 (W : Int), .int .i64 (H : Int), .slice (some ⟨g, 0, none⟩) n c3] 66))
          have HB3 := Lib.hid ((HB2.out.trans (hB3.mono (by omega))).alloc (show w.heap.size ≤ u3.heap.size by omega) (.cells #[.int .i64 (W : Int), .int .i64 (H : Int), .slice (some ⟨g, 0, none⟩) n c3] 66))
          have hz4 : u3.heap.size < (u3.alloc (.cells #[.int .i64 (W : Int), .int .i64 (H : Int), .slice (some ⟨g, 0, none⟩) n c3] 66)).heap.size := by simp
          have Hn := Lib.hid hn
          have Hm := Lib.hid hm
          have hgb : u3.heap.size ≠ g := by omega
          have hgr : r ≠ g := by omega
          clear hO3 hB3 HM2 HP2 HR2 HB2 m0 m1 m2 m3 p0 p1 p2 p3 hn hm hwh
          obtain ⟨p0, p1, p2, p3⟩ := HP3.out.im
          obtain ⟨q0, q1, q2⟩ := bx3 HQ3.out
          go_upto_region 4 with fail
          generalize u3.alloc (.cells #[.int .i64 (W : Int), .int .i64 (H : Int), .slice (some ⟨g, 0, none⟩) n c3] 66) = u4 at *
          have hbl : u3.heap.size < u4.heap.size := by omega
          have hpl4 : pb < u4.heap.size := by omega
          have hgl4 : g < u4.heap.size := by omega
          go_region_held3 (fun w' => (w'.cell? ⟨u3.heap.size, 0, none⟩ = some (.int .i64 (W : Int)) ∧ w'.cell? ⟨u3.heap.size, 1, none⟩ = some (.int .i64 (H : Int)) ∧ w'.cell? ⟨u3.heap.size, 2, none⟩ = some (.slice (some ⟨g, 0, none⟩) n c3)) ∧ (w'.cell? ⟨pb, 0, none⟩ = some (.int .i64 (PW : Int)) ∧ w'.cell? ⟨pb, 1, none⟩ = some (.int .i64 (PH : Int)) ∧ w'.cell? ⟨pb, 2, none⟩ = some (.int .i64 (P : Int)) ∧ w'.cell? ⟨pb, 3, none⟩ = some (.slice A2 ps.length c2)))
            (first | (with_reducible exact ⟨⟨k0, k1, k2⟩, k3, k4, k5, k6⟩) | (with_reducible exact ⟨⟨d0, d1, d2⟩, d3, d4, d5, d6⟩) | exact ⟨⟨q0, q1, q2⟩, p0, p1, p2, p3⟩)
            (first | (go_at_call 39; refine (gridOf_any PW PH P hPW hPH (by omega) hP hPW1 hPH1 A2 c2 ps HPn.out hpc _ (by exact (HpW.out.below HB3.out).more (by exact HB3.out.size))).mono ?_; rintro e u5 ⟨v5, rfl, hO5, hB5⟩; obtain ⟨A5, c5, rfl, hc5⟩ := hO5.slice; rw [Hm.out] at hO5 hc5 ⊢; obtain ⟨d0, d1, d2⟩ := keepT hB5 (by exact hbl) q0 q1 q2; obtain ⟨d3, d4, d5, d6⟩ := keep4 hB5 (by exact hpl4) p0 p1 p2 p3; have HO5 := Lib.hid hO5; have HB5 : Hid (Below u4.heap.size u4 u5) := Lib.hid ((Below.refl u4.heap.size u4).drew.trans hB5); clear hO5 hB5) | (go_at_call 40; refine (gpaste_any W H n PW PH m Hn.out Hm.out hW hH hPW hPH X Y hX0 hX1 hY0 hY1 u2.heap.size u5.heap.size g c3 hc3 (pxc PW P ps) (pxc W P xs) A5 c5 hc5 u5 (by exact HO3.out.below HB5.out (Nat.le_refl _)) (by exact HO5.out.rds) (Nat.le_refl _) u4.heap.size (fun a ha => by subst ha; exact HO5.out.ge a.block rfl) (by omega) (by have := HB5.out.size; omega)).mono ?_; rintro e u6 ⟨rfl, hO6, hG6⟩; have hz5 := HB5.out.size; obtain ⟨k0, k1, k2⟩ := keepTg hG6 (by omega) (show u3.heap.size ≠ g from hgb) d0 d1 d2; obtain ⟨k3, k4, k5, k6⟩ := keep4g hG6 (by omega) (show pb ≠ g by omega) d3 d4 d5 d6; have HO6 := Lib.hid hO6; have HG6 := Lib.hid hG6; clear hO6 hG6))
          have HM6 := Lib.hid ((HM3.out.below HB5.out).kept HG6.out (by simp; omega))
          have HR6 := Lib.hid ((HR3.out.below HB5.out).kept HG6.out (by simp; exact fun h => hgr h))
          have HB6 := Lib.hid ((HB3.out.trans (HB5.out.mono HB3.out.size)).grown HG6.out (by have := HB3.out.size; have := HB5.out.size; omega) (fun k hk => by injection hk with hk; omega))
          have hz6 := HG6.out.size
          have hrl6 : r < u6.heap.size := HR6.out.lt
          obtain ⟨m0, m1, m2, m3⟩ := HM6.out.im
          clear d0 d1 d2 d3 d4 d5 d6 k3 k4 k5 k6 p0 p1 p2 p3 q0 q1 q2
          go_wp2_with fail
          refine (show Calls Try.prog 41 #[.agg #[.int .i64 (W : Int), .int .i64 (H : Int), .slice (some ⟨g, 0, none⟩) n c3], .int .i64 (P : Int)] u6 (MadeI W H P (img W H P (paF (pxc PW P ps) (pxc W P xs) X Y PW PH 0)) u6) from by have h := imageOf_any W H P hW hH hP (some ⟨g, 0, none⟩) c3 (paF (pxc PW P ps) (pxc W P xs) X Y PW PH 0) u6 (by have h := HO6.out.rds; exact h) (by rw [Hn.out]; exact hc3); rw [Hn.out] at h; exact h).mono ?_
          rintro e u7 ⟨v7, rfl, hO7, hB7⟩
          have hL : img W H P (paF (pxc PW P ps) (pxc W P xs) X Y PW PH 0) = pasteL W H P xs X Y PW PH ps := by
            unfold pasteL
            refine img_ext fun i j p hi hj hp => ?_
            have e1 : ∀ (W : Nat) (zs : List Int) (a b : Nat), pxc W P zs a b p = px W P zs a b p := fun W zs a b => pxl_get _ _ _ _ _ _ hp
            unfold paF
            simp only [e1]
          rw [hL] at hO7
          obtain ⟨A7, c7, rfl, hc7⟩ := hO7.slice
          have hR7 := HR6.out.below hB7
          obtain ⟨r0, r1, r2, r3⟩ := hR7.im
          have f0 := hR7.fz 0
          have f1 := hR7.fz 1
          have f2 := hR7.fz 2
          have f3 := hR7.fz 3
          have HE : Hid (∀ v0 v1 v2 v3 : Value, SetR (pasteOk W H P xs X Y PW PH P ps) W H P (pasteL W H P xs X Y PW PH ps) w (.returned (.tuple #[.agg #[.int .i64 (W : Int), .int .i64 (H : Int), .int .i64 (P : Int), .slice A7 (pasteL W H P xs X Y PW PH ps).length c7], .bool true])) ((((u7.setCell ⟨r, 0, none⟩ v0).setCell ⟨r, 1, none⟩ v1).setCell ⟨r, 2, none⟩ v2).setCell ⟨r, 3, none⟩ v3)) := Lib.hid fun v0 v1 v2 v3 =>
            SetR.yesR HT.out hrw hO7 hrl6 (HB6.out.trans (hB7.mono HB6.out.size)) v0 v1 v2 v3
          clear hR7 hO7 hB7 hc7 m0 m1 m2 m3 hL k0 k1 k2
          generalize (pasteL W H P xs X Y PW PH ps).length = nl at *
          go_wp2
          exact bodyPost_ret (v := .tuple #[.agg #[.int .i64 (W : Int), .int .i64 (H : Int), .int .i64 (P : Int), .slice A7 nl c7], .bool true]) (by simp [results, Try.results9, go_sem, r0, r1, r2, r3]) rfl (HE.out _ _ _ _)
      · have HF : Hid (pasteOk W H P xs X Y PW PH PP ps = false) := Lib.hid (by rw [HOK.out]; simp [hPP])
        obtain ⟨r0, r1, r2, r3⟩ := HR2.out.im
        have f0 := HR2.out.fz 0
        have f1 := HR2.out.fz 1
        have f2 := HR2.out.fz 2
        have f3 := HR2.out.fz 3
        skip
        go_wp2
        exact bodyPost_ret (v := .tuple #[.agg #[.int .i64 0, .int .i64 0, .int .i64 0, .slice none 0 0], .bool false]) (by simp [results, Try.results9, go_sem, r0, r1, r2, r3]) rfl (SetR.noR HF.out hrw HB2.out _ _ _ _)
end Go.Proofs.Ytlmpkanlfhjijaa
