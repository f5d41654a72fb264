/- Contract of TurnImage in the program. -/
import Derived.Test.YtfeldhhbnhdodaaTurnS
namespace Go.Proofs.Ytfeldhhbnhdodaa
open Go.RowKit Go.Shelf
set_option linter.unusedSimpArgs false
set_option linter.unusedVariables false

set_option maxHeartbeats 8000000 in
theorem i_TurnImage (W H P k : Int) (A : Option Addr) (c : Nat) (xs : List Int) (w : World) (hx : Rds .i64 w w.heap.size A xs) (hl : xs.length ≤ 2000000) (hlc : xs.length ≤ c) :
    Calls Try.prog 16 #[.agg #[.int .i64 W, .int .i64 H, .int .i64 P, .slice A xs.length c], .int .i64 k] w (MadeIf (vim W H P xs && inQ k) (tdim W.toNat H.toNat k.toNat).1 (tdim W.toNat H.toNat k.toNat).2 P (turL W.toNat H.toNat P.toNat xs k.toNat) w) := by
  obtain ⟨u0, hu⟩ : ∃ u0, u0 = (w.alloc (.cells #[.int .i64 W, .int .i64 H, .int .i64 P, .slice A xs.length c] 25)).alloc (.cells #[.int .i64 0, .int .i64 0, .int .i64 0, .slice none 0 0] 25) := ⟨_, rfl⟩
  have Hsz : Hid (u0.heap.size = w.heap.size + 2) := Lib.hid (by rw [hu]; simp)
  have HB0 : Hid (Below w.heap.size w u0) := Lib.hid (by rw [hu]; exact ((Below.refl w.heap.size w).alloc (Nat.le_refl _) _).alloc (by simp) _)
  have HM0 : Hid (Bx u0 w.heap.size 25 (imC W H P (.slice A xs.length c))) := Lib.hid (by rw [hu]; exact (Bx.new w 25 _).alloc _)
  have HR0 : Hid (Bx u0 (w.heap.size + 1) 25 (imC 0 0 0 (.slice none 0 0))) := Lib.hid (by rw [hu]; have := Bx.new (w.alloc (.cells #[.int .i64 W, .int .i64 H, .int .i64 P, .slice A xs.length c] 25)) 25 (imC 0 0 0 (.slice none 0 0)); simpa [imC] using this)
  have Hx := Lib.hid ((hx.below HB0.out).more (by have := Hsz.out; omega : w.heap.size ≤ u0.heap.size))
  have Hxw := Lib.hid hx
  have HU := Lib.hid hu
  clear hx hu
  obtain ⟨m0, m1, m2, m3⟩ := HM0.out.im
  go_enter Try.func16, Try.ntmps16
  go_wp2_with fail
  rw [← HU.out]
  clear HU m0 m1 m2 m3
  refine (iVimg_any W H P A c xs u0 Hx.out hl).mono ?_
  rintro e u1 ⟨rfl, hB⟩
  have hM := HM0.out.below hB
  have hR := HR0.out.below hB
  have hB1 := HB0.out.trans (hB.mono (by have := Hsz.out; omega))
  have hsz1 : w.heap.size + 2 ≤ u1.heap.size := by have := Hsz.out; have := hB.size; omega
  have Hx1 := Lib.hid ((Hx.out.belowTo hB (Nat.le_refl _)).more hB.size)
  have hlt1 : w.heap.size < u1.heap.size := by omega
  have hlt2 : w.heap.size + 1 < u1.heap.size := by omega
  clear hB Hx HB0 HM0 HR0 Hsz
  cases hv : vim W H P xs
  · have Hv := Lib.hid hv
    obtain ⟨r0, r1, r2, r3⟩ := hR.im
    have f0 := hR.fz 0
    have f1 := hR.fz 1
    have f2 := hR.fz 2
    have f3 := hR.fz 3
    have HE := Lib.hid (im_end (w := w) (r := w.heap.size + 1) (base := w.heap.size + 2) (show Own u1 (w.heap.size + 2) (.slice none 0 0) [] from World.ownsRow_nil _ _ _ _) (by omega) (by omega) hB1 (.int .i64 0) (.int .i64 0) (.int .i64 0) (.slice none 0 0))
    clear hR hM hB1
    go_wp2
    exact bodyPost_ret (v := .agg #[.int .i64 0, .int .i64 0, .int .i64 0, .slice none 0 0]) (by simp [results, Try.results16, go_sem, r0, r1, r2, r3]) rfl (MadeIf.no (by rw [Hv.out]; rfl) ⟨_, rfl, HE.out.1, HE.out.2⟩)
  · have Hv := Lib.hid hv
    obtain ⟨W, H, P, rfl, rfl, rfl, hW1, hW, hH1, hH, hP1, hP, hln, hby⟩ := vim_nat hv
    have HLn := Lib.hid hln
    obtain ⟨m0, m1, m2, m3⟩ := hM.im
    clear hv hln hby
    have HR := Lib.hid hR
    have HB1 := Lib.hid hB1
    have HM := Lib.hid hM
    have HQd : Hid (inQ k = decide (0 ≤ k ∧ k ≤ 3)) := Lib.hid rfl
    clear hM hR hB1
    go_wp2_with fail
    refine (iIn_any k 0 3 u1).mono ?_
    rintro e u1' ⟨rfl, rfl⟩
    rw [← HQd.out]
    cases hq : inQ k
    · have Hq := Lib.hid hq
      obtain ⟨r0, r1, r2, r3⟩ := HR.out.im
      have f0 := HR.out.fz 0
      have f1 := HR.out.fz 1
      have f2 := HR.out.fz 2
      have f3 := HR.out.fz 3
      have HE := Lib.hid (im_end (w := w) (r := w.heap.size + 1) (base := w.heap.size + 2) (show Own u1 (w.heap.size + 2) (.slice none 0 0) [] from World.ownsRow_nil _ _ _ _) (by omega) (by omega) HB1.out (.int .i64 0) (.int .i64 0) (.int .i64 0) (.slice none 0 0))
      clear hq
      go_wp2
      exact bodyPost_ret (v := .agg #[.int .i64 0, .int .i64 0, .int .i64 0, .slice none 0 0]) (by simp [results, Try.results16, go_sem, r0, r1, r2, r3]) rfl (MadeIf.no (by rw [Hv.out, Hq.out]; rfl) ⟨_, rfl, HE.out.1, HE.out.2⟩)
    · have Hq := Lib.hid hq
      have hq' : 0 ≤ k ∧ k ≤ 3 := by simpa [inQ] using hq
      obtain ⟨K, rfl⟩ := Int.eq_ofNat_of_zero_le hq'.1
      have hK : K ≤ 3 := by omega
      clear hq hq'
      go_wp2_with fail
      refine (gridOf_any W H P hW hH hP1 hP hW1 hH1 A c xs HLn.out hlc u1 Hx1.out).mono ?_
      rintro e u2 ⟨v2, rfl, hO2, hB2⟩
      obtain ⟨A2, c2, rfl, hc2⟩ := hO2.slice
      obtain ⟨b3, hb3⟩ : ∃ b3, b3 = u2.heap.size := ⟨_, rfl⟩
      obtain ⟨n2, hn2⟩ : ∃ n2, n2 = W * H := ⟨_, rfl⟩
      have hbz : w.heap.size + 2 ≤ b3 := by have := hB2.size; omega
      have hne : w.heap.size + 1 ≠ b3 := by omega
      have hne0 : w.heap.size ≠ b3 := by omega
      rw [← hn2]
      have hU : Rds .i64 (u2.alloc (.cells #[.int .i64 (W : Int), .int .i64 (H : Int), .slice A2 n2 c2] 62)) (u2.alloc (.cells #[.int .i64 (W : Int), .int .i64 (H : Int), .slice A2 n2 c2] 62)).heap.size A2 (img W H 4 (tfun W H (pxc W P xs) 0)) := by rw [hn2]; exact (hO2.alloc _).rds
      have HI0 : Hid (Rds .i64 (u2.alloc (.cells #[.int .i64 (W : Int), .int .i64 (H : Int), .slice A2 n2 c2] 62)) (u2.alloc (.cells #[.int .i64 (W : Int), .int .i64 (H : Int), .slice A2 n2 c2] 62)).heap.size A2 (img W H 4 (tfun W H (pxc W P xs) 0)) ∧ n2 = W * H ∧ n2 ≤ c2 ∧ (W = (tdim W H 0).1 ∧ H = (tdim W H 0).2) ∧ Bx (u2.alloc (.cells #[.int .i64 (W : Int), .int .i64 (H : Int), .slice A2 n2 c2] 62)) w.heap.size 25 (imC W H P (.slice A xs.length c)) ∧ Bx (u2.alloc (.cells #[.int .i64 (W : Int), .int .i64 (H : Int), .slice A2 n2 c2] 62)) (w.heap.size + 1) 25 (imC 0 0 0 (.slice none 0 0)) ∧ Bx (u2.alloc (.cells #[.int .i64 (W : Int), .int .i64 (H : Int), .slice A2 n2 c2] 62)) b3 62 #[.int .i64 (W : Int), .int .i64 (H : Int), .slice A2 n2 c2] ∧ Below w.heap.size w (u2.alloc (.cells #[.int .i64 (W : Int), .int .i64 (H : Int), .slice A2 n2 c2] 62))) :=
        Lib.hid ⟨hU, hn2, by omega, ⟨rfl, rfl⟩, (HM.out.below hB2).alloc _, (HR.out.below hB2).alloc _, by rw [hb3]; exact Bx.new u2 _ _, (HB1.out.trans (hB2.mono (by omega))).alloc (by omega) _⟩
      have HB3 := Lib.hid hb3
      clear hO2 hB2 hb3 hn2 hc2 hU m0 m1 m2 m3
      go_wp2
      (try rw [← HB3.out])
      clear HB3
      go_loopw [18] (fun iv wr => ∃ (j D E n1 c1 : Nat) (A1 : Option Addr), j ≤ K ∧ iv = .int .i64 (j : Int) ∧ Hid (Rds .i64 wr wr.heap.size A1 (img D E 4 (tfun W H (pxc W P xs) j)) ∧ n1 = D * E ∧ n1 ≤ c1 ∧ (D = (tdim W H j).1 ∧ E = (tdim W H j).2) ∧ Bx wr w.heap.size 25 (imC W H P (.slice A xs.length c)) ∧ Bx wr (w.heap.size + 1) 25 (imC 0 0 0 (.slice none 0 0)) ∧ Bx wr b3 62 #[.int .i64 (D : Int), .int .i64 (E : Int), .slice A1 n1 c1] ∧ Below w.heap.size w wr)) (fun iv _ => K - (intOf iv).toNat)
      case atStart => exact ⟨0, W, H, n2, c2, A2, Nat.zero_le _, rfl, HI0⟩
      case round =>
        obtain ⟨j, D, E, n1, c1, A1, hj, rfl, hI⟩ := hrel
        clear HI0
        obtain ⟨hO, hn, hc1, hDE, hMr, hRr, hT, hB⟩ := hI.out
        have hbd := tdim_bd hW1 hW hH1 hH j
        have hD : 1 ≤ D ∧ D ≤ 16 ∧ 1 ≤ E ∧ E ≤ 16 := by rw [hDE.1, hDE.2]; exact hbd
        obtain ⟨hD1, hD16, hE1, hE16⟩ := hD
        obtain ⟨t0, t1, t2⟩ := bx3 hT
        obtain ⟨m0, m1, m2, m3⟩ := hMr.im
        have htl := hT.lt
        have Hn := Lib.hid hn
        have HDE := Lib.hid hDE
        have HO := Lib.hid hO
        have HMr := Lib.hid hMr
        have HRr := Lib.hid hRr
        have HT := Lib.hid hT
        have HB := Lib.hid hB
        clear hI hbd hn hDE hO hMr hRr hT hB
        by_cases hlt : j < K
        · clear m0 m1 m2 m3
          go_wp2_with fail
          refine (turnRight_any D E hD16 hE16 A1 c1 n1 Hn.out.symm (tfun W H (pxc W P xs) j) hc1 wr HO.out).mono ?_
          rintro e w5 ⟨v5, rfl, hO5, hB5⟩
          obtain ⟨A5, c5, rfl, hc5⟩ := hO5.slice
          have hT5 := HT.out.below hB5
          have hRr5 := HRr.out.below hB5
          have hMr5 := HMr.out.below hB5
          have hz5 := hB5.size
          obtain ⟨s0, s1, s2⟩ := bx3 hT5
          have g0 := hT5.fz 0
          have g1 := hT5.fz 1
          have g2 := hT5.fz 2
          have hSucc : (fun x y => tfun W H (pxc W P xs) j y (E - 1 - x)) = tfun W H (pxc W P xs) (j + 1) := by
            rw [HDE.out.2]; rfl
          rw [hSucc] at hO5
          obtain ⟨n5, hn5⟩ : ∃ n5, n5 = E * D := ⟨_, rfl⟩
          rw [← hn5] at hO5 hc5 ⊢
          have HN : Hid (∀ q0 q1 q2 : Value, q0 = .int .i64 (E : Int) → q1 = .int .i64 (D : Int) → q2 = .slice A5 n5 c5 → (Rds .i64 (((w5.setCell ⟨b3, 0, none⟩ q0).setCell ⟨b3, 1, none⟩ q1).setCell ⟨b3, 2, none⟩ q2) (((w5.setCell ⟨b3, 0, none⟩ q0).setCell ⟨b3, 1, none⟩ q1).setCell ⟨b3, 2, none⟩ q2).heap.size A5 (img E D 4 (tfun W H (pxc W P xs) (j + 1))) ∧ n5 = E * D ∧ n5 ≤ c5 ∧ (E = (tdim W H (j + 1)).1 ∧ D = (tdim W H (j + 1)).2) ∧ Bx (((w5.setCell ⟨b3, 0, none⟩ q0).setCell ⟨b3, 1, none⟩ q1).setCell ⟨b3, 2, none⟩ q2) w.heap.size 25 (imC W H P (.slice A xs.length c)) ∧ Bx (((w5.setCell ⟨b3, 0, none⟩ q0).setCell ⟨b3, 1, none⟩ q1).setCell ⟨b3, 2, none⟩ q2) (w.heap.size + 1) 25 (imC 0 0 0 (.slice none 0 0)) ∧ Bx (((w5.setCell ⟨b3, 0, none⟩ q0).setCell ⟨b3, 1, none⟩ q1).setCell ⟨b3, 2, none⟩ q2) b3 62 #[.int .i64 (E : Int), .int .i64 (D : Int), .slice A5 n5 c5] ∧ Below w.heap.size w (((w5.setCell ⟨b3, 0, none⟩ q0).setCell ⟨b3, 1, none⟩ q1).setCell ⟨b3, 2, none⟩ q2))) := Lib.hid (by
            intro q0 q1 q2 e0 e1 e2
            have hBB : Below w.heap.size w w5 := HB.out.trans (hB5.mono HB.out.size)
            refine ⟨(((hO5.setB (p := ⟨b3, 0, none⟩) htl q0).setB (p := ⟨b3, 1, none⟩) htl q1).setB (p := ⟨b3, 2, none⟩) htl q2).rds, hn5, hc5, ⟨by rw [HDE.out.2]; rfl, by rw [HDE.out.1]; rfl⟩, bx_sets3 hMr5 hne0 q0 q1 q2, bx_sets3 hRr5 hne q0 q1 q2, ?_, ?_⟩
            · subst e0 e1 e2; exact bx_put3 hT5 _ _ _
            · exact ((hBB.setCell (p := ⟨b3, 0, none⟩) (by show _ ≤ b3; omega) q0).setCell (p := ⟨b3, 1, none⟩) (by show _ ≤ b3; omega) q1).setCell (p := ⟨b3, 2, none⟩) (by show _ ≤ b3; omega) q2)
          clear hO5 hB5 hT5 hRr5 hMr5 hSucc hn5 hc5 t0 t1 t2 HO HRr HMr HT HB Hn HDE hz5
          go_wp2
          go_roundw
          case rel => exact ⟨j + 1, E, D, n5, c5, A5, by omega, by go_num, Lib.hid (HN.out _ _ _ rfl rfl rfl)⟩
          case measure => simp [intOf]; omega
        · have hjK : j = K := by omega
          have HK := Lib.hid hjK
          clear hjK
          go_wp2_with fail
          have hcall := imageOf_any D E P hD16 hE16 hP A1 c1 (tfun W H (pxc W P xs) j) wr HO.out (by rw [← Hn.out]; exact hc1)
          rw [← Hn.out] at hcall
          refine hcall.mono ?_
          clear hcall
          rintro e w5 ⟨v5, rfl, hO5, hB5⟩
          obtain ⟨A5, c5, rfl, hc5⟩ := hO5.slice
          have hR5 := HRr.out.below hB5
          have hz5 := hB5.size
          have hzr := HB.out.size
          have hlr := HRr.out.lt
          obtain ⟨r0, r1, r2, r3⟩ := hR5.im
          have f0 := hR5.fz 0
          have f1 := hR5.fz 1
          have f2 := hR5.fz 2
          have f3 := hR5.fz 3
          have HE := Lib.hid (im_end (w := w) (r := w.heap.size + 1) (base := w.heap.size + 2) (hO5.base_le (by omega)) (by omega) (by omega) (HB.out.trans (hB5.mono HB.out.size)) (.int .i64 (D : Int)) (.int .i64 (E : Int)) (.int .i64 (P : Int)) (.slice A5 (img D E P (tfun W H (pxc W P xs) j)).length c5))
          clear hR5 hO5 hB5 hz5 hzr hlr t0 t1 t2 m0 m1 m2 m3
          go_wp2
          refine bodyPost_ret (v := .agg #[.int .i64 (D : Int), .int .i64 (E : Int), .int .i64 (P : Int), .slice A5 (img D E P (tfun W H (pxc W P xs) j)).length c5]) (by simp [results, Try.results16, go_sem, r0, r1, r2, r3]) rfl (MadeIf.yes (by rw [Hv.out, Hq.out]; rfl) ?_)
          have h1 := HDE.out
          have h2 := HK.out
          subst h2
          rw [h1.1, h1.2] at HE ⊢
          exact ⟨_, rfl, HE.out.1, HE.out.2⟩
end Go.Proofs.Ytfeldhhbnhdodaa
