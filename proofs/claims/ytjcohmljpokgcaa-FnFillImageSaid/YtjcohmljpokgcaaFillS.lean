/- Contract of FillImage in the model. -/
import Derived.Test.YtjcohmljpokgcaaFillI
import Derived.Test.YtjcohmljpokgcaaSpecM
namespace Go.Proofs.Ytjcohmljpokgcaa
open Go.RowKit
set_option linter.unusedSimpArgs false
set_option linter.unusedVariables false

theorem fillL_of {W H : Nat} {q ys : List Int} (hl : ys.length = W * H * q.length) (h : ∀ i, i < W * H * q.length → ys.getD i 0 = q.getD (i % q.length) 0) : ys = fillL W H q := by
  apply List.ext_getElem
  · rw [hl]; exact (img_len _ _ _ _).symm
  · intro i h1 h2
    have hi : i < W * H * q.length := by omega
    have := h i hi
    simp only [fillL, img, List.getElem_map, List.getElem_range]
    rw [← this]
    simp [h1]
set_option maxRecDepth 100000 in
set_option maxHeartbeats 16000000 in
theorem s_FillImage (W H : Int) (A : Option Addr) (c : Nat) (q : List Int) (w : World) (hx : Rds .i64 w w.heap.size A q) (hl : q.length ≤ 2000000) :
    Calls Try.prog 13 #[.int .i64 W, .int .i64 H, .slice A q.length c] w (MadeIf (fillOk W H q) W H q.length (fillL W.toNat H.toNat q) w) := by
  obtain ⟨u0, hu⟩ : ∃ u0, u0 = w.alloc (.cells #[.int .i64 0, .int .i64 0, .int .i64 0, .slice none 0 0] 25) := ⟨_, rfl⟩
  have Hz : Hid (u0.heap.size = w.heap.size + 1) := Lib.hid (by rw [hu]; simp)
  have HB0 : Hid (Below w.heap.size w u0) := Lib.hid (by rw [hu]; exact (Below.refl w.heap.size w).alloc (Nat.le_refl _) _)
  have HR0 : Hid (Bx u0 w.heap.size 25 (imC 0 0 0 (.slice none 0 0))) := Lib.hid (by rw [hu]; exact Bx.new w _ _)
  have Hx := Lib.hid ((hx.below HB0.out).more HB0.out.size)
  have Hxw := Lib.hid hx
  have HU := Lib.hid hu
  clear hx hu
  have hno : fillOk W H q = false → ∀ v0 v1 v2 v3 : Value, MadeIf (fillOk W H q) W H q.length (fillL W.toNat H.toNat q) w (.returned (.agg #[.int .i64 0, .int .i64 0, .int .i64 0, .slice none 0 0])) ((((u0.setCell ⟨w.heap.size, 0, none⟩ v0).setCell ⟨w.heap.size, 1, none⟩ v1).setCell ⟨w.heap.size, 2, none⟩ v2).setCell ⟨w.heap.size, 3, none⟩ v3) := fun hf v0 v1 v2 v3 => by
    have h := im_end (w := w) (r := w.heap.size) (base := w.heap.size + 1) (show Own u0 (w.heap.size + 1) (.slice none 0 0) [] from World.ownsRow_nil _ _ _ _) (by omega) (Nat.le_refl _) HB0.out v0 v1 v2 v3
    exact MadeIf.no hf ⟨_, rfl, h.1, h.2⟩
  have HNO := Lib.hid hno
  clear hno
  obtain ⟨r0, r1, r2, r3⟩ := HR0.out.im
  have f0 := HR0.out.fz 0
  have f1 := HR0.out.fz 1
  have f2 := HR0.out.fz 2
  have f3 := HR0.out.fz 3
  cases hs : vsh W H q.length
  · have HF : Hid (fillOk W H q = false) := Lib.hid (by unfold fillOk; rw [hs]; rfl)
    go_enter Try.func13, Try.ntmps13
    go_wp2_with fail
    rw [← HU.out]
    clear HU
    refine (sShape_any W H q.length u0).mono ?_
    rintro e w' ⟨rfl, rfl⟩
    rw [hs]
    clear hs
    go_wp2
    exact bodyPost_ret (v := .agg #[.int .i64 0, .int .i64 0, .int .i64 0, .slice none 0 0]) (by simp [results, Try.results13, go_sem, r0, r1, r2, r3]) rfl (HNO.out HF.out _ _ _ _)
  · cases ha : allB 0 255 q
    · have HF : Hid (fillOk W H q = false) := Lib.hid (by unfold fillOk; rw [hs, ha]; rfl)
      go_enter Try.func13, Try.ntmps13
      go_wp2_with fail
      rw [← HU.out]
      clear HU
      refine (sShape_any W H q.length u0).mono ?_
      rintro e w' ⟨rfl, rfl⟩
      rw [hs]
      clear hs
      go_wp2_with fail
      refine (sAllIn_any A c _ q 0 255 u0 Hx.out (by omega)).mono ?_
      rintro e w' ⟨rfl, rfl⟩
      rw [ha]
      clear ha
      go_wp2
      exact bodyPost_ret (v := .agg #[.int .i64 0, .int .i64 0, .int .i64 0, .slice none 0 0]) (by simp [results, Try.results13, go_sem, r0, r1, r2, r3]) rfl (HNO.out HF.out _ _ _ _)
    · have HF : Hid (fillOk W H q = true) := Lib.hid (by unfold fillOk; rw [hs, ha]; rfl)
      obtain ⟨hW, hH, hP, _⟩ := vsh_bd hs
      have hq4 : q.length ≤ 4 := by omega
      have hq1 : 0 < q.length := by omega
      obtain ⟨W, rfl⟩ := Int.eq_ofNat_of_zero_le (show 0 ≤ W by omega)
      obtain ⟨H, rfl⟩ := Int.eq_ofNat_of_zero_le (show 0 ≤ H by omega)
      have hW16 : W ≤ 16 := by omega
      have hH16 : H ≤ 16 := by omega
      have hWH : W * H ≤ 256 := by have := Nat.mul_le_mul hW16 hH16; omega
      have hN : W * H * q.length ≤ 1024 := by have := Nat.mul_le_mul hWH hq4; omega
      have hNp : 0 < W * H * q.length := Nat.mul_pos (Nat.mul_pos (by omega) (by omega)) hq1
      clear r0 r1 r2 r3 f0 f1 f2 f3
      go_enter Try.func13, Try.ntmps13
      go_wp2_with fail
      rw [← HU.out]
      clear HU
      refine (sShape_any W H q.length u0).mono ?_
      rintro e w' ⟨rfl, rfl⟩
      rw [hs]
      clear hs
      go_wp2_with fail
      refine (sAllIn_any A c _ q 0 255 u0 Hx.out (by omega)).mono ?_
      rintro e w' ⟨rfl, rfl⟩
      rw [ha]
      clear ha
      go_wp2_with fail
      refine (newImage_any W H q.length hW16 hH16 hq4 u0).mono ?_
      rintro e u2 ⟨v2, rfl, hO2, hB2⟩
      have hzl : (zeros (W * H * q.length)).length = W * H * q.length := by simp [zeros]
      obtain ⟨g, c2, rfl, hg1, hg2⟩ := hO2.form (by rw [hzl]; exact hNp)
      obtain ⟨b3, hb3⟩ : ∃ b3, b3 = u2.heap.size := ⟨_, rfl⟩
      obtain ⟨n, hn⟩ : ∃ n, n = (zeros (W * H * q.length)).length := ⟨_, rfl⟩
      obtain ⟨P, hP'⟩ : ∃ P, P = q.length := ⟨_, rfl⟩
      have hgb : b3 ≠ g := by omega
      rw [← hn, ← hP']
      have HI0 : Hid (∃ ys : List Int, n = ys.length ∧ (∀ i, i < 0 → ys.getD i 0 = q.getD (i % P) 0) ∧ Own (u2.alloc (.cells #[.int .i64 (W : Int), .int .i64 (H : Int), .int .i64 (P : Int), .slice (some ⟨g, 0, none⟩) n c2] 25)) (w.heap.size + 1) (.slice (some ⟨g, 0, none⟩) n c2) ys ∧ Bx (u2.alloc (.cells #[.int .i64 (W : Int), .int .i64 (H : Int), .int .i64 (P : Int), .slice (some ⟨g, 0, none⟩) n c2] 25)) w.heap.size 25 (imC 0 0 0 (.slice none 0 0)) ∧ Bx (u2.alloc (.cells #[.int .i64 (W : Int), .int .i64 (H : Int), .int .i64 (P : Int), .slice (some ⟨g, 0, none⟩) n c2] 25)) b3 25 (imC W H P (.slice (some ⟨g, 0, none⟩) n c2)) ∧ Below w.heap.size w (u2.alloc (.cells #[.int .i64 (W : Int), .int .i64 (H : Int), .int .i64 (P : Int), .slice (some ⟨g, 0, none⟩) n c2] 25))) :=
        Lib.hid ⟨_, hn, fun i hi => by omega, by rw [hn]; exact (hO2.alloc _).base_le (by have := Hz.out; omega), (HR0.out.below hB2).alloc _, by rw [hb3]; exact Bx.new u2 _ _, (HB0.out.trans (hB2.mono HB0.out.size)).alloc (by have := HB0.out.size; have := hB2.size; omega) _⟩
      have hnP : n = W * H * P := by rw [hn, hzl, hP']
      have HnP := Lib.hid hnP
      have HB3 := Lib.hid hb3
      have HP' := Lib.hid hP'
      have hg1' : w.heap.size + 1 ≤ g := by have := Hz.out; omega
      have hP1 : 0 < P := by omega
      have hP4 : P ≤ 4 := by omega
      have hn1024 : n ≤ 1024 := by omega
      have hqP : P ≤ q.length := by omega
      clear hO2 hB2 HR0 HB0 Hz Hx HNO hn hb3 hnP hP' hzl hg1 hg2 hN hNp hWH hP hq4 hq1 hl
      go_wp2
      (try rw [← HB3.out])
      go_loopw [8] (fun iv wr => ∃ j : Nat, j ≤ n ∧ iv = .int .i64 (j : Int) ∧ Hid (∃ ys : List Int, n = ys.length ∧ (∀ i, i < j → ys.getD i 0 = q.getD (i % P) 0) ∧ Own wr (w.heap.size + 1) (.slice (some ⟨g, 0, none⟩) n c2) ys ∧ Bx wr w.heap.size 25 (imC 0 0 0 (.slice none 0 0)) ∧ Bx wr b3 25 (imC W H P (.slice (some ⟨g, 0, none⟩) n c2)) ∧ Below w.heap.size w wr)) (fun iv _ => n - (intOf iv).toNat)
      case atStart => exact ⟨0, Nat.zero_le _, rfl, HI0⟩
      case round =>
        obtain ⟨j, hj, rfl, hI⟩ := hrel
        obtain ⟨ys, hn, hys, hO, hR, hT, hB⟩ := hI.out
        obtain ⟨t0, t1, t2, t3⟩ := hT.im
        by_cases hlt : j < n
        · have hm : j % P < P := Nat.mod_lt _ hP1
          obtain ⟨b, off, rfl, hb, hc⟩ := (Hxw.out.belowTo hB (Nat.le_refl _)).cells_ (j := j % P) (by omega)
          have hcj := hc (j % P) (by omega)
          have hcw := hO.cell hn (j := j) (by omega)
          have hfw := hO.frozen hn j
          have hOd : Own wr.drew (w.heap.size + 1) (.slice (some ⟨g, 0, none⟩) n c2) ys := hO
          have hput := hOd.put hn j (q.getD (j % P) 0)
          have HN : Hid (∃ ys : List Int, n = ys.length ∧ (∀ i, i < j + 1 → ys.getD i 0 = q.getD (i % P) 0) ∧ Own (wr.drew.setCell ⟨g, j, none⟩ (.int .i64 (q.getD (j % P) 0))) (w.heap.size + 1) (.slice (some ⟨g, 0, none⟩) n c2) ys ∧ Bx (wr.drew.setCell ⟨g, j, none⟩ (.int .i64 (q.getD (j % P) 0))) w.heap.size 25 (imC 0 0 0 (.slice none 0 0)) ∧ Bx (wr.drew.setCell ⟨g, j, none⟩ (.int .i64 (q.getD (j % P) 0))) b3 25 (imC W H P (.slice (some ⟨g, 0, none⟩) n c2)) ∧ Below w.heap.size w (wr.drew.setCell ⟨g, j, none⟩ (.int .i64 (q.getD (j % P) 0)))) :=
            Lib.hid ⟨ys.set j (q.getD (j % P) 0), by simpa using hn, fun i hi => by
              rw [List.getD_eq_getElem?_getD, List.getElem?_set]
              by_cases e : j = i
              · subst e; simp [show j < ys.length by omega]
              · rw [if_neg e, ← List.getD_eq_getElem?_getD]; exact hys i (by omega), hput.1, Bx.mark (w := wr.drew) hR (by decide) hOd hput.2, Bx.mark (w := wr.drew) hT (by decide) hOd hput.2, hB.drew.setCell (by show w.heap.size ≤ g; omega) _⟩
          have rm : (j : Int).tmod (P : Int) = ((j % P : Nat) : Int) := by rw [Int.tmod_eq_emod_of_nonneg (by omega)]; exact (Int.natCast_emod j P).symm
          have hne : ¬ b = g := by omega
          have hPz : ((P : Int) == 0) = false := beq_eq_false_iff_ne.2 (by omega)
          clear hc hO hOd hR hT hB hput hys hI hn
          generalize q.getD (j % P) 0 = z at *
          generalize j % P = k at *
          generalize ys.getD j 0 = z' at *
          go_wp2
          go_region
          all_goals
            (try go_wp2)
            go_roundw
            case rel => exact ⟨j + 1, by omega, by go_num, HN⟩
            case measure => simp [intOf]; omega
        · have hjn : j = n := by omega
          have hE : ys = fillL W H q := fillL_of (by rw [← hn, HnP.out, HP'.out]) (fun i hi => by rw [← HP'.out]; exact hys i (by rw [hjn, HnP.out, HP'.out]; exact hi))
          obtain ⟨r0, r1, r2, r3⟩ := hR.im
          have f0 := hR.fz 0
          have f1 := hR.fz 1
          have f2 := hR.fz 2
          have f3 := hR.fz 3
          rw [hE] at hO
          have HE := Lib.hid (im_end (w := w) (r := w.heap.size) (base := w.heap.size + 1) hO (by omega) (Nat.le_refl _) hB (.int .i64 (W : Int)) (.int .i64 (H : Int)) (.int .i64 (P : Int)) (.slice (some ⟨g, 0, none⟩) n c2))
          clear hO hR hT hB hI hE hn hys hjn
          go_wp2
          exact bodyPost_ret (v := .agg #[.int .i64 (W : Int), .int .i64 (H : Int), .int .i64 (P : Int), .slice (some ⟨g, 0, none⟩) n c2]) (by simp [results, Try.results13, go_sem, r0, r1, r2, r3]) rfl (by have h := HP'.out; subst h; exact MadeIf.yes HF.out ⟨_, rfl, HE.out.1, HE.out.2⟩)
end Go.Proofs.Ytjcohmljpokgcaa
