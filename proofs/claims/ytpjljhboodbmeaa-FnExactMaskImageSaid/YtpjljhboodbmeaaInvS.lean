/- Contract of InvertImage in the model. -/
import Derived.Test.YtpjljhboodbmeaaInvI
import Derived.Test.YtpjljhboodbmeaaImgB
namespace Go.Proofs.Ytpjljhboodbmeaa
open Go.RowKit
set_option linter.unusedSimpArgs false
set_option linter.unusedVariables false

theorem inv_put (xs : List Int) (j : Nat) (hj : j < xs.length) : ((inv xs).take j ++ xs.drop j).set j (255 - xs.getD j 0) = (inv xs).take (j + 1) ++ xs.drop (j + 1) := by
  have hlj : ((inv xs).take j).length = j := by simp [inv]; omega
  have hd : xs.drop j = xs[j] :: xs.drop (j + 1) := List.drop_eq_getElem_cons hj
  rw [inv_step xs j hj, List.set_append_right _ _ (by omega), hlj, Nat.sub_self, hd, List.set_cons_zero, List.append_assoc]
  rfl
set_option maxHeartbeats 8000000 in
theorem s_Invert (W H P : Int) (A : Option Addr) (c : Nat) (xs : List Int) (w : World) (hx : Rds .i64 w w.heap.size A xs) (hl : xs.length ≤ 2000000) :
    Calls Try.prog 25 #[.agg #[.int .i64 W, .int .i64 H, .int .i64 P, .slice A xs.length c]] w (MadeIf (vim W H P xs) W H P (inv xs) w) := by
  have Hx := Lib.hid ((((hx.alloc (Nat.le_refl _) (.cells #[.int .i64 W, .int .i64 H, .int .i64 P, .slice A xs.length c] 26)).alloc (by simp) (.cells #[.int .i64 0, .int .i64 0, .int .i64 0, .slice none 0 0] 26))))
  have HB0 := Lib.hid (((Below.refl w.heap.size w).alloc (Nat.le_refl _) (.cells #[.int .i64 W, .int .i64 H, .int .i64 P, .slice A xs.length c] 26)).alloc (by simp) (.cells #[.int .i64 0, .int .i64 0, .int .i64 0, .slice none 0 0] 26))
  have HM0 : Hid (Bx ((w.alloc (.cells #[.int .i64 W, .int .i64 H, .int .i64 P, .slice A xs.length c] 26)).alloc (.cells #[.int .i64 0, .int .i64 0, .int .i64 0, .slice none 0 0] 26)) w.heap.size 26 (imC W H P (.slice A xs.length c))) := Lib.hid ((Bx.new w 26 _).alloc _)
  have HR0 : Hid (Bx ((w.alloc (.cells #[.int .i64 W, .int .i64 H, .int .i64 P, .slice A xs.length c] 26)).alloc (.cells #[.int .i64 0, .int .i64 0, .int .i64 0, .slice none 0 0] 26)) (w.heap.size + 1) 26 (imC 0 0 0 (.slice none 0 0))) := Lib.hid (by have := Bx.new (w.alloc (.cells #[.int .i64 W, .int .i64 H, .int .i64 P, .slice A xs.length c] 26)) 26 (imC 0 0 0 (.slice none 0 0)); simpa [imC] using this)
  have Hsz : Hid (((w.alloc (.cells #[.int .i64 W, .int .i64 H, .int .i64 P, .slice A xs.length c] 26)).alloc (.cells #[.int .i64 0, .int .i64 0, .int .i64 0, .slice none 0 0] 26)).heap.size = w.heap.size + 2) := Lib.hid (by simp)
  clear hx
  go_enter Try.func25, Try.ntmps25
  go_wp2_with fail
  generalize (w.alloc (.cells #[.int .i64 W, .int .i64 H, .int .i64 P, .slice A xs.length c] 26)).alloc (.cells #[.int .i64 0, .int .i64 0, .int .i64 0, .slice none 0 0] 26) = u0 at *
  refine (sVimg_any W H P A c xs u0 (Hx.out.more (by have := Hsz.out; omega)) hl).mono ?_
  rintro e u1 ⟨rfl, hB⟩
  have hM := HM0.out.below hB
  have hR := HR0.out.below hB
  have hB1 := HB0.out.trans (hB.mono (by have := Hsz.out; omega))
  have hsz1 : w.heap.size + 2 ≤ u1.heap.size := by have := Hsz.out; have := hB.size; omega
  have Hx1 := Lib.hid (Hx.out.belowTo hB (by have := Hsz.out; omega))
  have hlt1 : w.heap.size < u1.heap.size := by omega
  clear hB Hx HB0 HM0 HR0 Hsz
  cases hv : vim W H P xs
  · have Hv := Lib.hid hv
    obtain ⟨r0, r1, r2, r3⟩ := hR.im
    have f0 := hR.fz 0
    have f1 := hR.fz 1
    have f2 := hR.fz 2
    have f3 := hR.fz 3
    have HE := Lib.hid (im_end (w := w) (r := w.heap.size + 1) (base := w.heap.size + 2) (show Own u1 (w.heap.size + 2) (.slice none 0 0) [] from World.ownsRow_nil _ _ _ _) (by omega) (by omega) hB1 (.int .i64 0) (.int .i64 0) (.int .i64 0) (.slice none 0 0))
    clear hR hM hB1
    go_wp2
    exact bodyPost_ret (v := .agg #[.int .i64 0, .int .i64 0, .int .i64 0, .slice none 0 0]) (by simp [results, Try.results25, go_sem, r0, r1, r2, r3]) rfl (MadeIf.no Hv.out ⟨_, rfl, HE.out.1, HE.out.2⟩)
  · have Hv := Lib.hid hv
    obtain ⟨b0, b1, b2, b3⟩ := hM.im
    have hv' : vim W H P xs = (vsh W H P && (decide ((xs.length : Int) = W * H * P) && allB 0 255 xs)) := rfl
    rw [hv] at hv'
    have hbyt : ∀ j, j < xs.length → 0 ≤ xs.getD j 0 ∧ xs.getD j 0 ≤ 255 := fun j hj => by
      have ha : allB 0 255 xs = true := by
        cases h : allB 0 255 xs
        · rw [h] at hv'; simp at hv'
        · rfl
      have := of_decide_eq_true ha (xs[j]) (List.getElem_mem hj)
      simpa [hj] using this
    have hpos : 0 < xs.length := by
      have hs : vsh W H P = true := by
        cases h : vsh W H P
        · rw [h] at hv'; simp at hv'
        · rfl
      have hd : (xs.length : Int) = W * H * P := by
        by_cases h : (xs.length : Int) = W * H * P
        · exact h
        · rw [decide_eq_false h] at hv'; simp at hv'
      have := vsh_bd hs
      omega
    have Hbyt := Lib.hid hbyt
    have HB1 := Lib.hid hB1
    clear hbyt hv'
    go_wp2_with fail
    refine (sCopyImage_any W H P A c xs u1 (Hx1.out.more (by omega)) hl).mono ?_
    rintro e u2 ⟨v2, rfl, hO2, hB2⟩
    obtain ⟨g, c2, rfl, hg1, hg2⟩ := hO2.form hpos
    have hsz2 := hB2.size
    have HI : Hid (Own (u2.alloc (.cells #[.int .i64 W, .int .i64 H, .int .i64 P, .slice (some ⟨g, 0, none⟩) xs.length c2] 26)) u1.heap.size (.slice (some ⟨g, 0, none⟩) xs.length c2) xs ∧ Bx (u2.alloc (.cells #[.int .i64 W, .int .i64 H, .int .i64 P, .slice (some ⟨g, 0, none⟩) xs.length c2] 26)) w.heap.size 26 (imC W H P (.slice A xs.length c)) ∧ Bx (u2.alloc (.cells #[.int .i64 W, .int .i64 H, .int .i64 P, .slice (some ⟨g, 0, none⟩) xs.length c2] 26)) (w.heap.size + 1) 26 (imC 0 0 0 (.slice none 0 0)) ∧ Bx (u2.alloc (.cells #[.int .i64 W, .int .i64 H, .int .i64 P, .slice (some ⟨g, 0, none⟩) xs.length c2] 26)) u2.heap.size 26 (imC W H P (.slice (some ⟨g, 0, none⟩) xs.length c2)) ∧ Below w.heap.size w (u2.alloc (.cells #[.int .i64 W, .int .i64 H, .int .i64 P, .slice (some ⟨g, 0, none⟩) xs.length c2] 26))) :=
      Lib.hid ⟨hO2.alloc _, (hM.below hB2).alloc _, (hR.below hB2).alloc _, Bx.new u2 _ _, (hB1.trans (hB2.mono (by omega))).alloc (by have := hB1.size; omega) _⟩
    clear hO2 hB2 hM hR hB1 b0 b1 b2 b3
    go_wp2
    clear hv
    go_loopw [4] (fun i wr => ∃ j : Nat, j ≤ xs.length ∧ i = .int .i64 j ∧ Hid (Own wr u1.heap.size (.slice (some ⟨g, 0, none⟩) xs.length c2) ((inv xs).take j ++ xs.drop j) ∧ Bx wr w.heap.size 26 (imC W H P (.slice A xs.length c)) ∧ Bx wr (w.heap.size + 1) 26 (imC 0 0 0 (.slice none 0 0)) ∧ Bx wr u2.heap.size 26 (imC W H P (.slice (some ⟨g, 0, none⟩) xs.length c2)) ∧ Below w.heap.size w wr)) (fun i _ => xs.length - (intOf i).toNat)
    case atStart => exact ⟨0, Nat.zero_le _, rfl, Lib.hid (by simpa using HI.out)⟩
    case round =>
      obtain ⟨j, hj, rfl, hI⟩ := hrel
      obtain ⟨i1, i2, i3, i4, i5⟩ := hI.out
      have hlj : ((inv xs).take j ++ xs.drop j).length = xs.length := by simp [inv]; omega
      obtain ⟨b0, b1, b2, b3⟩ := i2.im
      obtain ⟨d0, d1, d2, d3⟩ := i4.im
      by_cases hlt : j < xs.length
      · obtain ⟨b, off, rfl, hb1, hc⟩ := (Hx1.out.belowTo (show Below w.heap.size u1 wr from ⟨i5.os.trans HB1.out.os.symm, i5.tape.trans HB1.out.tape.symm, i5.output.trans HB1.out.output.symm, by have := (i4.lt); omega, fun k hk => (i5.block k hk).trans (HB1.out.block k hk).symm⟩) (Nat.le_refl _)).cells_ hlt
        have hcj := hc j hlt
        have hcw := i1.cell hlj.symm (j := j) (by omega)
        have hfw := i1.frozen hlj.symm j
        have i1d : Own wr.drew u1.heap.size (.slice (some ⟨g, 0, none⟩) xs.length c2) ((inv xs).take j ++ xs.drop j) := i1
        have hput := i1d.put hlj.symm j (255 - xs.getD j 0)
        rw [inv_put xs j hlt] at hput
        have HN : Hid (Own (wr.drew.setCell ⟨g, j, none⟩ (.int .i64 (255 - xs.getD j 0))) u1.heap.size (.slice (some ⟨g, 0, none⟩) xs.length c2) ((inv xs).take (j + 1) ++ xs.drop (j + 1)) ∧ Bx (wr.drew.setCell ⟨g, j, none⟩ (.int .i64 (255 - xs.getD j 0))) w.heap.size 26 (imC W H P (.slice (some ⟨b, off, none⟩) xs.length c)) ∧ Bx (wr.drew.setCell ⟨g, j, none⟩ (.int .i64 (255 - xs.getD j 0))) (w.heap.size + 1) 26 (imC 0 0 0 (.slice none 0 0)) ∧ Bx (wr.drew.setCell ⟨g, j, none⟩ (.int .i64 (255 - xs.getD j 0))) u2.heap.size 26 (imC W H P (.slice (some ⟨g, 0, none⟩) xs.length c2)) ∧ Below w.heap.size w (wr.drew.setCell ⟨g, j, none⟩ (.int .i64 (255 - xs.getD j 0)))) :=
          Lib.hid ⟨hput.1, Bx.mark (w := wr.drew) i2 (by decide) i1d hput.2, Bx.mark (w := wr.drew) i3 (by decide) i1d hput.2, Bx.mark (w := wr.drew) i4 (by decide) i1d hput.2, i5.drew.setCell (by show w.heap.size ≤ g; omega) _⟩
        have hr := Hbyt.out j hlt
        have hne : ¬ b = g := by omega
        clear hc i1 i1d i2 i3 i4 i5 hput hlj hI HI
        generalize xs.getD j 0 = x at *
        generalize (List.getD ((inv xs).take j ++ xs.drop j) j 0) = z at *
        go_wp2
        go_region
        all_goals
          (try go_wp2)
          go_roundw
          case rel => exact ⟨j + 1, by omega, by go_num, HN⟩
          case measure => simp [intOf]; omega
      · have hj' : j = xs.length := by omega
        have e : (inv xs).take j ++ xs.drop j = inv xs := by subst hj'; rw [List.drop_length, List.append_nil, List.take_of_length_le (by rw [inv_len]; exact Nat.le_refl _)]
        rw [e] at i1
        obtain ⟨r0, r1, r2, r3⟩ := i3.im
        have f0 := i3.fz 0
        have f1 := i3.fz 1
        have f2 := i3.fz 2
        have f3 := i3.fz 3
        have HE := Lib.hid (im_end (w := w) (r := w.heap.size + 1) i1 (by omega) (by omega) i5 (.int .i64 W) (.int .i64 H) (.int .i64 P) (.slice (some ⟨g, 0, none⟩) xs.length c2))
        clear i1 i2 i3 i4 i5 e hj' hI HI hlj
        go_wp2
        exact bodyPost_ret (v := .agg #[.int .i64 W, .int .i64 H, .int .i64 P, .slice (some ⟨g, 0, none⟩) xs.length c2]) (by simp [results, Try.results25, go_sem, r0, r1, r2, r3]) rfl (MadeIf.yes Hv.out ⟨_, rfl, HE.out.1, HE.out.2⟩)
end Go.Proofs.Ytpjljhboodbmeaa
