/- Contract of FillImage in the program. -/
import Derived.Test.YtjgcondkoaegnaaGridF
namespace Go.Proofs.Ytjgcondkoaegnaa
open Go.RowKit Go.Shelf
set_option linter.unusedSimpArgs false
set_option linter.unusedVariables false

/-- The numbers of an image with one color. -/
def fillL (W H : Nat) (q : List Int) : List Int := img W H q.length (fun x y p => q.getD p 0)
def fillOk (W H : Int) (q : List Int) : Bool := vsh W H q.length && allB 0 255 q
set_option maxHeartbeats 1000000 in
theorem iVpx_any (A : Option Addr) (c B : Nat) (xs : List Int) (w : World) (h : Rds .i64 w B A xs) (hl : xs.length ≤ 2000000) :
    Calls Try.prog 47 #[.slice A xs.length c, .int .i64 (xs.length : Int)] w fun e w' => e = .returned (.bool (allB 0 255 xs)) ∧ w = w' := by
  have Hh := Lib.hid h
  clear h
  go_enter Try.func47, Try.ntmps47
  go_wp2_with fail
  refine (areBytes_any A c B xs w Hh.out (by omega)).mono ?_
  rintro e w' ⟨rfl, rfl⟩
  go_wp2
  go_ret
  exact ⟨rfl, rfl⟩
set_option maxHeartbeats 2000000 in
theorem fill1_any (col : Nat → Int) (x y : Int) (p8 : Nat) (w : World) (hb : Bx w p8 72 #[.int .i64 (col 0), .int .i64 (col 1), .int .i64 (col 2), .int .i64 (col 3)]) :
    Calls Try.prog 51 #[.int .i64 x, .int .i64 y, .pointer (some ⟨p8, 0, none⟩)] w fun e w' => e = .returned (colV col) ∧ Below w.heap.size w w' := by
  obtain ⟨c0, c1, c2, c3⟩ := bx4 hb
  have hlt := hb.lt
  clear hb
  go_enter Try.func51, Try.ntmps51
  go_wp2
  exact bodyPost_ret (v := colV col) (by simp [results, Try.results51, go_sem, colV]) rfl ⟨rfl, by (repeat' (first | (exact Below.refl _ _) | (refine Below.setCell ?_ (by first | omega | (simp; done) | (simp; omega)) _) | (refine below_dn ?_ _) | (refine Below.drew ?_) | (refine Below.alloc ?_ (by first | omega | (simp; done) | (simp; omega)) _) | (exact Below.refl _ _)))⟩
set_option maxHeartbeats 8000000 in
theorem i_FillImage (W H : Int) (A : Option Addr) (c : Nat) (q : List Int) (w : World) (hx : Rds .i64 w w.heap.size A q) (hl : q.length ≤ 2000000) :
    Calls Try.prog 19 #[.int .i64 W, .int .i64 H, .slice A q.length c] w (MadeIf (fillOk W H q) W H q.length (fillL W.toNat H.toNat q) w) := by
  obtain ⟨u0, hu⟩ : ∃ u0, u0 = w.alloc (.cells #[.int .i64 0, .int .i64 0, .int .i64 0, .slice none 0 0] 29) := ⟨_, rfl⟩
  have Hz : Hid (u0.heap.size = w.heap.size + 1) := Lib.hid (by rw [hu]; simp)
  have HB0 : Hid (Below w.heap.size w u0) := Lib.hid (by rw [hu]; exact (Below.refl w.heap.size w).alloc (Nat.le_refl _) _)
  have HR0 : Hid (Bx u0 w.heap.size 29 (imC 0 0 0 (.slice none 0 0))) := Lib.hid (by rw [hu]; exact Bx.new w _ _)
  have Hx := Lib.hid ((hx.below HB0.out).more HB0.out.size)
  have HU := Lib.hid hu
  clear hx hu
  have hno : fillOk W H q = false → ∀ v0 v1 v2 v3 : Value, MadeIf (fillOk W H q) W H q.length (fillL W.toNat H.toNat q) w (.returned (.agg #[.int .i64 0, .int .i64 0, .int .i64 0, .slice none 0 0])) ((((u0.setCell ⟨w.heap.size, 0, none⟩ v0).setCell ⟨w.heap.size, 1, none⟩ v1).setCell ⟨w.heap.size, 2, none⟩ v2).setCell ⟨w.heap.size, 3, none⟩ v3) := fun hf v0 v1 v2 v3 => by
    have h := im_end (w := w) (r := w.heap.size) (base := w.heap.size + 1) (show Own u0 (w.heap.size + 1) (.slice none 0 0) [] from World.ownsRow_nil _ _ _ _) (by omega) (Nat.le_refl _) HB0.out v0 v1 v2 v3
    exact MadeIf.no hf ⟨_, rfl, h.1, h.2⟩
  have HNO := Lib.hid hno
  clear hno
  obtain ⟨r0, r1, r2, r3⟩ := HR0.out.im
  have f0 := HR0.out.fz 0
  have f1 := HR0.out.fz 1
  have f2 := HR0.out.fz 2
  have f3 := HR0.out.fz 3
  cases hs : vsh W H q.length
  · have HF : Hid (fillOk W H q = false) := Lib.hid (by unfold fillOk; rw [hs]; rfl)
    go_enter Try.func19, Try.ntmps19
    go_wp2_with fail
    rw [← HU.out]
    clear HU
    refine (iShape_any W H q.length u0).mono ?_
    rintro e w' ⟨rfl, rfl⟩
    rw [hs]
    clear hs
    go_wp2
    exact bodyPost_ret (v := .agg #[.int .i64 0, .int .i64 0, .int .i64 0, .slice none 0 0]) (by simp [results, Try.results19, go_sem, r0, r1, r2, r3]) rfl (HNO.out HF.out _ _ _ _)
  · cases ha : allB 0 255 q
    · have HF : Hid (fillOk W H q = false) := Lib.hid (by unfold fillOk; rw [hs, ha]; rfl)
      go_enter Try.func19, Try.ntmps19
      go_wp2_with fail
      rw [← HU.out]
      clear HU
      refine (iShape_any W H q.length u0).mono ?_
      rintro e w' ⟨rfl, rfl⟩
      rw [hs]
      clear hs
      go_wp2_with fail
      refine (iVpx_any A c _ q u0 Hx.out hl).mono ?_
      rintro e w' ⟨rfl, rfl⟩
      rw [ha]
      clear ha
      go_wp2
      exact bodyPost_ret (v := .agg #[.int .i64 0, .int .i64 0, .int .i64 0, .slice none 0 0]) (by simp [results, Try.results19, go_sem, r0, r1, r2, r3]) rfl (HNO.out HF.out _ _ _ _)
    · have HF : Hid (fillOk W H q = true) := Lib.hid (by unfold fillOk; rw [hs, ha]; rfl)
      obtain ⟨hW, hH, hP, _⟩ := vsh_bd hs
      have hq4 : q.length ≤ 4 := by omega
      obtain ⟨W, rfl⟩ := Int.eq_ofNat_of_zero_le (show 0 ≤ W by omega)
      obtain ⟨H, rfl⟩ := Int.eq_ofNat_of_zero_le (show 0 ≤ H by omega)
      have hW16 : W ≤ 16 := by omega
      have hH16 : H ≤ 16 := by omega
      have Eg : Hid (∀ args w, (callFunc 51 args).run Try.prog w = .ok (.enter 51 args) w) := Lib.hid (enters_of Try.func51 (by kernel_rfl) rfl)
      clear r0 r1 r2 r3 f0 f1 f2 f3
      go_enter Try.func19, Try.ntmps19
      go_wp2_with fail
      rw [← HU.out]
      clear HU
      refine (iShape_any W H q.length u0).mono ?_
      rintro e w' ⟨rfl, rfl⟩
      rw [hs]
      clear hs
      go_wp2_with fail
      refine (iVpx_any A c _ q u0 Hx.out hl).mono ?_
      rintro e w' ⟨rfl, rfl⟩
      rw [ha]
      clear ha
      go_wp2_with fail
      refine (colorOf_any A c q u0 Hx.out hq4).mono ?_
      rintro e u1 ⟨rfl, hB1⟩
      obtain ⟨col, hcol⟩ : ∃ col : Nat → Int, (fun p => q.getD p 0) = col := ⟨_, rfl⟩
      rw [hcol]
      have HCol := Lib.hid hcol
      clear hcol
      simp only [colV]
      have HC : Hid (Bx (u1.alloc (.cells #[.int .i64 (col 0), .int .i64 (col 1), .int .i64 (col 2), .int .i64 (col 3)] 72)) u1.heap.size 72 #[.int .i64 (col 0), .int .i64 (col 1), .int .i64 (col 2), .int .i64 (col 3)]) := Lib.hid (Bx.new u1 _ _)
      have HR1 := Lib.hid ((HR0.out.below hB1).alloc (.cells #[.int .i64 (col 0), .int .i64 (col 1), .int .i64 (col 2), .int .i64 (col 3)] 72))
      have HB1 := Lib.hid ((HB0.out.trans (hB1.mono HB0.out.size)).alloc (by have := HB0.out.size; have := hB1.size; omega) (.cells #[.int .i64 (col 0), .int .i64 (col 1), .int .i64 (col 2), .int .i64 (col 3)] 72))
      have Hz1 : Hid (w.heap.size + 1 ≤ (u1.alloc (.cells #[.int .i64 (col 0), .int .i64 (col 1), .int .i64 (col 2), .int .i64 (col 3)] 72)).heap.size) := Lib.hid (by have := Hz.out; have := hB1.size; simp; omega)
      clear hB1 HR0 HB0 Hz Hx HNO
      go_wp2_with fail
      generalize u1.alloc (.cells #[.int .i64 (col 0), .int .i64 (col 1), .int .i64 (col 2), .int .i64 (col 3)] 72) = u2 at *
      refine (build_any W H hW16 hH16 51 #[.pointer (some ⟨u1.heap.size, 0, none⟩)] (fun x y => col) u2 Eg.out (fun x y w' hx hy hb => fill1_any col x y u1.heap.size w' (HC.out.below hb))).mono ?_
      rintro e u3 ⟨v3, rfl, hO3, hB3⟩
      obtain ⟨A3, c3, rfl, hc3⟩ := hO3.slice
      have HR3 := Lib.hid (HR1.out.below hB3)
      have HB3 := Lib.hid (HB1.out.trans (hB3.mono HB1.out.size))
      have Hr3 := Lib.hid hO3.rds
      have Hz3 : Hid (w.heap.size + 1 ≤ u3.heap.size) := Lib.hid (by have := Hz1.out; have := hB3.size; omega)
      clear hO3 hB3 HR1 HB1 Hz1 HC Eg
      go_wp2_with fail
      refine (imageOf_any W H q.length hW16 hH16 hq4 A3 c3 (fun x y => col) u3 Hr3.out hc3).mono ?_
      rintro e u4 ⟨v4, rfl, hO4, hB4⟩
      obtain ⟨A4, c4, rfl, hc4⟩ := hO4.slice
      have hR4 := HR3.out.below hB4
      obtain ⟨r0, r1, r2, r3⟩ := hR4.im
      have f0 := hR4.fz 0
      have f1 := hR4.fz 1
      have f2 := hR4.fz 2
      have f3 := hR4.fz 3
      have HE := Lib.hid (im_end (w := w) (r := w.heap.size) (base := w.heap.size + 1) (hO4.base_le Hz3.out) (by omega) (Nat.le_refl _) (HB3.out.trans (hB4.mono HB3.out.size)) (.int .i64 (W : Int)) (.int .i64 (H : Int)) (.int .i64 (q.length : Int)) (.slice A4 (img W H q.length (fun x y => col)).length c4))
      clear hO4 hB4 hR4 HR3 HB3 Hr3 Hz3
      go_wp2
      exact bodyPost_ret (v := .agg #[.int .i64 (W : Int), .int .i64 (H : Int), .int .i64 (q.length : Int), .slice A4 (img W H q.length (fun x y => col)).length c4]) (by simp [results, Try.results19, go_sem, r0, r1, r2, r3]) rfl (MadeIf.yes HF.out (by have h := HCol.out; subst h; exact ⟨_, rfl, HE.out.1, HE.out.2⟩))
end Go.Proofs.Ytjgcondkoaegnaa
