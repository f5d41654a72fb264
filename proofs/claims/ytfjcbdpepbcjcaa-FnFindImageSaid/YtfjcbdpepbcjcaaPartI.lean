/- Contract of buildPart of colors, in the program. -/
import Derived.Test.YtfjcbdpepbcjcaaGridF
import Derived.Test.YtfjcbdpepbcjcaaBoxI
namespace Go.Proofs.Ytfjcbdpepbcjcaa
open Go.RowKit Go.Shelf
set_option linter.unusedSimpArgs false
set_option linter.unusedVariables false

/-- The method value at of a grid. -/
def atV (G : Value) : Value := .func (.func 45) #[G] #[]
set_option maxHeartbeats 4000000 in
theorem part1_any (W H n : Nat) (hn : W * H = n) (hW : W ≤ 16) (hH : H ≤ 16) (A : Option Addr) (c : Nat) (F : Nat → Nat → Nat → Int) (X0 Y0 x y : Nat) (hx : X0 + x < W) (hy : Y0 + y < H) (bw bh : Int) (pg pb : Nat) (w : World) (hr : Rds .i64 w w.heap.size A (img W H 4 F)) (hc : n ≤ c)
    (hg : Bx w pg 71 #[atV (.agg #[.int .i64 (W : Int), .int .i64 (H : Int), .slice A n c])]) (hb : Bx w pb 27 #[.int .i64 (X0 : Int), .int .i64 (Y0 : Int), .int .i64 bw, .int .i64 bh]) :
    Calls Try.prog 71 #[.int .i64 (x : Int), .int .i64 (y : Int), .pointer (some ⟨pg, 0, none⟩), .pointer (some ⟨pb, 0, none⟩)] w fun e w' => e = .returned (colV (F (X0 + x) (Y0 + y))) ∧ Below w.heap.size w w' := by
  have g0 : w.cell? ⟨pg, 0, none⟩ = some (.func (.func 45) #[.agg #[.int .i64 (W : Int), .int .i64 (H : Int), .slice A n c]] #[]) := (cell_of_row w pg 0 _ _ _ hg).trans rfl
  obtain ⟨b0, b1, b2, b3⟩ := bx4 hb
  have hgl := hg.lt
  have hbl := hb.lt
  have Hr := Lib.hid (hr.alloc (Nat.le_refl _) (.cells #[.int .i64 0, .int .i64 0, .int .i64 0, .int .i64 0] 70))
  have Hn := Lib.hid hn
  have ex := Lib.hid (show (X0 : Int) + (x : Int) = ((X0 + x : Nat) : Int) by omega)
  have ey := Lib.hid (show (Y0 : Int) + (y : Int) = ((Y0 + y : Nat) : Int) by omega)
  have Eg : Hid (∀ args w, (callFunc 45 args).run Try.prog w = .ok (.enter 45 args) w) := Lib.hid (enters_of Try.func45 (by kernel_rfl) rfl)
  have eg := Eg.out
  clear hr hg hb hn Eg
  go_enter Try.func71, Try.ntmps71
  go_wp2_with fail
  rw [ex.out, ey.out]
  refine (at_n W H n Hn.out hW hH A c F (X0 + x) (Y0 + y) hx hy _ (Hr.out.more (by simp)) hc).mono ?_
  rintro e w2 ⟨rfl, hB2⟩
  have hr0 : w2.heap[w.heap.size]? = some (.cells #[.int .i64 0, .int .i64 0, .int .i64 0, .int .i64 0] 70 (0, 0)) := (hB2.block _ (by simp)).trans (heap_alloc_new w _)
  have r0 := cell_of_row w2 w.heap.size 0 _ _ _ hr0
  have r1 := cell_of_row w2 w.heap.size 1 _ _ _ hr0
  have r2 := cell_of_row w2 w.heap.size 2 _ _ _ hr0
  have r3 := cell_of_row w2 w.heap.size 3 _ _ _ hr0
  have f0 := frozen_of_row w2 w.heap.size 0 _ _ hr0
  have f1 := frozen_of_row w2 w.heap.size 1 _ _ hr0
  have f2 := frozen_of_row w2 w.heap.size 2 _ _ hr0
  have f3 := frozen_of_row w2 w.heap.size 3 _ _ hr0
  have HW : Hid (Below w.heap.size w w2) := Lib.hid (((Below.refl w.heap.size w).alloc (Nat.le_refl _) _).trans (hB2.mono (by simp)))
  clear hr0 hB2 g0 b0 b1 b2 b3
  simp only [colV]
  go_wp2
  exact bodyPost_ret (v := colV (F (X0 + x) (Y0 + y))) (by simp [results, Try.results71, go_sem, r0, r1, r2, r3, colV]) rfl ⟨rfl, by (repeat' (first | (exact HW.out) | (refine Below.setCell ?_ (by first | omega | (simp; done) | (simp; omega)) _) | (refine below_dn ?_ _) | (refine Below.drew ?_) | (refine Below.alloc ?_ (by first | omega | (simp; done) | (simp; omega)) _) | (exact Below.refl _ _)))⟩
set_option maxHeartbeats 4000000 in
theorem part_any (W H n : Nat) (hn : W * H = n) (hW : W ≤ 16) (hH : H ≤ 16) (A : Option Addr) (c : Nat) (F : Nat → Nat → Nat → Int) (X0 Y0 bw bh : Nat) (hXw : X0 + bw ≤ W) (hYh : Y0 + bh ≤ H) (w : World) (hr : Rds .i64 w w.heap.size A (img W H 4 F)) (hc : n ≤ c) :
    Calls Try.prog 44 #[.agg #[.int .i64 (X0 : Int), .int .i64 (Y0 : Int), .int .i64 (bw : Int), .int .i64 (bh : Int)], atV (.agg #[.int .i64 (W : Int), .int .i64 (H : Int), .slice A n c])] w (GridC bw bh (fun x y => F (X0 + x) (Y0 + y)) w) := by
  obtain ⟨u0, hu⟩ : ∃ u0, u0 = ((w.alloc (.cells #[.int .i64 (X0 : Int), .int .i64 (Y0 : Int), .int .i64 (bw : Int), .int .i64 (bh : Int)] 27)).alloc (.cells #[atV (.agg #[.int .i64 (W : Int), .int .i64 (H : Int), .slice A n c])] 71)).alloc (.cells #[.int .i64 0, .int .i64 0, .slice none 0 0] 51) := ⟨_, rfl⟩
  have Hsz : Hid (u0.heap.size = w.heap.size + 3) := Lib.hid (by rw [hu]; simp)
  have HB0 : Hid (Below w.heap.size w u0) := Lib.hid (by rw [hu]; exact (((Below.refl w.heap.size w).alloc (Nat.le_refl _) _).alloc (by simp) _).alloc (by simp <;> omega) _)
  have HP0 : Hid (Bx u0 w.heap.size 27 #[.int .i64 (X0 : Int), .int .i64 (Y0 : Int), .int .i64 (bw : Int), .int .i64 (bh : Int)]) := Lib.hid (by rw [hu]; exact Bx.at2.1)
  have HG0 : Hid (Bx u0 (w.heap.size + 1) 71 #[atV (.agg #[.int .i64 (W : Int), .int .i64 (H : Int), .slice A n c])]) := Lib.hid (by rw [hu]; exact Bx.at2.2.1)
  have HR0 : Hid (Bx u0 (w.heap.size + 2) 51 #[.int .i64 0, .int .i64 0, .slice none 0 0]) := Lib.hid (by rw [hu]; exact Bx.at2.2.2)
  have Hr := Lib.hid ((hr.below HB0.out).more (by have := Hsz.out; omega : w.heap.size ≤ u0.heap.size))
  have HU := Lib.hid hu
  have Eg : Hid (∀ args w, (callFunc 71 args).run Try.prog w = .ok (.enter 71 args) w) := Lib.hid (enters_of Try.func71 (by kernel_rfl) rfl)
  have HAt : Hid (atV (.agg #[.int .i64 (W : Int), .int .i64 (H : Int), .slice A n c]) = atV (.agg #[.int .i64 (W : Int), .int .i64 (H : Int), .slice A n c])) := Lib.hid rfl
  generalize hat : atV (.agg #[.int .i64 (W : Int), .int .i64 (H : Int), .slice A n c]) = av at HU ⊢
  have HA := Lib.hid hat
  clear hr hu hat HAt
  go_enter Try.func44, Try.ntmps44
  go_wp2_with fail
  rw [← HU.out]
  clear HU
  refine (build_any bw bh (by omega) (by omega) 71 #[.pointer (some ⟨w.heap.size + 1, 0, none⟩), .pointer (some ⟨w.heap.size, 0, none⟩)] (fun x y => F (X0 + x) (Y0 + y)) u0 Eg.out (fun x y w' hx hy hbel =>
    part1_any W H n hn hW hH A c F X0 Y0 x y (by omega) (by omega) bw bh (w.heap.size + 1) w.heap.size w' ((Hr.out.belowTo hbel (Nat.le_refl _)).more hbel.size) hc (HG0.out.below hbel) (HP0.out.below hbel))).mono ?_
  rintro e u1 ⟨v1, rfl, hO1, hB1⟩
  obtain ⟨A1, c1, rfl, hc1⟩ := hO1.slice
  have hR1 := HR0.out.below hB1
  obtain ⟨r0, r1, r2⟩ := bx3 hR1
  have f0 := frozen_of_row u1 (w.heap.size + 2) 0 _ _ hR1
  have f1 := frozen_of_row u1 (w.heap.size + 2) 1 _ _ hR1
  have f2 := frozen_of_row u1 (w.heap.size + 2) 2 _ _ hR1
  have HB1 := Lib.hid (HB0.out.trans (hB1.mono (by have := Hsz.out; omega)))
  have HE : Hid (∀ a0 a1 a2 : Value, OwnC (((u1.setCell ⟨w.heap.size + 2, 0, none⟩ a0).setCell ⟨w.heap.size + 2, 1, none⟩ a1).setCell ⟨w.heap.size + 2, 2, none⟩ a2) w.heap.size (.slice A1 (bw * bh) c1) (bw * bh) (img bw bh 4 (fun x y => F (X0 + x) (Y0 + y)))) := Lib.hid fun a0 a1 a2 =>
    ((hO1.setB (by have := Hsz.out; simp; omega) a0).setB (by have := Hsz.out; simp; omega) a1).setB (by have := Hsz.out; simp; omega) a2 |>.base_le (by have := Hsz.out; omega)
  clear hR1 hO1 hB1
  generalize hnn : bw * bh = nn at *
  go_wp2
  exact bodyPost_ret (v := .agg #[.int .i64 (bw : Int), .int .i64 (bh : Int), .slice A1 nn c1]) (by simp [results, Try.results44, go_sem, r0, r1, r2]) rfl ⟨_, rfl, by rw [hnn]; exact HE.out _ _ _, by (repeat' (first | (exact HB1.out) | (refine Below.setCell ?_ (by first | omega | (simp; done) | (simp; omega)) _) | (refine below_dn ?_ _) | (refine Below.drew ?_) | (refine Below.alloc ?_ (by first | omega | (simp; done) | (simp; omega)) _) | (exact Below.refl _ _)))⟩
end Go.Proofs.Ytfjcbdpepbcjcaa
