/- Contract of CropImage in the program. -/
import Derived.Test.YtegiccljmlghlaaCropS
namespace Go.Proofs.Ytegiccljmlghlaa
open Go.RowKit Go.Shelf
set_option linter.unusedSimpArgs false
set_option linter.unusedVariables false

set_option maxHeartbeats 4000000 in
theorem crop1_any (W H n : Nat) (hn : W * H = n) (hW : W ≤ 16) (hH : H ≤ 16) (A : Option Addr) (c : Nat) (F : Nat → Nat → Nat → Int) (X0 Y0 x y : Nat) (hx : X0 + x < W) (hy : Y0 + y < H) (bw bh : Int) (pg pb : Nat) (w : World) (hr : Rds .i64 w w.heap.size A (img W H 4 F)) (hc : n ≤ c)
    (hg : Bx w pg 85 #[.int .i64 (W : Int), .int .i64 (H : Int), .slice A n c]) (hb : Bx w pb 27 #[.int .i64 (X0 : Int), .int .i64 (Y0 : Int), .int .i64 bw, .int .i64 bh]) :
    Calls Try.prog 63 #[.int .i64 (x : Int), .int .i64 (y : Int), .pointer (some ⟨pg, 0, none⟩), .pointer (some ⟨pb, 0, none⟩)] w fun e w' => e = .returned (colV (F (X0 + x) (Y0 + y))) ∧ Below w.heap.size w w' := by
  obtain ⟨g0, g1, g2⟩ := bx3 hg
  obtain ⟨b0, b1, b2, b3⟩ := bx4 hb
  have hgl := hg.lt
  have hbl := hb.lt
  have Hr := Lib.hid (hr.alloc (Nat.le_refl _) (.cells #[.int .i64 0, .int .i64 0, .int .i64 0, .int .i64 0] 89))
  have Hn := Lib.hid hn
  have ex := Lib.hid (show (X0 : Int) + (x : Int) = ((X0 + x : Nat) : Int) by omega)
  have ey := Lib.hid (show (Y0 : Int) + (y : Int) = ((Y0 + y : Nat) : Int) by omega)
  clear hr hg hb hn
  go_enter Try.func63, Try.ntmps63
  go_wp2_with fail
  rw [ex.out, ey.out]
  refine (at_n W H n Hn.out hW hH A c F (X0 + x) (Y0 + y) hx hy _ (Hr.out.more (by simp)) hc).mono ?_
  rintro e w2 ⟨rfl, hB2⟩
  have hr0 : w2.heap[w.heap.size]? = some (.cells #[.int .i64 0, .int .i64 0, .int .i64 0, .int .i64 0] 89 (0, 0)) := (hB2.block _ (by simp)).trans (heap_alloc_new w _)
  have r0 := cell_of_row w2 w.heap.size 0 _ _ _ hr0
  have r1 := cell_of_row w2 w.heap.size 1 _ _ _ hr0
  have r2 := cell_of_row w2 w.heap.size 2 _ _ _ hr0
  have r3 := cell_of_row w2 w.heap.size 3 _ _ _ hr0
  have f0 := frozen_of_row w2 w.heap.size 0 _ _ hr0
  have f1 := frozen_of_row w2 w.heap.size 1 _ _ hr0
  have f2 := frozen_of_row w2 w.heap.size 2 _ _ hr0
  have f3 := frozen_of_row w2 w.heap.size 3 _ _ hr0
  have HW : Hid (Below w.heap.size w w2) := Lib.hid (((Below.refl w.heap.size w).alloc (Nat.le_refl _) _).trans (hB2.mono (by simp)))
  clear hr0 hB2 g0 g1 g2 b0 b1 b2 b3
  simp only [colV]
  go_wp2
  exact bodyPost_ret (v := colV (F (X0 + x) (Y0 + y))) (by simp [results, Try.results63, go_sem, r0, r1, r2, r3, colV]) rfl ⟨rfl, by (repeat' (first | (exact HW.out) | (refine Below.setCell ?_ (by first | omega | (simp; done) | (simp; omega)) _) | (refine below_dn ?_ _) | (refine Below.drew ?_) | (refine Below.alloc ?_ (by first | omega | (simp; done) | (simp; omega)) _) | (exact Below.refl _ _)))⟩
set_option maxHeartbeats 8000000 in
theorem i_CropImage (W H P bx by_ bw bh : Int) (A : Option Addr) (c : Nat) (xs : List Int) (w : World) (hx : Rds .i64 w w.heap.size A xs) (hl : xs.length ≤ 2000000) (hlc : xs.length ≤ c) :
    Calls Try.prog 16 #[.agg #[.int .i64 W, .int .i64 H, .int .i64 P, .slice A xs.length c], .agg #[.int .i64 bx, .int .i64 by_, .int .i64 bw, .int .i64 bh]] w (SetR (cropOk W H P xs bx by_ bw bh) bw bh P (cropL W.toNat P.toNat xs bx.toNat by_.toNat bw.toNat bh.toNat) w) := by
  obtain ⟨u0, hu⟩ : ∃ u0, u0 = ((w.alloc (.cells #[.int .i64 W, .int .i64 H, .int .i64 P, .slice A xs.length c] 25)).alloc (.cells #[.int .i64 bx, .int .i64 by_, .int .i64 bw, .int .i64 bh] 27)).alloc (.cells #[.int .i64 0, .int .i64 0, .int .i64 0, .slice none 0 0] 25) := ⟨_, rfl⟩
  obtain ⟨r, hr⟩ : ∃ r, r = w.heap.size + 2 := ⟨_, rfl⟩
  obtain ⟨pb, hpb⟩ : ∃ pb, pb = w.heap.size + 1 := ⟨_, rfl⟩
  have Hsz : Hid (u0.heap.size = w.heap.size + 3) := Lib.hid (by rw [hu]; simp)
  have HB0 : Hid (Below w.heap.size w u0) := Lib.hid (by rw [hu]; exact (((Below.refl w.heap.size w).alloc (Nat.le_refl _) _).alloc (by simp) _).alloc (by simp <;> omega) _)
  have HM0 : Hid (Bx u0 w.heap.size 25 (imC W H P (.slice A xs.length c))) := Lib.hid (by rw [hu]; exact Bx.at2.1)
  have HP0 : Hid (Bx u0 pb 27 #[.int .i64 bx, .int .i64 by_, .int .i64 bw, .int .i64 bh]) := Lib.hid (by rw [hu, hpb]; exact Bx.at2.2.1)
  have HR0 : Hid (Bx u0 r 25 (imC 0 0 0 (.slice none 0 0))) := Lib.hid (by rw [hu, hr]; exact Bx.at2.2.2)
  have Hx := Lib.hid ((hx.below HB0.out).more (by have := Hsz.out; omega : w.heap.size ≤ u0.heap.size))
  have HxW := Lib.hid hx
  have HU := Lib.hid hu
  have Hr := Lib.hid hr
  have Hpb := Lib.hid hpb
  have hrw : w.heap.size ≤ r := by omega
  have HOK : Hid (cropOk W H P xs bx by_ bw bh = (vim W H P xs && fitB bx by_ bw bh W H)) := Lib.hid rfl
  clear hx hu hr hpb
  go_enter Try.func16, Try.ntmps16
  go_wp2_with fail
  rw [← HU.out]
  (try rw [← Hr.out])
  (try rw [← Hpb.out])
  clear HU
  refine (iVimg_any W H P A c xs u0 Hx.out hl).mono ?_
  rintro e u1 ⟨rfl, hB⟩
  have HM1 := Lib.hid (HM0.out.below hB)
  have HP1 := Lib.hid (HP0.out.below hB)
  have HR1 := Lib.hid (HR0.out.below hB)
  have HB1 := Lib.hid (HB0.out.trans (hB.mono (by have := Hsz.out; omega)))
  have hsz1 : w.heap.size + 3 ≤ u1.heap.size := by have := Hsz.out; have := hB.size; omega
  have Hx1 := Lib.hid ((Hx.out.belowTo hB (Nat.le_refl _)).more hB.size)
  clear hB Hx HB0 HM0 HR0 HP0 Hsz
  cases hv : vim W H P xs
  · have HF : Hid (cropOk W H P xs bx by_ bw bh = false) := Lib.hid (by rw [HOK.out, hv]; rfl)
    obtain ⟨r0, r1, r2, r3⟩ := HR1.out.im
    have f0 := HR1.out.fz 0
    have f1 := HR1.out.fz 1
    have f2 := HR1.out.fz 2
    have f3 := HR1.out.fz 3
    go_wp2
    exact bodyPost_ret (v := .tuple #[.agg #[.int .i64 0, .int .i64 0, .int .i64 0, .slice none 0 0], .bool false]) (by simp [results, Try.results16, go_sem, r0, r1, r2, r3]) rfl (SetR.noR HF.out hrw HB1.out _ _ _ _)
  · obtain ⟨W, H, P, rfl, rfl, rfl, hW1, hW, hH1, hH, hP1, hP, hln, hby⟩ := vim_nat hv
    have HLn := Lib.hid hln
    have HV := Lib.hid hv
    obtain ⟨m0, m1, m2, m3⟩ := HM1.out.im
    obtain ⟨p0, p1, p2, p3⟩ := bx4 HP1.out
    clear hv hln hby
    go_wp2_with fail
    refine (hasBox_any bx by_ bw bh W H P _ ⟨by omega, by omega⟩ ⟨by omega, by omega⟩ u1).mono ?_
    rintro e u2 ⟨rfl, hB2⟩
    have HB2 := Lib.hid (HB1.out.trans (hB2.mono (by omega)))
    have HM2 := Lib.hid (HM1.out.below hB2)
    have HP2 := Lib.hid (HP1.out.below hB2)
    have HR2 := Lib.hid (HR1.out.below hB2)
    have Hx2 := Lib.hid ((Hx1.out.belowTo hB2 (Nat.le_refl _)).more hB2.size)
    have hz2 : w.heap.size + 3 ≤ u2.heap.size := by have := hB2.size; omega
    clear m0 m1 m2 m3 p0 p1 p2 p3 hB2 HM1 HR1 HB1 HP1 Hx1
    obtain ⟨m0, m1, m2, m3⟩ := HM2.out.im
    obtain ⟨p0, p1, p2, p3⟩ := bx4 HP2.out
    cases ho : fitB bx by_ bw bh W H
    · have HF : Hid (cropOk W H P xs bx by_ bw bh = false) := Lib.hid (by rw [HOK.out, ho, HV.out]; rfl)
      obtain ⟨r0, r1, r2, r3⟩ := HR2.out.im
      have f0 := HR2.out.fz 0
      have f1 := HR2.out.fz 1
      have f2 := HR2.out.fz 2
      have f3 := HR2.out.fz 3
      clear ho
      go_wp2
      exact bodyPost_ret (v := .tuple #[.agg #[.int .i64 0, .int .i64 0, .int .i64 0, .slice none 0 0], .bool false]) (by simp [results, Try.results16, go_sem, r0, r1, r2, r3]) rfl (SetR.noR HF.out hrw HB2.out _ _ _ _)
    · have HT : Hid (cropOk W H P xs bx by_ bw bh = true) := Lib.hid (by rw [HOK.out, ho, HV.out]; rfl)
      obtain ⟨X0, Y0, bw, bh, rfl, rfl, rfl, rfl, hbw, hbh, hXw, hYh⟩ := fit_nat ho
      have hrlt : r < u2.heap.size := by have := Hr.out; omega
      have hplt : pb < u2.heap.size := by have := Hpb.out; omega
      have hbw16 : bw ≤ 16 := by omega
      have hbh16 : bh ≤ 16 := by omega
      clear ho
      have Eg : Hid (∀ args w, (callFunc 63 args).run Try.prog w = .ok (.enter 63 args) w) := Lib.hid (enters_of Try.func63 (by kernel_rfl) rfl)
      go_wp2_with fail
      refine (gridOf_any W H P hW hH hP1 hP hW1 hH1 A c xs HLn.out hlc u2 Hx2.out).mono ?_
      rintro e u3 ⟨v3, rfl, hO3, hB3⟩
      obtain ⟨A3, c3, rfl, hc3⟩ := hO3.slice
      obtain ⟨n, hn⟩ : ∃ n, n = W * H := ⟨_, rfl⟩
      rw [← hn] at hO3 hc3 ⊢
      obtain ⟨u4, hu4⟩ : ∃ u4, u4 = u3.alloc (.cells #[.int .i64 (W : Int), .int .i64 (H : Int), .slice A3 n c3] 85) := ⟨_, rfl⟩
      obtain ⟨b3, hb3⟩ : ∃ b3, b3 = u3.heap.size := ⟨_, rfl⟩
      have hz3 := hB3.size
      have HO4 : Hid (Rds .i64 u4 u4.heap.size A3 (img W H 4 (pxc W P xs))) := Lib.hid (by rw [hu4]; exact (hO3.alloc _).rds)
      have HT4 : Hid (Bx u4 b3 85 #[.int .i64 (W : Int), .int .i64 (H : Int), .slice A3 n c3]) := Lib.hid (by rw [hu4, hb3]; exact Bx.new u3 _ _)
      have HM4 : Hid (Bx u4 w.heap.size 25 (imC W H P (.slice A xs.length c))) := Lib.hid (by rw [hu4]; exact (HM2.out.below hB3).alloc _)
      have HP4 : Hid (Bx u4 pb 27 #[.int .i64 (X0 : Int), .int .i64 (Y0 : Int), .int .i64 (bw : Int), .int .i64 (bh : Int)]) := Lib.hid (by rw [hu4]; exact (HP2.out.below hB3).alloc _)
      have HR4 : Hid (Bx u4 r 25 (imC 0 0 0 (.slice none 0 0))) := Lib.hid (by rw [hu4]; exact (HR2.out.below hB3).alloc _)
      have HB4 : Hid (Below w.heap.size w u4) := Lib.hid (by rw [hu4]; exact (HB2.out.trans (hB3.mono (by omega))).alloc (by omega) _)
      have hz4 : u2.heap.size ≤ u4.heap.size := by rw [hu4]; simp; omega
      have Hn := Lib.hid hn
      have HU4 := Lib.hid hu4
      have HU3 := Lib.hid hb3
      have HP3 := Lib.hid (HP2.out.below hB3)
      have hpl3 : pb < u3.heap.size := by omega
      clear hO3 hB3 hu4 hb3 hn HM2 HR2 HB2 HP2 m0 m1 m2 m3 p0 p1 p2 p3
      obtain ⟨p0, p1, p2, p3⟩ := bx4 HP3.out
      go_wp2_with fail
      (try rw [← HU3.out])
      rw [← HU4.out]
      clear HU3 HU4
      refine (build_any bw bh hbw16 hbh16 63 #[.pointer (some ⟨b3, 0, none⟩), .pointer (some ⟨pb, 0, none⟩)] (fun x y => pxc W P xs (X0 + x) (Y0 + y)) u4 Eg.out (fun x y w' hx hy hbel =>
        crop1_any W H n Hn.out.symm hW hH A3 c3 (pxc W P xs) X0 Y0 x y (by omega) (by omega) bw bh b3 pb w' ((HO4.out.belowTo hbel (Nat.le_refl _)).more hbel.size) hc3 (HT4.out.below hbel) (HP4.out.below hbel))).mono ?_
      rintro e u5 ⟨v5, rfl, hO5, hB5⟩
      obtain ⟨A5, c5, rfl, hc5⟩ := hO5.slice
      obtain ⟨n5, hn5⟩ : ∃ n5, n5 = bw * bh := ⟨_, rfl⟩
      rw [← hn5] at hO5 hc5 ⊢
      obtain ⟨u6, hu6⟩ : ∃ u6, u6 = u5.alloc (.cells #[.int .i64 (bw : Int), .int .i64 (bh : Int), .slice A5 n5 c5] 85) := ⟨_, rfl⟩
      have hz5 := hB5.size
      have HO6 : Hid (Rds .i64 u6 u6.heap.size A5 (img bw bh 4 (fun x y => pxc W P xs (X0 + x) (Y0 + y)))) := Lib.hid (by rw [hu6]; exact (hO5.alloc _).rds)
      have HM6 : Hid (Bx u6 w.heap.size 25 (imC W H P (.slice A xs.length c))) := Lib.hid (by rw [hu6]; exact (HM4.out.below hB5).alloc _)
      have HR6 : Hid (Bx u6 r 25 (imC 0 0 0 (.slice none 0 0))) := Lib.hid (by rw [hu6]; exact (HR4.out.below hB5).alloc _)
      have HB6 : Hid (Below w.heap.size w u6) := Lib.hid (by rw [hu6]; exact (HB4.out.trans (hB5.mono (by omega))).alloc (by omega) _)
      have hz6 : u2.heap.size ≤ u6.heap.size := by rw [hu6]; simp; omega
      have Hn5 := Lib.hid hn5
      have HU6 := Lib.hid hu6
      have HM5 := Lib.hid (HM4.out.below hB5)
      have hwl5 : w.heap.size < u5.heap.size := by have := HM5.out.lt; omega
      clear hO5 hB5 hu6 hn5 HT4 HM4 HP4 HR4 HB4 HO4 p0 p1 p2 p3
      obtain ⟨m0, m1, m2, m3⟩ := HM5.out.im
      go_wp2_with fail
      rw [← HU6.out]
      clear HU6
      have hcall := imageOf_any bw bh P hbw16 hbh16 hP A5 c5 (fun x y => pxc W P xs (X0 + x) (Y0 + y)) u6 HO6.out (by rw [← Hn5.out]; exact hc5)
      rw [← Hn5.out] at hcall
      refine hcall.mono ?_
      clear hcall
      rintro e u7 ⟨v7, rfl, hO7, hB7⟩
      obtain ⟨A7, c7, rfl, hc7⟩ := hO7.slice
      have hR7 := HR6.out.below hB7
      obtain ⟨r0, r1, r2, r3⟩ := hR7.im
      have f0 := hR7.fz 0
      have f1 := hR7.fz 1
      have f2 := hR7.fz 2
      have f3 := hR7.fz 3
      have HE : Hid (∀ v0 v1 v2 v3 : Value, SetR (cropOk W H P xs X0 Y0 bw bh) bw bh P (cropL W P xs X0 Y0 bw bh) w (.returned (.tuple #[.agg #[.int .i64 (bw : Int), .int .i64 (bh : Int), .int .i64 (P : Int), .slice A7 (img bw bh P (fun x y => pxc W P xs (X0 + x) (Y0 + y))).length c7], .bool true])) ((((u7.setCell ⟨r, 0, none⟩ v0).setCell ⟨r, 1, none⟩ v1).setCell ⟨r, 2, none⟩ v2).setCell ⟨r, 3, none⟩ v3)) := Lib.hid fun v0 v1 v2 v3 =>
        SetR.yesR HT.out hrw hO7 (by omega) (HB6.out.trans (hB7.mono (by omega))) v0 v1 v2 v3
      clear hR7 hO7 hB7 hc7 m0 m1 m2 m3
      go_wp2
      exact bodyPost_ret (v := .tuple #[.agg #[.int .i64 (bw : Int), .int .i64 (bh : Int), .int .i64 (P : Int), .slice A7 (img bw bh P (fun x y => pxc W P xs (X0 + x) (Y0 + y))).length c7], .bool true]) (by simp [results, Try.results16, go_sem, r0, r1, r2, r3]) rfl (HE.out _ _ _ _)
end Go.Proofs.Ytegiccljmlghlaa
