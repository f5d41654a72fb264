/- Contract of CropImage in the program (by buildPart and the method value at). -/
import Derived.Test.YtfjcbdpepbcjcaaCropS
import Derived.Test.YtfjcbdpepbcjcaaPartI
import Derived.Test.YtfjcbdpepbcjcaaImgS
import Derived.Deep.RegionHeld3
namespace Go.Proofs.Ytfjcbdpepbcjcaa
open Go.RowKit Go.Shelf
set_option linter.unusedSimpArgs false
set_option linter.unusedVariables false

set_option maxHeartbeats 8000000 in
theorem i_CropImage (W H P bx by_ bw bh : Int) (A : Option Addr) (c : Nat) (xs : List Int) (w : World) (hx : Rds .i64 w w.heap.size A xs) (hl : xs.length ≤ 2000000) (hlc : xs.length ≤ c) :
    Calls Try.prog 18 #[.agg #[.int .i64 W, .int .i64 H, .int .i64 P, .slice A xs.length c], .agg #[.int .i64 bx, .int .i64 by_, .int .i64 bw, .int .i64 bh]] w (SetR (cropOk W H P xs bx by_ bw bh) bw bh P (cropL W.toNat P.toNat xs bx.toNat by_.toNat bw.toNat bh.toNat) w) := by
  obtain ⟨u0, hu⟩ : ∃ u0, u0 = ((w.alloc (.cells #[.int .i64 W, .int .i64 H, .int .i64 P, .slice A xs.length c] 30)).alloc (.cells #[.int .i64 bx, .int .i64 by_, .int .i64 bw, .int .i64 bh] 27)).alloc (.cells #[.int .i64 0, .int .i64 0, .int .i64 0, .slice none 0 0] 30) := ⟨_, rfl⟩
  obtain ⟨r, hr⟩ : ∃ r, r = w.heap.size + 2 := ⟨_, rfl⟩
  obtain ⟨pb, hpb⟩ : ∃ pb, pb = w.heap.size + 1 := ⟨_, rfl⟩
  have Hsz : Hid (u0.heap.size = w.heap.size + 3) := Lib.hid (by rw [hu]; simp)
  have HB0 : Hid (Below w.heap.size w u0) := Lib.hid (by rw [hu]; exact (((Below.refl w.heap.size w).alloc (Nat.le_refl _) _).alloc (by simp) _).alloc (by simp <;> omega) _)
  have HM0 : Hid (Bx u0 w.heap.size 30 (imC W H P (.slice A xs.length c))) := Lib.hid (by rw [hu]; exact Bx.at2.1)
  have HP0 : Hid (Bx u0 pb 27 #[.int .i64 bx, .int .i64 by_, .int .i64 bw, .int .i64 bh]) := Lib.hid (by rw [hu, hpb]; exact Bx.at2.2.1)
  have HR0 : Hid (Bx u0 r 30 (imC 0 0 0 (.slice none 0 0))) := Lib.hid (by rw [hu, hr]; exact Bx.at2.2.2)
  have Hx := Lib.hid ((hx.below HB0.out).more (by have := Hsz.out; omega : w.heap.size ≤ u0.heap.size))
  have HxW := Lib.hid hx
  have HU := Lib.hid hu
  have Hr := Lib.hid hr
  have Hpb := Lib.hid hpb
  have hrw : w.heap.size ≤ r := by omega
  have HOK : Hid (cropOk W H P xs bx by_ bw bh = (vim W H P xs && fitB bx by_ bw bh W H)) := Lib.hid rfl
  clear hx hu hr hpb
  go_enter Try.func18, Try.ntmps18
  go_wp2_with fail
  rw [← HU.out]
  (try rw [← Hr.out])
  (try rw [← Hpb.out])
  clear HU
  refine (iVimg_any W H P A c xs u0 Hx.out hl).mono ?_
  rintro e u1 ⟨rfl, hB⟩
  have HM1 := Lib.hid (HM0.out.below hB)
  have HP1 := Lib.hid (HP0.out.below hB)
  have HR1 := Lib.hid (HR0.out.below hB)
  have HB1 := Lib.hid (HB0.out.trans (hB.mono (by have := Hsz.out; omega)))
  have hsz1 : w.heap.size + 3 ≤ u1.heap.size := by have := Hsz.out; have := hB.size; omega
  have Hx1 := Lib.hid ((Hx.out.belowTo hB (Nat.le_refl _)).more hB.size)
  clear hB Hx HB0 HM0 HR0 HP0 Hsz
  cases hv : vim W H P xs
  · have HF : Hid (cropOk W H P xs bx by_ bw bh = false) := Lib.hid (by rw [HOK.out, hv]; rfl)
    obtain ⟨r0, r1, r2, r3⟩ := HR1.out.im
    have f0 := HR1.out.fz 0
    have f1 := HR1.out.fz 1
    have f2 := HR1.out.fz 2
    have f3 := HR1.out.fz 3
    go_wp2
    exact bodyPost_ret (v := .tuple #[.agg #[.int .i64 0, .int .i64 0, .int .i64 0, .slice none 0 0], .bool false]) (by simp [results, Try.results18, go_sem, r0, r1, r2, r3]) rfl (SetR.noR HF.out hrw HB1.out _ _ _ _)
  · obtain ⟨W, H, P, rfl, rfl, rfl, hW1, hW, hH1, hH, hP1, hP, hln, hby⟩ := vim_nat hv
    have HLn := Lib.hid hln
    have HV := Lib.hid hv
    obtain ⟨m0, m1, m2, m3⟩ := HM1.out.im
    obtain ⟨p0, p1, p2, p3⟩ := bx4 HP1.out
    clear hv hln hby
    go_wp2_with fail
    refine (hasBox_any bx by_ bw bh W H P _ ⟨by omega, by omega⟩ ⟨by omega, by omega⟩ u1).mono ?_
    rintro e u2 ⟨rfl, hB2⟩
    have HB2 := Lib.hid (HB1.out.trans (hB2.mono (by omega)))
    have HM2 := Lib.hid (HM1.out.below hB2)
    have HP2 := Lib.hid (HP1.out.below hB2)
    have HR2 := Lib.hid (HR1.out.below hB2)
    have Hx2 := Lib.hid ((Hx1.out.belowTo hB2 (Nat.le_refl _)).more hB2.size)
    have hz2 : w.heap.size + 3 ≤ u2.heap.size := by have := hB2.size; omega
    clear m0 m1 m2 m3 p0 p1 p2 p3 hB2 HM1 HR1 HB1 HP1 Hx1
    obtain ⟨m0, m1, m2, m3⟩ := HM2.out.im
    obtain ⟨p0, p1, p2, p3⟩ := bx4 HP2.out
    cases ho : fitB bx by_ bw bh W H
    · have HF : Hid (cropOk W H P xs bx by_ bw bh = false) := Lib.hid (by rw [HOK.out, ho, HV.out]; rfl)
      obtain ⟨r0, r1, r2, r3⟩ := HR2.out.im
      have f0 := HR2.out.fz 0
      have f1 := HR2.out.fz 1
      have f2 := HR2.out.fz 2
      have f3 := HR2.out.fz 3
      clear ho
      go_wp2
      exact bodyPost_ret (v := .tuple #[.agg #[.int .i64 0, .int .i64 0, .int .i64 0, .slice none 0 0], .bool false]) (by simp [results, Try.results18, go_sem, r0, r1, r2, r3]) rfl (SetR.noR HF.out hrw HB2.out _ _ _ _)
    · have HT : Hid (cropOk W H P xs bx by_ bw bh = true) := Lib.hid (by rw [HOK.out, ho, HV.out]; rfl)
      obtain ⟨X0, Y0, bw, bh, rfl, rfl, rfl, rfl, hbw, hbh, hXw, hYh⟩ := fit_nat ho
      have hrlt : r < u2.heap.size := by have := Hr.out; omega
      have hplt : pb < u2.heap.size := by have := Hpb.out; omega
      have hbw16 : bw ≤ 16 := by omega
      have hbh16 : bh ≤ 16 := by omega
      clear ho
      have hmlt : w.heap.size < u2.heap.size := HM2.out.lt
      have HwS : w.heap.size ≤ u2.heap.size := by omega
      have hnp : pb ≠ r := by have := Hr.out; have := Hpb.out; omega
      have hnm : w.heap.size ≠ r := by have := Hr.out; omega
      obtain ⟨n, hn⟩ : ∃ n, W * H = n := ⟨_, rfl⟩
      obtain ⟨n5, hn5⟩ : ∃ n5, bw * bh = n5 := ⟨_, rfl⟩
      have Hn := Lib.hid hn
      have Hn5 := Lib.hid hn5
      clear hn hn5 HM2 HP2
      go_wp2
      go_region_held3 (fun w' => (w'.cell? ⟨pb, 0, none⟩ = some (.int .i64 (X0 : Int)) ∧ w'.cell? ⟨pb, 1, none⟩ = some (.int .i64 (Y0 : Int)) ∧ w'.cell? ⟨pb, 2, none⟩ = some (.int .i64 (bw : Int)) ∧ w'.cell? ⟨pb, 3, none⟩ = some (.int .i64 (bh : Int))) ∧ (w'.cell? ⟨w.heap.size, 0, none⟩ = some (.int .i64 (W : Int)) ∧ w'.cell? ⟨w.heap.size, 1, none⟩ = some (.int .i64 (H : Int)) ∧ w'.cell? ⟨w.heap.size, 2, none⟩ = some (.int .i64 (P : Int)) ∧ w'.cell? ⟨w.heap.size, 3, none⟩ = some (.slice A xs.length c)))
        (first | (with_reducible exact ⟨⟨l4, l5, l6, l7⟩, l0, l1, l2, l3⟩) | (with_reducible exact ⟨⟨k4, k5, k6, k7⟩, k0, k1, k2, k3⟩) | (with_reducible exact ⟨⟨d4, d5, d6, d7⟩, d0, d1, d2, d3⟩) | (with_reducible exact ⟨⟨(sc4 hnp _ _ _ _).trans l4, (sc4 hnp _ _ _ _).trans l5, (sc4 hnp _ _ _ _).trans l6, (sc4 hnp _ _ _ _).trans l7⟩, (sc4 hnm _ _ _ _).trans l0, (sc4 hnm _ _ _ _).trans l1, (sc4 hnm _ _ _ _).trans l2, (sc4 hnm _ _ _ _).trans l3⟩) | exact ⟨⟨p0, p1, p2, p3⟩, m0, m1, m2, m3⟩ | go_keep)
        (first | (go_at_call 30; refine (gridOf_any W H P hW hH hP1 hP hW1 hH1 A c xs HLn.out hlc _ (by exact Hx2.out)).mono ?_; rintro e u3 ⟨v3, rfl, hO3, hB3⟩; obtain ⟨A3, c3, rfl, hc3⟩ := hO3.slice; rw [Hn.out] at hO3 hc3 ⊢; obtain ⟨d0, d1, d2, d3⟩ := im_keep hB3 (by exact hmlt) m0 m1 m2 m3; obtain ⟨d4, d5, d6, d7⟩ := im_keep hB3 (by exact hplt) p0 p1 p2 p3; have HO3 := Lib.hid hO3; have HR3 := Lib.hid ((show Bx u2.drew r _ _ from HR2.out).below hB3); have HB3 := Lib.hid (HB2.out.drew.trans (hB3.mono (by exact HwS))); have hml3 : w.heap.size < u3.heap.size := Nat.lt_of_lt_of_le (by exact hmlt) hB3.size; have hpl3 : pb < u3.heap.size := Nat.lt_of_lt_of_le (by exact hplt) hB3.size; clear hO3 hB3) | (go_at_call 44; refine (part_any W H n Hn.out hW hH A3 c3 (pxc W P xs) X0 Y0 bw bh hXw hYh _ (by exact HO3.out.rds) hc3).mono ?_; rintro e u4 ⟨v4, rfl, hO4, hB4⟩; obtain ⟨A4, c4, rfl, hc4⟩ := hO4.slice; rw [Hn5.out] at hO4 hc4 ⊢; obtain ⟨k0, k1, k2, k3⟩ := im_keep hB4 (by exact hml3) d0 d1 d2 d3; obtain ⟨k4, k5, k6, k7⟩ := im_keep hB4 (by exact hpl3) d4 d5 d6 d7; have HO4 := Lib.hid hO4; have HR4 := Lib.hid (HR3.out.below hB4); have HB4 := Lib.hid (HB3.out.trans (hB4.mono HB3.out.size)); have hml4 : w.heap.size < u4.heap.size := Nat.lt_of_lt_of_le hml3 hB4.size; have hpl4 : pb < u4.heap.size := Nat.lt_of_lt_of_le hpl3 hB4.size; have hrl4 : r < u4.heap.size := HR4.out.lt; clear hO4 hB4) | (go_at_call 43; refine (show Calls Try.prog 43 #[.agg #[.int .i64 (bw : Int), .int .i64 (bh : Int), .slice A4 n5 c4], .int .i64 (P : Int)] u4 (MadeI bw bh P (img bw bh P (fun x y => pxc W P xs (X0 + x) (Y0 + y))) u4) from by have h := imageOf_any bw bh P hbw16 hbh16 hP A4 c4 (fun x y => pxc W P xs (X0 + x) (Y0 + y)) u4 HO4.out.rds (by rw [Hn5.out]; exact hc4); rw [Hn5.out] at h; exact h).mono ?_; rintro e u5 ⟨v5, rfl, hO5, hB5⟩; obtain ⟨A5, c5, rfl, hc5⟩ := hO5.slice; obtain ⟨l0, l1, l2, l3⟩ := im_keep hB5 (by exact hml4) k0 k1 k2 k3; obtain ⟨l4, l5, l6, l7⟩ := im_keep hB5 (by exact hpl4) k4 k5 k6 k7; have HR5 := HR4.out.below hB5; have f0 := HR5.fz 0; have f1 := HR5.fz 1; have f2 := HR5.fz 2; have f3 := HR5.fz 3; obtain ⟨r0, r1, r2, r3⟩ := HR5.im; have HO5 := Lib.hid hO5; have HB5 := Lib.hid (HB4.out.trans (hB5.mono HB4.out.size)); clear hO5 hB5 hc5 HR5))
      have HE : Hid (∀ v0 v1 v2 v3 : Value, SetR (cropOk W H P xs X0 Y0 bw bh) bw bh P (cropL W P xs X0 Y0 bw bh) w (.returned (.tuple #[.agg #[.int .i64 (bw : Int), .int .i64 (bh : Int), .int .i64 (P : Int), .slice A5 (img bw bh P (fun x y => pxc W P xs (X0 + x) (Y0 + y))).length c5], .bool true])) ((((u5.setCell ⟨r, 0, none⟩ v0).setCell ⟨r, 1, none⟩ v1).setCell ⟨r, 2, none⟩ v2).setCell ⟨r, 3, none⟩ v3)) := Lib.hid fun v0 v1 v2 v3 =>
        SetR.yesR HT.out hrw HO5.out (by exact hrl4) HB5.out v0 v1 v2 v3
      go_wp2
      exact bodyPost_ret (v := .tuple #[.agg #[.int .i64 (bw : Int), .int .i64 (bh : Int), .int .i64 (P : Int), .slice A5 (img bw bh P (fun x y => pxc W P xs (X0 + x) (Y0 + y))).length c5], .bool true]) (by simp [results, Try.results18, go_sem, r0, r1, r2, r3]) rfl (HE.out _ _ _ _)
end Go.Proofs.Ytfjcbdpepbcjcaa
