/- Contract of MaskImage in the model. -/
import Derived.Test.YtlmpkanlfhjijaaPntM
import Derived.Test.YtlmpkanlfhjijaaCropS
import Derived.Test.YtlmpkanlfhjijaaReg3
import Derived.Deep.Cut
import Derived.Deep.RegionHeld3
import Derived.StillTailTactics
namespace Go.Proofs.Ytlmpkanlfhjijaa
open Go.RowKit Go.Shelf
set_option linter.unusedSimpArgs false
set_option linter.unusedVariables false
set_option maxRecDepth 20000

set_option maxHeartbeats 16000000 in
theorem s_MaskImage (W H P W' H' P' : Int) (A A' A3 : Option Addr) (c c' n c3 : Nat) (xs ys rs : List Int) (w : World) (hx : Rds .i64 w w.heap.size A xs) (hl : xs.length ≤ 2000000) (hlc : xs.length ≤ c) (hy : Rds .i64 w w.heap.size A' ys) (hl' : ys.length ≤ 2000000) (hlc' : ys.length ≤ c') (hr : Rds .i64 w w.heap.size A3 rs) (hrl : rs.length = 3 * n) (hn : n ≤ 2000000) :
    Calls Try.prog 31 #[.agg #[.int .i64 W, .int .i64 H, .int .i64 P, .slice A xs.length c], .agg #[.int .i64 W', .int .i64 H', .int .i64 P', .slice A' ys.length c'], .slice A3 n c3] w (MadeIc (mskOk W H P xs W' H' P' ys rs n) W H P (mskL W.toNat H.toNat P.toNat xs ys rs n) w) := by
  have HX := Lib.hid hx
  have HY := Lib.hid hy
  have HR := Lib.hid hr
  have HRL := Lib.hid hrl
  have HV : Hid (mskOk W H P xs W' H' P' ys rs n = (cmpB W H P xs W' H' P' ys && regB rs n)) := Lib.hid rfl
  clear hx hy hr hrl
  have S0 := (((GS.start w).box' 25 #[.int .i64 W, .int .i64 H, .int .i64 P, .slice A xs.length c] w.heap.size (by simp)).box' 25 #[.int .i64 W', .int .i64 H', .int .i64 P', .slice A' ys.length c'] (w.heap.size + 1) (by simp)).box' 25 #[.int .i64 0, .int .i64 0, .int .i64 0, .slice none 0 0] (w.heap.size + 1 + 1) (by simp)
  go_enter Try.func31, Try.ntmps31
  go_wp2_with fail
  generalize ((w.alloc (.cells #[.int .i64 W, .int .i64 H, .int .i64 P, .slice A xs.length c] 25)).alloc (.cells #[.int .i64 W', .int .i64 H', .int .i64 P', .slice A' ys.length c'] 25)).alloc (.cells #[.int .i64 0, .int .i64 0, .int .i64 0, .slice none 0 0] 25) = u0 at *
  refine (sCmp_any W H P W' H' P' A A' c c' xs ys u0 (S0.arg HX.out) hl (S0.arg HY.out) hl').mono ?_
  rintro e u1 ⟨rfl, hB⟩
  have HS := Lib.hid (S0.call hB)
  clear hB S0
  cases hv : cmpB W H P xs W' H' P' ys
  · have HF : Hid (mskOk W H P xs W' H' P' ys rs n = false) := Lib.hid (by rw [HV.out, hv]; rfl)
    obtain ⟨r0, r1, r2, r3⟩ := HS.out.b0_4
    have f0 := HS.out.f0 0
    have f1 := HS.out.f0 1
    have f2 := HS.out.f0 2
    have f3 := HS.out.f0 3
    have HE := Lib.hid (HS.out.e0_4 (.int .i64 0) (.int .i64 0) (.int .i64 0) (.slice none 0 0)).1
    clear HV hv HS
    go_wp2
    exact bodyPost_ret (v := .tuple #[.agg #[.int .i64 0, .int .i64 0, .int .i64 0, .slice none 0 0], .bool false]) (by simp [results, Try.results31, go_sem, r0, r1, r2, r3]) rfl ⟨_, by rw [HF.out]; rfl, by rw [HF.out]; exact World.ownsRow_nil _ _ _ _, HE.out⟩
  · have Hv := Lib.hid hv
    clear hv
    go_wp2_with fail
    refine (s_validRuns A3 n c3 u1.heap.size rs u1 HRL.out (HS.out.arg HR.out) (Nat.le_refl _) hn).mono ?_
    rintro e u2 ⟨rfl, hB⟩
    have HS2 := Lib.hid (HS.out.call hB)
    clear hB HS
    cases hg : regB rs n
    · have HF : Hid (mskOk W H P xs W' H' P' ys rs n = false) := Lib.hid (by rw [HV.out, hg]; simp)
      obtain ⟨r0, r1, r2, r3⟩ := HS2.out.b0_4
      have f0 := HS2.out.f0 0
      have f1 := HS2.out.f0 1
      have f2 := HS2.out.f0 2
      have f3 := HS2.out.f0 3
      have HE := Lib.hid (HS2.out.e0_4 (.int .i64 0) (.int .i64 0) (.int .i64 0) (.slice none 0 0)).1
      clear HV hg HS2
      go_wp2
      exact bodyPost_ret (v := .tuple #[.agg #[.int .i64 0, .int .i64 0, .int .i64 0, .slice none 0 0], .bool false]) (by simp [results, Try.results31, go_sem, r0, r1, r2, r3]) rfl ⟨_, by rw [HF.out]; rfl, by rw [HF.out]; exact World.ownsRow_nil _ _ _ _, HE.out⟩
    · have HF : Hid (mskOk W H P xs W' H' P' ys rs n = true) := Lib.hid (by rw [HV.out, Hv.out, hg]; rfl)
      have HG := Lib.hid (regB_of hg)
      have hv := Hv.out
      clear HV hg Hv
      obtain ⟨W, H, P, rfl, rfl, rfl, rfl, rfl, rfl, hW, hH, hP, hxl, hyl, _⟩ := cmpB_nat hv
      have HXL := Lib.hid hxl
      have HYL := Lib.hid hyl
      obtain ⟨hW1, hW⟩ := hW
      obtain ⟨hH1, hH⟩ := hH
      obtain ⟨hP1, hP⟩ := hP
      have hpos : 0 < xs.length := by rw [hxl]; exact Nat.mul_pos (Nat.mul_pos hW1 hH1) hP1
      obtain ⟨b0, b1, b2, b3⟩ := HS2.out.b2_4
      clear hv hxl hyl
      go_wp2_with fail
      refine (sCopyImage_any W H P A c xs u2 (HS2.out.arg HX.out) hl).mono ?_
      rintro e u5 ⟨v5, rfl, hO5, hB5⟩
      obtain ⟨g, c5, rfl, hg1, hg2⟩ := hO5.form hpos
      obtain ⟨u4, hu4⟩ : ∃ u4 : World, u4 = u2 := ⟨_, rfl⟩
      have hl0 := HS2.out.l0
      rw [← hu4] at hO5 hB5 hg1 HS2 hl0
      obtain ⟨q, hq⟩ : ∃ q, q = u5.heap.size := ⟨_, rfl⟩
      have HI : Hid (Pnt W H P rs (px W P ys) (px W P xs) 0 (gF rs 0) xs ∧ GS w (u5.alloc (.cells #[.int .i64 (W : Int), .int .i64 (H : Int), .int .i64 (P : Int), .slice (some ⟨g, 0, none⟩) xs.length c5] 25)) [ri u4.heap.size u5.heap.size (.slice (some ⟨g, 0, none⟩) xs.length c5) xs] [⟨q, 25, #[.int .i64 (W : Int), .int .i64 (H : Int), .int .i64 (P : Int), .slice (some ⟨g, 0, none⟩) xs.length c5]⟩, ⟨w.heap.size + 1 + 1, 25, #[.int .i64 0, .int .i64 0, .int .i64 0, .slice none 0 0]⟩, ⟨w.heap.size + 1, 25, #[.int .i64 (W : Int), .int .i64 (H : Int), .int .i64 (P : Int), .slice A' ys.length c']⟩, ⟨w.heap.size, 25, #[.int .i64 (W : Int), .int .i64 (H : Int), .int .i64 (P : Int), .slice A xs.length c]⟩]) := Lib.hid ⟨Pnt.start HXL.out (fun _ _ _ _ _ _ => rfl), (HS2.out.add hO5 hB5).box' _ _ q hq⟩
      have Hg1 := Lib.hid (show w.heap.size + 3 ≤ g ∧ g < q by omega)
      clear hO5 hB5 b0 b1 b2 b3 HS2 hu4 hl0 hg1 hg2 hpos
      go_wp2
      rw [← hq]
      generalize u5.alloc (.cells #[.int .i64 (W : Int), .int .i64 (H : Int), .int .i64 (P : Int), .slice (some ⟨g, 0, none⟩) xs.length c5] 25) = u6 at *
      clear hq
      go_loopw [9] (fun i wr => ∃ (k : Nat) (ds : List Int), k ≤ n ∧ i = .int .i64 k ∧ Hid (Pnt W H P rs (px W P ys) (px W P xs) k (gF rs k) ds ∧ GS w wr [ri u4.heap.size u5.heap.size (.slice (some ⟨g, 0, none⟩) xs.length c5) ds] [⟨q, 25, #[.int .i64 (W : Int), .int .i64 (H : Int), .int .i64 (P : Int), .slice (some ⟨g, 0, none⟩) xs.length c5]⟩, ⟨w.heap.size + 1 + 1, 25, #[.int .i64 0, .int .i64 0, .int .i64 0, .slice none 0 0]⟩, ⟨w.heap.size + 1, 25, #[.int .i64 (W : Int), .int .i64 (H : Int), .int .i64 (P : Int), .slice A' ys.length c']⟩, ⟨w.heap.size, 25, #[.int .i64 (W : Int), .int .i64 (H : Int), .int .i64 (P : Int), .slice A xs.length c]⟩])) (fun i _ => n - (intOf i).toNat)
      case atStart => exact ⟨0, xs, Nat.zero_le _, rfl, HI⟩
      case round =>
        clear HI
        obtain ⟨k, ds, hk, rfl, hI⟩ := hrel
        rename World => wv
        obtain ⟨hF, hS⟩ := hI.out
        by_cases hlt : k < n
        · obtain ⟨t0, t1, t2⟩ := trio hlt HRL.out
          obtain ⟨b, off, rfl, hb, hc⟩ := HR.out.cells_ t0
          have HC := Lib.hid hc
          obtain ⟨⟨hy0, hy1⟩, ⟨hf0, hf1⟩, ht0, ht1⟩ := bnds HG.out hlt
          obtain ⟨f, hf⟩ : ∃ f : Nat, gF rs k = f := ⟨(gF rs k).toNat, by omega⟩
          obtain ⟨t, ht⟩ : ∃ t : Nat, gT rs k = t := ⟨(gT rs k).toNat, by omega⟩
          obtain ⟨y, hyy⟩ : ∃ y : Nat, gY rs k = y := ⟨(gY rs k).toNat, by omega⟩
          have hc0 : wv.cell? ⟨b, off + k * 3, none⟩ = some (.int .i64 (gY rs k)) := cellB hS.below hb (hc _ t0)
          have hc1 : wv.cell? ⟨b, off + k * 3 + 1, none⟩ = some (.int .i64 (gF rs k)) := cellB hS.below hb (hc _ t1)
          have hc2 : wv.cell? ⟨b, off + k * 3 + 2, none⟩ = some (.int .i64 (gT rs k)) := cellB hS.below hb (hc _ t2)
          rw [hyy] at hc0
          rw [hf] at hc1
          rw [ht] at hc2
          have HYY := Lib.hid hyy
          have HFF := Lib.hid hf
          have HTT := Lib.hid ht
          have HJ : Hid (Pnt W H P rs (px W P ys) (px W P xs) k (f : Nat) ds ∧ GS w wv [ri u4.heap.size u5.heap.size (.slice (some ⟨g, 0, none⟩) xs.length c5) ds] [⟨q, 25, #[.int .i64 (W : Int), .int .i64 (H : Int), .int .i64 (P : Int), .slice (some ⟨g, 0, none⟩) xs.length c5]⟩, ⟨w.heap.size + 1 + 1, 25, #[.int .i64 0, .int .i64 0, .int .i64 0, .slice none 0 0]⟩, ⟨w.heap.size + 1, 25, #[.int .i64 (W : Int), .int .i64 (H : Int), .int .i64 (P : Int), .slice A' ys.length c']⟩, ⟨w.heap.size, 25, #[.int .i64 (W : Int), .int .i64 (H : Int), .int .i64 (P : Int), .slice A xs.length c]⟩]) := Lib.hid (by rw [← hf]; exact ⟨hF, hS⟩)
          have hft : f + 1 ≤ t := by omega
          have ht16 : t ≤ 16 := by omega
          have hy15 : y ≤ 15 := by omega
          clear hF hS hI hc hy0 hy1 hf0 hf1 ht0 ht1 hf ht hyy
          go_wp2
          clear hc0 hc1 hc2
          go_loopw [10] (fun i wr => ∃ (x : Nat) (ds : List Int), f ≤ x ∧ x ≤ t ∧ i = .int .i64 x ∧ Hid (Pnt W H P rs (px W P ys) (px W P xs) k (x : Nat) ds ∧ GS w wr [ri u4.heap.size u5.heap.size (.slice (some ⟨g, 0, none⟩) xs.length c5) ds] [⟨q, 25, #[.int .i64 (W : Int), .int .i64 (H : Int), .int .i64 (P : Int), .slice (some ⟨g, 0, none⟩) xs.length c5]⟩, ⟨w.heap.size + 1 + 1, 25, #[.int .i64 0, .int .i64 0, .int .i64 0, .slice none 0 0]⟩, ⟨w.heap.size + 1, 25, #[.int .i64 (W : Int), .int .i64 (H : Int), .int .i64 (P : Int), .slice A' ys.length c']⟩, ⟨w.heap.size, 25, #[.int .i64 (W : Int), .int .i64 (H : Int), .int .i64 (P : Int), .slice A xs.length c]⟩])) (fun i _ => t - (intOf i).toNat)
          case atStart => exact ⟨f, ds, Nat.le_refl _, by omega, rfl, HJ⟩
          case round =>
            clear HJ
            obtain ⟨x, ds, hfx, hxt, rfl, hI⟩ := hrel
            rename World => wx
            obtain ⟨hF, hS⟩ := hI.out
            have hc0 : wx.cell? ⟨b, off + k * 3, none⟩ = some (.int .i64 (gY rs k)) := cellB hS.below hb (HC.out _ t0)
            have hc2 : wx.cell? ⟨b, off + k * 3 + 2, none⟩ = some (.int .i64 (gT rs k)) := cellB hS.below hb (HC.out _ t2)
            rw [HYY.out] at hc0
            rw [HTT.out] at hc2
            by_cases hxlt : x < t
            · have HPF := Lib.hid hF
              have HSX := Lib.hid hS
              obtain ⟨m0, m1, m2, m3⟩ := hS.b3_4
              clear hF hS hI
              go_wp2
              go_still_tail 7, (by kernel_rfl)
              change wpList _ _ _ _ _ wx.drew
              have HSD := Lib.hid HSX.out.drew
              clear HSX m0 m1 m2 m3 hc0 hc2
              generalize wx.drew = w7 at *
              go_wp2_with fail
              refine (sPlace_any W H P _ (x : Int) (y : Int) ⟨by omega, by omega⟩ ⟨by omega, by omega⟩ w7).mono ?_
              rintro e w8 ⟨rfl, hB8⟩
              have HS8 := Lib.hid (HSD.out.call hB8)
              clear hB8 HSD
              cases ho : onIm W H (x : Int) (y : Int)
              · have HN : Hid (Pnt W H P rs (px W P ys) (px W P xs) k ((x + 1 : Nat) : Int) ds ∧ GS w w8 [ri u4.heap.size u5.heap.size (.slice (some ⟨g, 0, none⟩) xs.length c5) ds] [⟨q, 25, #[.int .i64 (W : Int), .int .i64 (H : Int), .int .i64 (P : Int), .slice (some ⟨g, 0, none⟩) xs.length c5]⟩, ⟨w.heap.size + 1 + 1, 25, #[.int .i64 0, .int .i64 0, .int .i64 0, .slice none 0 0]⟩, ⟨w.heap.size + 1, 25, #[.int .i64 (W : Int), .int .i64 (H : Int), .int .i64 (P : Int), .slice A' ys.length c']⟩, ⟨w.heap.size, 25, #[.int .i64 (W : Int), .int .i64 (H : Int), .int .i64 (P : Int), .slice A xs.length c]⟩]) := Lib.hid ⟨by
                  have := HPF.out.skip (by rw [HYY.out]; simp only [onIm, Bool.and_eq_false_iff, decide_eq_false_iff_not] at ho; omega)
                  simpa using this, HS8.out⟩
                clear ho HS8 HPF
                go_wp2
                go_roundw
                case rel => exact ⟨x + 1, ds, by omega, by omega, by go_num, HN⟩
                case measure => simp [intOf]; omega
              · obtain ⟨hxW, hyH⟩ : x < W ∧ y < H := by
                  simp only [onIm, Bool.and_eq_true, decide_eq_true_eq] at ho
                  omega
                obtain ⟨m0, m1, m2, m3⟩ := HS8.out.b0_4
                obtain ⟨p0, p1, p2, p3⟩ := HS8.out.b2_4
                have hml := HS8.out.l0
                have hpl := HS8.out.l2
                have hbl : b < w8.heap.size := by have := HS8.out.below.size; omega
                have hcy : w8.cell? ⟨b, off + k * 3, none⟩ = some (.int .i64 (y : Int)) := by rw [← HYY.out]; exact cellB HS8.out.below hb (HC.out _ t0)
                have HYr := Lib.hid (HS8.out.arg HY.out)
                have hgq := Hg1.out
                have hdl : ds.length = xs.length := by rw [HPF.out.1, HXL.out]
                have hne1 : ¬ b = g := by omega
                have HDL := Lib.hid hdl
                clear ho hdl
                go_wp2
                go_region_held3 (fun w' => (w'.cell? ⟨q, 0, none⟩ = some (.int .i64 (W : Int)) ∧ w'.cell? ⟨q, 1, none⟩ = some (.int .i64 (H : Int)) ∧ w'.cell? ⟨q, 2, none⟩ = some (.int .i64 (P : Int)) ∧ w'.cell? ⟨q, 3, none⟩ = some (.slice (some ⟨g, 0, none⟩) xs.length c5)) ∧ (w'.cell? ⟨w.heap.size + 1, 0, none⟩ = some (.int .i64 (W : Int)) ∧ w'.cell? ⟨w.heap.size + 1, 1, none⟩ = some (.int .i64 (H : Int)) ∧ w'.cell? ⟨w.heap.size + 1, 2, none⟩ = some (.int .i64 (P : Int)) ∧ w'.cell? ⟨w.heap.size + 1, 3, none⟩ = some (.slice A' ys.length c')) ∧ w'.cell? ⟨b, off + k * 3, none⟩ = some (.int .i64 (y : Int)))
                  (first | (with_reducible exact ⟨⟨k0, k1, k2, k3⟩, ⟨k4, k5, k6, k7⟩, k8⟩) | (with_reducible exact ⟨⟨d0, d1, d2, d3⟩, ⟨d4, d5, d6, d7⟩, d8⟩) | exact ⟨⟨m0, m1, m2, m3⟩, ⟨p0, p1, p2, p3⟩, hcy⟩)
                  (first | (go_at_call 73; refine (pixelAt_at W H P hW hH hP1 hP A' c' ys HYL.out hlc' x y hxW hyH _ _ rfl rfl _ (by exact HYr.out)).mono ?_; rintro e w9 ⟨v9, rfl, hO9, hB9⟩; obtain ⟨A9, c9, rfl, hc9⟩ := hO9.slice; obtain ⟨d0, d1, d2, d3⟩ := keep4 hB9 (by exact hml) m0 m1 m2 m3; obtain ⟨d4, d5, d6, d7⟩ := keep4 hB9 (by exact hpl) p0 p1 p2 p3; have d8 := cellB hB9 (by exact hbl) hcy; have HO9 := Lib.hid hO9; have HB9 : Hid (Below w8.heap.size w8 w9) := Lib.hid ((Below.refl w8.heap.size w8).drew.trans hB9); have HS9 := Lib.hid (HS8.out.call HB9.out); clear hO9 hB9) | (go_at_call 72; refine (setPixel_at W H P hW hH hP u4.heap.size g c5 xs.length ds HDL.out.symm HPF.out.1 x y hxW hyH _ _ rfl rfl A9 c9 _ (pxl W P ys x y) rfl (pxl_len _ _ _ _ _) _ (by exact HS9.out.o0) (by exact HO9.out.rds.2) (fun a ha => by subst ha; have h9 := (HO9.out.lt a.block rfl).1; have h10 : w8.heap.size ≤ a.block := h9; omega)).mono ?_; rintro e w10 ⟨rfl, hO10, hG10⟩; have hz9 := HB9.out.size; obtain ⟨k0, k1, k2, k3⟩ := keep4g hG10 (by omega) (show q ≠ g by omega) d0 d1 d2 d3; obtain ⟨k4, k5, k6, k7⟩ := keep4g hG10 (by omega) (show w.heap.size + 1 ≠ g by omega) d4 d5 d6 d7; have k8 := cellG hG10 (by omega) hne1 d8; have HN : Hid (Pnt W H P rs (px W P ys) (px W P xs) k ((x + 1 : Nat) : Int) (setk W P x y (pxl W P ys x y) ds P) ∧ GS w w10 [ri u4.heap.size u5.heap.size (.slice (some ⟨g, 0, none⟩) xs.length c5) (setk W P x y (pxl W P ys x y) ds P)] [⟨q, 25, #[.int .i64 (W : Int), .int .i64 (H : Int), .int .i64 (P : Int), .slice (some ⟨g, 0, none⟩) xs.length c5]⟩, ⟨w.heap.size + 1 + 1, 25, #[.int .i64 0, .int .i64 0, .int .i64 0, .slice none 0 0]⟩, ⟨w.heap.size + 1, 25, #[.int .i64 (W : Int), .int .i64 (H : Int), .int .i64 (P : Int), .slice A' ys.length c']⟩, ⟨w.heap.size, 25, #[.int .i64 (W : Int), .int .i64 (H : Int), .int .i64 (P : Int), .slice A xs.length c]⟩]) := Lib.hid ⟨(by have h11 := HPF.out.step (q := pxl W P ys x y) hxW hyH rfl HYY.out (by rw [HFF.out]; omega) (fun p hp => pxl_get _ _ _ _ _ _ hp); simpa using h11), HS9.out.mark0 hO10 (by rw [setk_len]) hG10⟩; clear hO10 hG10))
                all_goals
                  clear d0 d1 d2 d3 d4 d5 d6 d7 d8 k0 k1 k2 k3 k4 k5 k6 k7 k8 m0 m1 m2 m3 p0 p1 p2 p3
                  (try go_wp2)
                  go_roundw
                  case rel => exact ⟨x + 1, _, by omega, by omega, by go_num, HN⟩
                  case measure => simp [intOf]; omega
            · have hxe : x = t := by omega
              have HN : Hid (Pnt W H P rs (px W P ys) (px W P xs) (k + 1) (gF rs (k + 1)) ds ∧ GS w wx [ri u4.heap.size u5.heap.size (.slice (some ⟨g, 0, none⟩) xs.length c5) ds] [⟨q, 25, #[.int .i64 (W : Int), .int .i64 (H : Int), .int .i64 (P : Int), .slice (some ⟨g, 0, none⟩) xs.length c5]⟩, ⟨w.heap.size + 1 + 1, 25, #[.int .i64 0, .int .i64 0, .int .i64 0, .slice none 0 0]⟩, ⟨w.heap.size + 1, 25, #[.int .i64 (W : Int), .int .i64 (H : Int), .int .i64 (P : Int), .slice A' ys.length c']⟩, ⟨w.heap.size, 25, #[.int .i64 (W : Int), .int .i64 (H : Int), .int .i64 (P : Int), .slice A xs.length c]⟩]) := Lib.hid ⟨hF.next (by rw [HTT.out]; omega) (.inl (by rw [HTT.out]; omega)), hS⟩
              clear hF hS hI hxe
              go_wp2
              go_roundw
              case rel => exact ⟨k + 1, ds, by omega, by go_num, HN⟩
              case measure => simp [intOf]; omega
        · have hk' : k = n := by omega
          have e : ds = mskL W H P xs ys rs n := by subst hk'; exact hF.done
          have el : (mskL W H P xs ys rs n).length = xs.length := by rw [← e, hF.1, HXL.out]
          rw [e] at hS
          obtain ⟨r0, r1, r2, r3⟩ := hS.b1_4
          obtain ⟨m0, m1, m2, m3⟩ := hS.b0_4
          have f0 := hS.f1 0
          have f1 := hS.f1 1
          have f2 := hS.f1 2
          have f3 := hS.f1 3
          have HE := Lib.hid (hS.e1_4 (.int .i64 (W : Int)) (.int .i64 (H : Int)) (.int .i64 (P : Int)) (.slice (some ⟨g, 0, none⟩) xs.length c5))
          clear hS hF hI e el hk'
          go_wp2
          exact bodyPost_ret (v := .tuple #[.agg #[.int .i64 (W : Int), .int .i64 (H : Int), .int .i64 (P : Int), .slice (some ⟨g, 0, none⟩) xs.length c5], .bool true]) (by simp [results, Try.results31, go_sem, r0, r1, r2, r3]) rfl ⟨_, by rw [HF.out]; rfl, by rw [HF.out]; exact HE.out.2 _ (List.Mem.head _), HE.out.1⟩
end Go.Proofs.Ytlmpkanlfhjijaa
