/- Contract of PatchImage in the model. -/
import Derived.Test.YtebfaomlljekiaaPatM
import Derived.Deep.Cut
import Derived.Deep.RegionHeld3
import Derived.StillTailTactics
namespace Go.Proofs.Ytebfaomlljekiaa
open Go.RowKit Go.Shelf
set_option linter.unusedSimpArgs false
set_option linter.unusedVariables false
set_option maxRecDepth 20000

set_option maxHeartbeats 16000000 in
theorem s_PatchImage (W H P W' H' P' : Int) (A A' A3 : Option Addr) (c c' n c3 : Nat) (xs ys bs : List Int) (w : World) (hx : Rds .i64 w w.heap.size A xs) (hl : xs.length ≤ 2000000) (hlc : xs.length ≤ c) (hy : Rds .i64 w w.heap.size A' ys) (hl' : ys.length ≤ 2000000) (hlc' : ys.length ≤ c') (hr : Rds .i64 w w.heap.size A3 bs) (hrl : bs.length = 4 * n) (hn : n ≤ 2000000) :
    Calls Try.prog 53 #[.agg #[.int .i64 W, .int .i64 H, .int .i64 P, .slice A xs.length c], .agg #[.int .i64 W', .int .i64 H', .int .i64 P', .slice A' ys.length c'], .slice A3 n c3] w (MadeIc (patOk W H P xs W' H' P' ys bs n) W H P (patL W.toNat H.toNat P.toNat xs ys bs n) w) := by
  have HX := Lib.hid hx
  have HY := Lib.hid hy
  have HR := Lib.hid hr
  have HRL := Lib.hid hrl
  have HV : Hid (patOk W H P xs W' H' P' ys bs n = (cmpB W H P xs W' H' P' ys && (decide ((n : Int) ≤ 128) && fitsN W H bs n))) := Lib.hid rfl
  clear hx hy hr hrl
  have S0 := (((GS.start w).box' 25 #[.int .i64 W, .int .i64 H, .int .i64 P, .slice A xs.length c] w.heap.size (by simp)).box' 25 #[.int .i64 W', .int .i64 H', .int .i64 P', .slice A' ys.length c'] (w.heap.size + 1) (by simp)).box' 25 #[.int .i64 0, .int .i64 0, .int .i64 0, .slice none 0 0] (w.heap.size + 1 + 1) (by simp)
  go_enter Try.func53, Try.ntmps53
  go_wp2_with fail
  generalize ((w.alloc (.cells #[.int .i64 W, .int .i64 H, .int .i64 P, .slice A xs.length c] 25)).alloc (.cells #[.int .i64 W', .int .i64 H', .int .i64 P', .slice A' ys.length c'] 25)).alloc (.cells #[.int .i64 0, .int .i64 0, .int .i64 0, .slice none 0 0] 25) = u0 at *
  refine (sCmp_any W H P W' H' P' A A' c c' xs ys u0 (S0.arg HX.out) hl (S0.arg HY.out) hl').mono ?_
  rintro e u1 ⟨rfl, hB⟩
  have HS := Lib.hid (S0.call hB)
  clear hB S0
  cases hv : cmpB W H P xs W' H' P' ys
  · have HF : Hid (patOk W H P xs W' H' P' ys bs n = false) := Lib.hid (by rw [HV.out, hv]; rfl)
    obtain ⟨r0, r1, r2, r3⟩ := HS.out.b0_4
    have f0 := HS.out.f0 0
    have f1 := HS.out.f0 1
    have f2 := HS.out.f0 2
    have f3 := HS.out.f0 3
    have HE := Lib.hid (HS.out.e0_4 (.int .i64 0) (.int .i64 0) (.int .i64 0) (.slice none 0 0)).1
    clear HV hv HS
    go_wp2
    exact bodyPost_ret (v := .tuple #[.agg #[.int .i64 0, .int .i64 0, .int .i64 0, .slice none 0 0], .bool false]) (by simp [results, Try.results53, go_sem, r0, r1, r2, r3]) rfl ⟨_, by rw [HF.out]; rfl, by rw [HF.out]; exact World.ownsRow_nil _ _ _ _, HE.out⟩
  by_cases hnN : ¬ (n : Int) ≤ 128
  · have hn2 : (128 : Int) < (n : Int) := by omega
    have HF : Hid (patOk W H P xs W' H' P' ys bs n = false) := Lib.hid (by rw [HV.out, decide_eq_false hnN]; simp)
    obtain ⟨r0, r1, r2, r3⟩ := HS.out.b0_4
    have f0 := HS.out.f0 0
    have f1 := HS.out.f0 1
    have f2 := HS.out.f0 2
    have f3 := HS.out.f0 3
    have HE := Lib.hid (HS.out.e0_4 (.int .i64 0) (.int .i64 0) (.int .i64 0) (.slice none 0 0)).1
    clear HV hv HS
    go_wp2
    exact bodyPost_ret (v := .tuple #[.agg #[.int .i64 0, .int .i64 0, .int .i64 0, .slice none 0 0], .bool false]) (by simp [results, Try.results53, go_sem, r0, r1, r2, r3]) rfl ⟨_, by rw [HF.out]; rfl, by rw [HF.out]; exact World.ownsRow_nil _ _ _ _, HE.out⟩
  have hnP : (n : Int) ≤ 128 := Classical.not_not.1 hnN
  have HV2 : Hid (patOk W H P xs W' H' P' ys bs n = fitsN W H bs n) := Lib.hid (by rw [HV.out, hv, decide_eq_true hnP]; rfl)
  clear hnN HV
  have hn2 : ¬ (128 : Int) < (n : Int) := by omega
  obtain ⟨W, H, P, rfl, rfl, rfl, rfl, rfl, rfl, ⟨hW1, hW⟩, ⟨hH1, hH⟩, ⟨hP1, hP⟩, hxl, hyl, _, _⟩ := cmpB_nat hv
  have HXL := Lib.hid hxl
  have HYL := Lib.hid hyl
  have hpos : 0 < xs.length := by rw [hxl]; exact Nat.mul_pos (Nat.mul_pos hW1 hH1) hP1
  obtain ⟨b0, b1, b2, b3⟩ := HS.out.b2_4
  clear hv hxl hyl
  go_wp2_with fail
  refine (sCopyImage_any W H P A c xs _ (HS.out.arg HX.out) hl).mono ?_
  rintro e u5 ⟨v5, rfl, hO5, hB5⟩
  obtain ⟨g, c5, rfl, hg1, hg2⟩ := hO5.form hpos
  have hl0 := HS.out.l0
  obtain ⟨q, hq⟩ : ∃ q, q = u5.heap.size := ⟨_, rfl⟩
  have HI : Hid (fitsN W H bs 0 = true ∧ xs = patL W H P xs ys bs 0 ∧ GS w (u5.alloc (.cells #[.int .i64 (W : Int), .int .i64 (H : Int), .int .i64 (P : Int), .slice (some ⟨g, 0, none⟩) xs.length c5] 25)) [ri u1.heap.size u5.heap.size (.slice (some ⟨g, 0, none⟩) xs.length c5) xs] [⟨q, 25, #[.int .i64 (W : Int), .int .i64 (H : Int), .int .i64 (P : Int), .slice (some ⟨g, 0, none⟩) xs.length c5]⟩, ⟨w.heap.size + 1 + 1, 25, #[.int .i64 0, .int .i64 0, .int .i64 0, .slice none 0 0]⟩, ⟨w.heap.size + 1, 25, #[.int .i64 (W : Int), .int .i64 (H : Int), .int .i64 (P : Int), .slice A' ys.length c']⟩, ⟨w.heap.size, 25, #[.int .i64 (W : Int), .int .i64 (H : Int), .int .i64 (P : Int), .slice A xs.length c]⟩]) := Lib.hid ⟨rfl, patL_zero ys bs HXL.out, (HS.out.add hO5 hB5).box' _ _ q hq⟩
  have Hg1 := Lib.hid (show w.heap.size + 3 ≤ g ∧ g < q by omega)
  clear hO5 hB5 b0 b1 b2 b3 HS hl0 hg1 hg2 hpos
  go_wp2
  rw [← hq]
  generalize u5.alloc (.cells #[.int .i64 (W : Int), .int .i64 (H : Int), .int .i64 (P : Int), .slice (some ⟨g, 0, none⟩) xs.length c5] 25) = u6 at *
  clear hq
  go_loopw [9] (fun i wr => ∃ (k : Nat) (ds : List Int), k ≤ n ∧ i = .int .i64 k ∧ Hid (fitsN W H bs k = true ∧ ds = patL W H P xs ys bs k ∧ GS w wr [ri u1.heap.size u5.heap.size (.slice (some ⟨g, 0, none⟩) xs.length c5) ds] [⟨q, 25, #[.int .i64 (W : Int), .int .i64 (H : Int), .int .i64 (P : Int), .slice (some ⟨g, 0, none⟩) xs.length c5]⟩, ⟨w.heap.size + 1 + 1, 25, #[.int .i64 0, .int .i64 0, .int .i64 0, .slice none 0 0]⟩, ⟨w.heap.size + 1, 25, #[.int .i64 (W : Int), .int .i64 (H : Int), .int .i64 (P : Int), .slice A' ys.length c']⟩, ⟨w.heap.size, 25, #[.int .i64 (W : Int), .int .i64 (H : Int), .int .i64 (P : Int), .slice A xs.length c]⟩])) (fun i _ => n - (intOf i).toNat)
  case atStart => exact ⟨0, xs, Nat.zero_le _, rfl, HI⟩
  case round =>
    clear HI
    obtain ⟨k, ds, hk, rfl, hI⟩ := hrel
    rename World => wv
    obtain ⟨hFit, hDs, hS⟩ := hI.out
    by_cases hlt : k < n
    · obtain ⟨t0, t1, t2, t3⟩ := quad4 hlt HRL.out
      obtain ⟨b, off, rfl, hb, hc⟩ := HR.out.cells_ t0
      have HC := Lib.hid hc
      have HDs := Lib.hid hDs
      have HFx : Hid (fitsN W H bs (k + 1) = fitB (q0 bs k) (q1 bs k) (q2 bs k) (q3 bs k) W H) := Lib.hid (by show (fitsN W H bs k && _) = _; rw [hFit, Bool.true_and])
      have hc0 : wv.cell? ⟨b, off + k * 4, none⟩ = some (.int .i64 (q0 bs k)) := cellB hS.below hb (hc _ t0)
      have hc1 : wv.cell? ⟨b, off + k * 4 + 1, none⟩ = some (.int .i64 (q1 bs k)) := cellB hS.below hb (hc _ t1)
      have hc2 : wv.cell? ⟨b, off + k * 4 + 2, none⟩ = some (.int .i64 (q2 bs k)) := cellB hS.below hb (hc _ t2)
      have hc3 : wv.cell? ⟨b, off + k * 4 + 3, none⟩ = some (.int .i64 (q3 bs k)) := cellB hS.below hb (hc _ t3)
      obtain ⟨a0, a1, a2, a3⟩ := hS.b3_4
      have hbl : b < wv.heap.size := by have := hS.below.size; omega
      have HSV := Lib.hid hS
      clear hFit hDs hS hI hc
      go_wp2
      go_still_tail 5, (by kernel_rfl)
      change wpList _ _ _ _ _ wv.drew
      have HSD := Lib.hid HSV.out.drew
      clear HSV a0 a1 a2 a3 hc0 hc1 hc2 hc3 hbl
      generalize wv.drew = w7 at *
      go_wp2_with fail
      refine (vbox_any (q0 bs k) (q1 bs k) (q2 bs k) (q3 bs k) W H P _ ⟨by omega, by omega⟩ ⟨by omega, by omega⟩ w7).mono ?_
      rintro e w8 ⟨rfl, hB8⟩
      have HS8 := Lib.hid (HSD.out.call hB8)
      clear hB8 HSD
      cases hf : fitB (q0 bs k) (q1 bs k) (q2 bs k) (q3 bs k) W H
      · have HF : Hid (patOk W H P xs W H P ys bs n = false) := Lib.hid (by rw [HV2.out]; exact fitsN_no hf hlt)
        obtain ⟨r0, r1, r2, r3⟩ := HS8.out.b1_4
        have f0 := HS8.out.f1 0
        have f1 := HS8.out.f1 1
        have f2 := HS8.out.f1 2
        have f3 := HS8.out.f1 3
        have HE := Lib.hid (HS8.out.e1_4 (.int .i64 0) (.int .i64 0) (.int .i64 0) (.slice none 0 0)).1
        clear hf HS8 HFx
        go_wp2
        exact bodyPost_ret (v := .tuple #[.agg #[.int .i64 0, .int .i64 0, .int .i64 0, .slice none 0 0], .bool false]) (by simp [results, Try.results53, go_sem, r0, r1, r2, r3]) rfl ⟨_, by rw [HF.out]; rfl, by rw [HF.out]; exact World.ownsRow_nil _ _ _ _, HE.out⟩
      · have HFy : Hid (fitsN W H bs (k + 1) = true) := Lib.hid (by rw [HFx.out, hf])
        obtain ⟨X, Y, bw, bh, e0, e1, e2, e3, hbw, hbh, hXw, hYh⟩ := fit_nat hf
        have hc0 : w8.cell? ⟨b, off + k * 4, none⟩ = some (.int .i64 (X : Int)) := by rw [← e0]; exact cellB HS8.out.below hb (HC.out _ t0)
        have hc1 : w8.cell? ⟨b, off + k * 4 + 1, none⟩ = some (.int .i64 (Y : Int)) := by rw [← e1]; exact cellB HS8.out.below hb (HC.out _ t1)
        have hc2 : w8.cell? ⟨b, off + k * 4 + 2, none⟩ = some (.int .i64 (bw : Int)) := by rw [← e2]; exact cellB HS8.out.below hb (HC.out _ t2)
        have hc3 : w8.cell? ⟨b, off + k * 4 + 3, none⟩ = some (.int .i64 (bh : Int)) := by rw [← e3]; exact cellB HS8.out.below hb (HC.out _ t3)
        obtain ⟨m0, m1, m2, m3⟩ := HS8.out.b0_4
        obtain ⟨p0, p1, p2, p3⟩ := HS8.out.b2_4
        have hql := HS8.out.l0
        have hpl := HS8.out.l2
        have hbl : b < w8.heap.size := by have := HS8.out.below.size; omega
        have hdl : ds.length = xs.length := by rw [HDs.out, patL_len, HXL.out]
        have hgq := Hg1.out
        have hne1 : ¬ b = g := by omega
        have hne2 : ¬ q = g := by omega
        have hne3 : ¬ w.heap.size + 1 = g := by omega
        have HDL := Lib.hid hdl
        have HNX : Hid (img W H P (paF (px bw P (cropL W P ys X Y bw bh)) (px W P ds) X Y bw bh 0) = patL W H P xs ys bs (k + 1)) := Lib.hid (by rw [HDs.out]; exact patL_next xs ys bs k X Y bw bh e0 e1 e2 e3)
        have hcl : (cropL W P ys X Y bw bh).length = bw * bh * P := img_len _ _ _ _
        have HCL := Lib.hid hcl
        have HSR := Lib.hid HS8.out
        have E0 := Lib.hid e0
        have E1 := Lib.hid e1
        have E2 := Lib.hid e2
        have E3 := Lib.hid e3
        clear hf hdl hcl e0 e1 e2 e3 HS8 HFx
        go_upto_region 9 with fail
        go_region_held3 (fun w' => (w'.cell? ⟨q, 0, none⟩ = some (.int .i64 (W : Int)) ∧ w'.cell? ⟨q, 1, none⟩ = some (.int .i64 (H : Int)) ∧ w'.cell? ⟨q, 2, none⟩ = some (.int .i64 (P : Int)) ∧ w'.cell? ⟨q, 3, none⟩ = some (.slice (some ⟨g, 0, none⟩) xs.length c5)) ∧ (w'.cell? ⟨w.heap.size + 1, 0, none⟩ = some (.int .i64 (W : Int)) ∧ w'.cell? ⟨w.heap.size + 1, 1, none⟩ = some (.int .i64 (H : Int)) ∧ w'.cell? ⟨w.heap.size + 1, 2, none⟩ = some (.int .i64 (P : Int)) ∧ w'.cell? ⟨w.heap.size + 1, 3, none⟩ = some (.slice A' ys.length c')) ∧ (w'.cell? ⟨b, off + k * 4, none⟩ = some (.int .i64 (X : Int)) ∧ w'.cell? ⟨b, off + k * 4 + 1, none⟩ = some (.int .i64 (Y : Int)) ∧ w'.cell? ⟨b, off + k * 4 + 2, none⟩ = some (.int .i64 (bw : Int)) ∧ w'.cell? ⟨b, off + k * 4 + 3, none⟩ = some (.int .i64 (bh : Int))))
          (first | (with_reducible exact ⟨⟨k0, k1, k2, k3⟩, ⟨k4, k5, k6, k7⟩, k8, k9, k10, k11⟩) | (with_reducible exact ⟨⟨d0, d1, d2, d3⟩, ⟨d4, d5, d6, d7⟩, d8, d9, d10, d11⟩) | exact ⟨⟨m0, m1, m2, m3⟩, ⟨p0, p1, p2, p3⟩, hc0, hc1, hc2, hc3⟩)
          (first | (go_at_call 114; refine (crop_any W H P X Y bw bh hW1 hW hH1 hH hP1 hP hbw hbh hXw hYh A' c' ys HYL.out hlc' _ (by exact HSR.out.drew.arg HY.out)).mono ?_; rintro e w9 ⟨v9, rfl, hO9, hB9⟩; obtain ⟨A9, c9, rfl, hc9⟩ := hO9.slice; have hS9 := HSR.out.drew.add hO9 hB9; obtain ⟨d0, d1, d2, d3⟩ := (hS9).b0_4; obtain ⟨d4, d5, d6, d7⟩ := (hS9).b2_4; have d8 : w9.cell? ⟨b, off + k * 4, none⟩ = some (.int .i64 (X : Int)) := (by rw [← E0.out]; exact cellB (hS9).below hb (HC.out _ t0)); have d9 : w9.cell? ⟨b, off + k * 4 + 1, none⟩ = some (.int .i64 (Y : Int)) := (by rw [← E1.out]; exact cellB (hS9).below hb (HC.out _ t1)); have d10 : w9.cell? ⟨b, off + k * 4 + 2, none⟩ = some (.int .i64 (bw : Int)) := (by rw [← E2.out]; exact cellB (hS9).below hb (HC.out _ t2)); have d11 : w9.cell? ⟨b, off + k * 4 + 3, none⟩ = some (.int .i64 (bh : Int)) := (by rw [← E3.out]; exact cellB (hS9).below hb (HC.out _ t3)); have HA9 : Hid (∀ a : Addr, A9 = some a → a.block ≠ g) := Lib.hid (fun a ha => by subst ha; have h9 := (hO9.lt a.block rfl).1; have h8 : w8.heap.size ≤ a.block := h9; omega); have HS9 := Lib.hid hS9; clear hO9 hB9 hS9) | (go_at_call 113; refine (paste_off W H P bw bh hW1 hW hH1 hH hP1 hP (by omega) (by omega) X Y (by omega) (by omega) (by omega) (by omega) u1.heap.size w9.heap.size g c5 xs.length ds HDL.out.symm (by rw [HDL.out, HXL.out]) A9 c9 (cropL W P ys X Y bw bh) HCL.out hc9 w9 (by exact HS9.out.o1) (by exact HS9.out.r0) (Nat.le_refl _) HA9.out).mono ?_; rintro e w10 ⟨rfl, hO10, hG10⟩; rw [HNX.out] at hO10; have hS10 := (HS9.out.mark1 hO10 (by rw [patL_len, HDL.out, HXL.out]) hG10).dropR; obtain ⟨k0, k1, k2, k3⟩ := (hS10).b0_4; obtain ⟨k4, k5, k6, k7⟩ := (hS10).b2_4; have k8 : w10.cell? ⟨b, off + k * 4, none⟩ = some (.int .i64 (X : Int)) := (by rw [← E0.out]; exact cellB (hS10).below hb (HC.out _ t0)); have k9 : w10.cell? ⟨b, off + k * 4 + 1, none⟩ = some (.int .i64 (Y : Int)) := (by rw [← E1.out]; exact cellB (hS10).below hb (HC.out _ t1)); have k10 : w10.cell? ⟨b, off + k * 4 + 2, none⟩ = some (.int .i64 (bw : Int)) := (by rw [← E2.out]; exact cellB (hS10).below hb (HC.out _ t2)); have k11 : w10.cell? ⟨b, off + k * 4 + 3, none⟩ = some (.int .i64 (bh : Int)) := (by rw [← E3.out]; exact cellB (hS10).below hb (HC.out _ t3)); have HS10 := Lib.hid hS10; clear hO10 hG10 hS10))
        have HN : Hid (fitsN W H bs (k + 1) = true ∧ patL W H P xs ys bs (k + 1) = patL W H P xs ys bs (k + 1) ∧ GS w w10 [ri u1.heap.size u5.heap.size (.slice (some ⟨g, 0, none⟩) xs.length c5) (patL W H P xs ys bs (k + 1))] [⟨q, 25, #[.int .i64 (W : Int), .int .i64 (H : Int), .int .i64 (P : Int), .slice (some ⟨g, 0, none⟩) xs.length c5]⟩, ⟨w.heap.size + 1 + 1, 25, #[.int .i64 0, .int .i64 0, .int .i64 0, .slice none 0 0]⟩, ⟨w.heap.size + 1, 25, #[.int .i64 (W : Int), .int .i64 (H : Int), .int .i64 (P : Int), .slice A' ys.length c']⟩, ⟨w.heap.size, 25, #[.int .i64 (W : Int), .int .i64 (H : Int), .int .i64 (P : Int), .slice A xs.length c]⟩]) := Lib.hid ⟨HFy.out, rfl, HS10.out⟩
        clear m0 m1 m2 m3 p0 p1 p2 p3 hc0 hc1 hc2 hc3 d0 d1 d2 d3 d4 d5 d6 d7 d8 d9 d10 d11 k0 k1 k2 k3 k4 k5 k6 k7 k8 k9 k10 k11 HS10 HS9 HSR HNX
        go_wp2
        go_roundw
        case rel => exact ⟨k + 1, _, by omega, by go_num, HN⟩
        case measure => simp [intOf]; omega
    · have hk' : k = n := by omega
      have HF : Hid (patOk W H P xs W H P ys bs n = true) := Lib.hid (by rw [HV2.out, ← hk']; exact hFit)
      have e : ds = patL W H P xs ys bs n := by rw [← hk']; exact hDs
      have el : (patL W H P xs ys bs n).length = xs.length := by rw [patL_len, HXL.out]
      rw [e] at hS
      obtain ⟨r0, r1, r2, r3⟩ := hS.b1_4
      obtain ⟨m0, m1, m2, m3⟩ := hS.b0_4
      have f0 := hS.f1 0
      have f1 := hS.f1 1
      have f2 := hS.f1 2
      have f3 := hS.f1 3
      have HE := Lib.hid (hS.e1_4 (.int .i64 (W : Int)) (.int .i64 (H : Int)) (.int .i64 (P : Int)) (.slice (some ⟨g, 0, none⟩) xs.length c5))
      clear hS hFit hDs hI e el
      go_wp2
      exact bodyPost_ret (v := .tuple #[.agg #[.int .i64 (W : Int), .int .i64 (H : Int), .int .i64 (P : Int), .slice (some ⟨g, 0, none⟩) xs.length c5], .bool true]) (by simp [results, Try.results53, go_sem, r0, r1, r2, r3]) rfl ⟨_, by rw [HF.out]; rfl, by rw [HF.out]; exact HE.out.2 _ (List.Mem.head _), HE.out.1⟩
end Go.Proofs.Ytebfaomlljekiaa
