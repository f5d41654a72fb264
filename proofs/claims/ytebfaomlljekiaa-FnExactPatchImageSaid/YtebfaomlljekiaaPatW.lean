/- The contract of PatchImage in the model, and the walk of its law: what the law does with each two images and each list of boxes. -/
import Derived.Test.YtebfaomlljekiaaRows
import Derived.WalkKit
import Derived.ProofKit
import Derived.OpenShut
import Derived.ShutString
import Derived.ChangeOld
import Derived.Below
import Derived.Lib.SmallJoins
import Derived.Test.YtebfaomlljekiaaGen
import Derived.Test.YtebfaomlljekiaaSz
import Derived.Deep.Cut
import Derived.Deep.RegionHeld3
import Derived.Test.YtebfaomlljekiaaPatI
import Derived.Test.YtebfaomlljekiaaIStL
import Derived.Test.YtebfaomlljekiaaNa
import Derived.Test.YtebfaomlljekiaaTriO
import Derived.Test.YtebfaomlljekiaaPatM
import Derived.StillTailTactics
namespace Go.Proofs.Ytebfaomlljekiaa
open Go.RowKit Go.Shelf
set_option linter.unusedSimpArgs false
set_option linter.unusedVariables false
set_option maxRecDepth 20000

set_option maxHeartbeats 16000000 in
theorem s_PatchImage (W H P W' H' P' : Int) (A A' A3 : Option Addr) (c c' n c3 : Nat) (xs ys bs : List Int) (w : World) (hx : Rds .i64 w w.heap.size A xs) (hl : xs.length ≤ 2000000) (hlc : xs.length ≤ c) (hy : Rds .i64 w w.heap.size A' ys) (hl' : ys.length ≤ 2000000) (hlc' : ys.length ≤ c') (hr : Rds .i64 w w.heap.size A3 bs) (hrl : bs.length = 4 * n) (hn : n ≤ 2000000) :
    Calls Try.prog 53 #[.agg #[.int .i64 W, .int .i64 H, .int .i64 P, .slice A xs.length c], .agg #[.int .i64 W', .int .i64 H', .int .i64 P', .slice A' ys.length c'], .slice A3 n c3] w (MadeIc (patOk W H P xs W' H' P' ys bs n) W H P (patL W.toNat H.toNat P.toNat xs ys bs n) w) := by
  have HX := Lib.hid hx
  have HY := Lib.hid hy
  have HR := Lib.hid hr
  have HRL := Lib.hid hrl
  have HV : Hid (patOk W H P xs W' H' P' ys bs n = (cmpB W H P xs W' H' P' ys && (decide ((n : Int) ≤ 128) && fitsN W H bs n))) := Lib.hid rfl
  clear hx hy hr hrl
  have S0 := (((GS.start w).box' 25 #[.int .i64 W, .int .i64 H, .int .i64 P, .slice A xs.length c] w.heap.size (by simp)).box' 25 #[.int .i64 W', .int .i64 H', .int .i64 P', .slice A' ys.length c'] (w.heap.size + 1) (by simp)).box' 25 #[.int .i64 0, .int .i64 0, .int .i64 0, .slice none 0 0] (w.heap.size + 1 + 1) (by simp)
  go_enter Try.func53, Try.ntmps53
  go_wp2_with fail
  generalize ((w.alloc (.cells #[.int .i64 W, .int .i64 H, .int .i64 P, .slice A xs.length c] 25)).alloc (.cells #[.int .i64 W', .int .i64 H', .int .i64 P', .slice A' ys.length c'] 25)).alloc (.cells #[.int .i64 0, .int .i64 0, .int .i64 0, .slice none 0 0] 25) = u0 at *
  refine (sCmp_any W H P W' H' P' A A' c c' xs ys u0 (S0.arg HX.out) hl (S0.arg HY.out) hl').mono ?_
  rintro e u1 ⟨rfl, hB⟩
  have HS := Lib.hid (S0.call hB)
  clear hB S0
  cases hv : cmpB W H P xs W' H' P' ys
  · have HF : Hid (patOk W H P xs W' H' P' ys bs n = false) := Lib.hid (by rw [HV.out, hv]; rfl)
    obtain ⟨r0, r1, r2, r3⟩ := HS.out.b0_4
    have f0 := HS.out.f0 0
    have f1 := HS.out.f0 1
    have f2 := HS.out.f0 2
    have f3 := HS.out.f0 3
    have HE := Lib.hid (HS.out.e0_4 (.int .i64 0) (.int .i64 0) (.int .i64 0) (.slice none 0 0)).1
    clear HV hv HS
    go_wp2
    exact bodyPost_ret (v := .tuple #[.agg #[.int .i64 0, .int .i64 0, .int .i64 0, .slice none 0 0], .bool false]) (by simp [results, Try.results53, go_sem, r0, r1, r2, r3]) rfl ⟨_, by rw [HF.out]; rfl, by rw [HF.out]; exact World.ownsRow_nil _ _ _ _, HE.out⟩
  by_cases hnN : ¬ (n : Int) ≤ 128
  · have hn2 : (128 : Int) < (n : Int) := by omega
    have HF : Hid (patOk W H P xs W' H' P' ys bs n = false) := Lib.hid (by rw [HV.out, decide_eq_false hnN]; simp)
    obtain ⟨r0, r1, r2, r3⟩ := HS.out.b0_4
    have f0 := HS.out.f0 0
    have f1 := HS.out.f0 1
    have f2 := HS.out.f0 2
    have f3 := HS.out.f0 3
    have HE := Lib.hid (HS.out.e0_4 (.int .i64 0) (.int .i64 0) (.int .i64 0) (.slice none 0 0)).1
    clear HV hv HS
    go_wp2
    exact bodyPost_ret (v := .tuple #[.agg #[.int .i64 0, .int .i64 0, .int .i64 0, .slice none 0 0], .bool false]) (by simp [results, Try.results53, go_sem, r0, r1, r2, r3]) rfl ⟨_, by rw [HF.out]; rfl, by rw [HF.out]; exact World.ownsRow_nil _ _ _ _, HE.out⟩
  have hnP : (n : Int) ≤ 128 := Classical.not_not.1 hnN
  have HV2 : Hid (patOk W H P xs W' H' P' ys bs n = fitsN W H bs n) := Lib.hid (by rw [HV.out, hv, decide_eq_true hnP]; rfl)
  clear hnN HV
  have hn2 : ¬ (128 : Int) < (n : Int) := by omega
  obtain ⟨W, H, P, rfl, rfl, rfl, rfl, rfl, rfl, ⟨hW1, hW⟩, ⟨hH1, hH⟩, ⟨hP1, hP⟩, hxl, hyl, _, _⟩ := cmpB_nat hv
  have HXL := Lib.hid hxl
  have HYL := Lib.hid hyl
  have hpos : 0 < xs.length := by rw [hxl]; exact Nat.mul_pos (Nat.mul_pos hW1 hH1) hP1
  obtain ⟨b0, b1, b2, b3⟩ := HS.out.b2_4
  clear hv hxl hyl
  go_wp2_with fail
  refine (sCopyImage_any W H P A c xs _ (HS.out.arg HX.out) hl).mono ?_
  rintro e u5 ⟨v5, rfl, hO5, hB5⟩
  obtain ⟨g, c5, rfl, hg1, hg2⟩ := hO5.form hpos
  have hl0 := HS.out.l0
  obtain ⟨q, hq⟩ : ∃ q, q = u5.heap.size := ⟨_, rfl⟩
  have HI : Hid (fitsN W H bs 0 = true ∧ xs = patL W H P xs ys bs 0 ∧ GS w (u5.alloc (.cells #[.int .i64 (W : Int), .int .i64 (H : Int), .int .i64 (P : Int), .slice (some ⟨g, 0, none⟩) xs.length c5] 25)) [ri u1.heap.size u5.heap.size (.slice (some ⟨g, 0, none⟩) xs.length c5) xs] [⟨q, 25, #[.int .i64 (W : Int), .int .i64 (H : Int), .int .i64 (P : Int), .slice (some ⟨g, 0, none⟩) xs.length c5]⟩, ⟨w.heap.size + 1 + 1, 25, #[.int .i64 0, .int .i64 0, .int .i64 0, .slice none 0 0]⟩, ⟨w.heap.size + 1, 25, #[.int .i64 (W : Int), .int .i64 (H : Int), .int .i64 (P : Int), .slice A' ys.length c']⟩, ⟨w.heap.size, 25, #[.int .i64 (W : Int), .int .i64 (H : Int), .int .i64 (P : Int), .slice A xs.length c]⟩]) := Lib.hid ⟨rfl, patL_zero ys bs HXL.out, (HS.out.add hO5 hB5).box' _ _ q hq⟩
  have Hg1 := Lib.hid (show w.heap.size + 3 ≤ g ∧ g < q by omega)
  clear hO5 hB5 b0 b1 b2 b3 HS hl0 hg1 hg2 hpos
  go_wp2
  rw [← hq]
  generalize u5.alloc (.cells #[.int .i64 (W : Int), .int .i64 (H : Int), .int .i64 (P : Int), .slice (some ⟨g, 0, none⟩) xs.length c5] 25) = u6 at *
  clear hq
  go_loopw [9] (fun i wr => ∃ (k : Nat) (ds : List Int), k ≤ n ∧ i = .int .i64 k ∧ Hid (fitsN W H bs k = true ∧ ds = patL W H P xs ys bs k ∧ GS w wr [ri u1.heap.size u5.heap.size (.slice (some ⟨g, 0, none⟩) xs.length c5) ds] [⟨q, 25, #[.int .i64 (W : Int), .int .i64 (H : Int), .int .i64 (P : Int), .slice (some ⟨g, 0, none⟩) xs.length c5]⟩, ⟨w.heap.size + 1 + 1, 25, #[.int .i64 0, .int .i64 0, .int .i64 0, .slice none 0 0]⟩, ⟨w.heap.size + 1, 25, #[.int .i64 (W : Int), .int .i64 (H : Int), .int .i64 (P : Int), .slice A' ys.length c']⟩, ⟨w.heap.size, 25, #[.int .i64 (W : Int), .int .i64 (H : Int), .int .i64 (P : Int), .slice A xs.length c]⟩])) (fun i _ => n - (intOf i).toNat)
  case atStart => exact ⟨0, xs, Nat.zero_le _, rfl, HI⟩
  case round =>
    clear HI
    obtain ⟨k, ds, hk, rfl, hI⟩ := hrel
    rename World => wv
    obtain ⟨hFit, hDs, hS⟩ := hI.out
    by_cases hlt : k < n
    · obtain ⟨t0, t1, t2, t3⟩ := quad4 hlt HRL.out
      obtain ⟨b, off, rfl, hb, hc⟩ := HR.out.cells_ t0
      have HC := Lib.hid hc
      have HDs := Lib.hid hDs
      have HFx : Hid (fitsN W H bs (k + 1) = fitB (q0 bs k) (q1 bs k) (q2 bs k) (q3 bs k) W H) := Lib.hid (by show (fitsN W H bs k && _) = _; rw [hFit, Bool.true_and])
      have hc0 : wv.cell? ⟨b, off + k * 4, none⟩ = some (.int .i64 (q0 bs k)) := cellB hS.below hb (hc _ t0)
      have hc1 : wv.cell? ⟨b, off + k * 4 + 1, none⟩ = some (.int .i64 (q1 bs k)) := cellB hS.below hb (hc _ t1)
      have hc2 : wv.cell? ⟨b, off + k * 4 + 2, none⟩ = some (.int .i64 (q2 bs k)) := cellB hS.below hb (hc _ t2)
      have hc3 : wv.cell? ⟨b, off + k * 4 + 3, none⟩ = some (.int .i64 (q3 bs k)) := cellB hS.below hb (hc _ t3)
      obtain ⟨a0, a1, a2, a3⟩ := hS.b3_4
      have hbl : b < wv.heap.size := by have := hS.below.size; omega
      have HSV := Lib.hid hS
      clear hFit hDs hS hI hc
      go_wp2
      go_still_tail 5, (by kernel_rfl)
      change wpList _ _ _ _ _ wv.drew
      have HSD := Lib.hid HSV.out.drew
      clear HSV a0 a1 a2 a3 hc0 hc1 hc2 hc3 hbl
      generalize wv.drew = w7 at *
      go_wp2_with fail
      refine (vbox_any (q0 bs k) (q1 bs k) (q2 bs k) (q3 bs k) W H P _ ⟨by omega, by omega⟩ ⟨by omega, by omega⟩ w7).mono ?_
      rintro e w8 ⟨rfl, hB8⟩
      have HS8 := Lib.hid (HSD.out.call hB8)
      clear hB8 HSD
      cases hf : fitB (q0 bs k) (q1 bs k) (q2 bs k) (q3 bs k) W H
      · have HF : Hid (patOk W H P xs W H P ys bs n = false) := Lib.hid (by rw [HV2.out]; exact fitsN_no hf hlt)
        obtain ⟨r0, r1, r2, r3⟩ := HS8.out.b1_4
        have f0 := HS8.out.f1 0
        have f1 := HS8.out.f1 1
        have f2 := HS8.out.f1 2
        have f3 := HS8.out.f1 3
        have HE := Lib.hid (HS8.out.e1_4 (.int .i64 0) (.int .i64 0) (.int .i64 0) (.slice none 0 0)).1
        clear hf HS8 HFx
        go_wp2
        exact bodyPost_ret (v := .tuple #[.agg #[.int .i64 0, .int .i64 0, .int .i64 0, .slice none 0 0], .bool false]) (by simp [results, Try.results53, go_sem, r0, r1, r2, r3]) rfl ⟨_, by rw [HF.out]; rfl, by rw [HF.out]; exact World.ownsRow_nil _ _ _ _, HE.out⟩
      · have HFy : Hid (fitsN W H bs (k + 1) = true) := Lib.hid (by rw [HFx.out, hf])
        obtain ⟨X, Y, bw, bh, e0, e1, e2, e3, hbw, hbh, hXw, hYh⟩ := fit_nat hf
        have hc0 : w8.cell? ⟨b, off + k * 4, none⟩ = some (.int .i64 (X : Int)) := by rw [← e0]; exact cellB HS8.out.below hb (HC.out _ t0)
        have hc1 : w8.cell? ⟨b, off + k * 4 + 1, none⟩ = some (.int .i64 (Y : Int)) := by rw [← e1]; exact cellB HS8.out.below hb (HC.out _ t1)
        have hc2 : w8.cell? ⟨b, off + k * 4 + 2, none⟩ = some (.int .i64 (bw : Int)) := by rw [← e2]; exact cellB HS8.out.below hb (HC.out _ t2)
        have hc3 : w8.cell? ⟨b, off + k * 4 + 3, none⟩ = some (.int .i64 (bh : Int)) := by rw [← e3]; exact cellB HS8.out.below hb (HC.out _ t3)
        obtain ⟨m0, m1, m2, m3⟩ := HS8.out.b0_4
        obtain ⟨p0, p1, p2, p3⟩ := HS8.out.b2_4
        have hql := HS8.out.l0
        have hpl := HS8.out.l2
        have hbl : b < w8.heap.size := by have := HS8.out.below.size; omega
        have hdl : ds.length = xs.length := by rw [HDs.out, patL_len, HXL.out]
        have hgq := Hg1.out
        have hne1 : ¬ b = g := by omega
        have hne2 : ¬ q = g := by omega
        have hne3 : ¬ w.heap.size + 1 = g := by omega
        have HDL := Lib.hid hdl
        have HNX : Hid (img W H P (paF (px bw P (cropL W P ys X Y bw bh)) (px W P ds) X Y bw bh 0) = patL W H P xs ys bs (k + 1)) := Lib.hid (by rw [HDs.out]; exact patL_next xs ys bs k X Y bw bh e0 e1 e2 e3)
        have hcl : (cropL W P ys X Y bw bh).length = bw * bh * P := img_len _ _ _ _
        have HCL := Lib.hid hcl
        have HSR := Lib.hid HS8.out
        have E0 := Lib.hid e0
        have E1 := Lib.hid e1
        have E2 := Lib.hid e2
        have E3 := Lib.hid e3
        clear hf hdl hcl e0 e1 e2 e3 HS8 HFx
        go_upto_region 9 with fail
        go_region_held3 (fun w' => (w'.cell? ⟨q, 0, none⟩ = some (.int .i64 (W : Int)) ∧ w'.cell? ⟨q, 1, none⟩ = some (.int .i64 (H : Int)) ∧ w'.cell? ⟨q, 2, none⟩ = some (.int .i64 (P : Int)) ∧ w'.cell? ⟨q, 3, none⟩ = some (.slice (some ⟨g, 0, none⟩) xs.length c5)) ∧ (w'.cell? ⟨w.heap.size + 1, 0, none⟩ = some (.int .i64 (W : Int)) ∧ w'.cell? ⟨w.heap.size + 1, 1, none⟩ = some (.int .i64 (H : Int)) ∧ w'.cell? ⟨w.heap.size + 1, 2, none⟩ = some (.int .i64 (P : Int)) ∧ w'.cell? ⟨w.heap.size + 1, 3, none⟩ = some (.slice A' ys.length c')) ∧ (w'.cell? ⟨b, off + k * 4, none⟩ = some (.int .i64 (X : Int)) ∧ w'.cell? ⟨b, off + k * 4 + 1, none⟩ = some (.int .i64 (Y : Int)) ∧ w'.cell? ⟨b, off + k * 4 + 2, none⟩ = some (.int .i64 (bw : Int)) ∧ w'.cell? ⟨b, off + k * 4 + 3, none⟩ = some (.int .i64 (bh : Int))))
          (first | (with_reducible exact ⟨⟨k0, k1, k2, k3⟩, ⟨k4, k5, k6, k7⟩, k8, k9, k10, k11⟩) | (with_reducible exact ⟨⟨d0, d1, d2, d3⟩, ⟨d4, d5, d6, d7⟩, d8, d9, d10, d11⟩) | exact ⟨⟨m0, m1, m2, m3⟩, ⟨p0, p1, p2, p3⟩, hc0, hc1, hc2, hc3⟩)
          (first | (go_at_call 114; refine (crop_any W H P X Y bw bh hW1 hW hH1 hH hP1 hP hbw hbh hXw hYh A' c' ys HYL.out hlc' _ (by exact HSR.out.drew.arg HY.out)).mono ?_; rintro e w9 ⟨v9, rfl, hO9, hB9⟩; obtain ⟨A9, c9, rfl, hc9⟩ := hO9.slice; have hS9 := HSR.out.drew.add hO9 hB9; obtain ⟨d0, d1, d2, d3⟩ := (hS9).b0_4; obtain ⟨d4, d5, d6, d7⟩ := (hS9).b2_4; have d8 : w9.cell? ⟨b, off + k * 4, none⟩ = some (.int .i64 (X : Int)) := (by rw [← E0.out]; exact cellB (hS9).below hb (HC.out _ t0)); have d9 : w9.cell? ⟨b, off + k * 4 + 1, none⟩ = some (.int .i64 (Y : Int)) := (by rw [← E1.out]; exact cellB (hS9).below hb (HC.out _ t1)); have d10 : w9.cell? ⟨b, off + k * 4 + 2, none⟩ = some (.int .i64 (bw : Int)) := (by rw [← E2.out]; exact cellB (hS9).below hb (HC.out _ t2)); have d11 : w9.cell? ⟨b, off + k * 4 + 3, none⟩ = some (.int .i64 (bh : Int)) := (by rw [← E3.out]; exact cellB (hS9).below hb (HC.out _ t3)); have HA9 : Hid (∀ a : Addr, A9 = some a → a.block ≠ g) := Lib.hid (fun a ha => by subst ha; have h9 := (hO9.lt a.block rfl).1; have h8 : w8.heap.size ≤ a.block := h9; omega); have HS9 := Lib.hid hS9; clear hO9 hB9 hS9) | (go_at_call 113; refine (paste_off W H P bw bh hW1 hW hH1 hH hP1 hP (by omega) (by omega) X Y (by omega) (by omega) (by omega) (by omega) u1.heap.size w9.heap.size g c5 xs.length ds HDL.out.symm (by rw [HDL.out, HXL.out]) A9 c9 (cropL W P ys X Y bw bh) HCL.out hc9 w9 (by exact HS9.out.o1) (by exact HS9.out.r0) (Nat.le_refl _) HA9.out).mono ?_; rintro e w10 ⟨rfl, hO10, hG10⟩; rw [HNX.out] at hO10; have hS10 := (HS9.out.mark1 hO10 (by rw [patL_len, HDL.out, HXL.out]) hG10).dropR; obtain ⟨k0, k1, k2, k3⟩ := (hS10).b0_4; obtain ⟨k4, k5, k6, k7⟩ := (hS10).b2_4; have k8 : w10.cell? ⟨b, off + k * 4, none⟩ = some (.int .i64 (X : Int)) := (by rw [← E0.out]; exact cellB (hS10).below hb (HC.out _ t0)); have k9 : w10.cell? ⟨b, off + k * 4 + 1, none⟩ = some (.int .i64 (Y : Int)) := (by rw [← E1.out]; exact cellB (hS10).below hb (HC.out _ t1)); have k10 : w10.cell? ⟨b, off + k * 4 + 2, none⟩ = some (.int .i64 (bw : Int)) := (by rw [← E2.out]; exact cellB (hS10).below hb (HC.out _ t2)); have k11 : w10.cell? ⟨b, off + k * 4 + 3, none⟩ = some (.int .i64 (bh : Int)) := (by rw [← E3.out]; exact cellB (hS10).below hb (HC.out _ t3)); have HS10 := Lib.hid hS10; clear hO10 hG10 hS10))
        have HN : Hid (fitsN W H bs (k + 1) = true ∧ patL W H P xs ys bs (k + 1) = patL W H P xs ys bs (k + 1) ∧ GS w w10 [ri u1.heap.size u5.heap.size (.slice (some ⟨g, 0, none⟩) xs.length c5) (patL W H P xs ys bs (k + 1))] [⟨q, 25, #[.int .i64 (W : Int), .int .i64 (H : Int), .int .i64 (P : Int), .slice (some ⟨g, 0, none⟩) xs.length c5]⟩, ⟨w.heap.size + 1 + 1, 25, #[.int .i64 0, .int .i64 0, .int .i64 0, .slice none 0 0]⟩, ⟨w.heap.size + 1, 25, #[.int .i64 (W : Int), .int .i64 (H : Int), .int .i64 (P : Int), .slice A' ys.length c']⟩, ⟨w.heap.size, 25, #[.int .i64 (W : Int), .int .i64 (H : Int), .int .i64 (P : Int), .slice A xs.length c]⟩]) := Lib.hid ⟨HFy.out, rfl, HS10.out⟩
        clear m0 m1 m2 m3 p0 p1 p2 p3 hc0 hc1 hc2 hc3 d0 d1 d2 d3 d4 d5 d6 d7 d8 d9 d10 d11 k0 k1 k2 k3 k4 k5 k6 k7 k8 k9 k10 k11 HS10 HS9 HSR HNX
        go_wp2
        go_roundw
        case rel => exact ⟨k + 1, _, by omega, by go_num, HN⟩
        case measure => simp [intOf]; omega
    · have hk' : k = n := by omega
      have HF : Hid (patOk W H P xs W H P ys bs n = true) := Lib.hid (by rw [HV2.out, ← hk']; exact hFit)
      have e : ds = patL W H P xs ys bs n := by rw [← hk']; exact hDs
      have el : (patL W H P xs ys bs n).length = xs.length := by rw [patL_len, HXL.out]
      rw [e] at hS
      obtain ⟨r0, r1, r2, r3⟩ := hS.b1_4
      obtain ⟨m0, m1, m2, m3⟩ := hS.b0_4
      have f0 := hS.f1 0
      have f1 := hS.f1 1
      have f2 := hS.f1 2
      have f3 := hS.f1 3
      have HE := Lib.hid (hS.e1_4 (.int .i64 (W : Int)) (.int .i64 (H : Int)) (.int .i64 (P : Int)) (.slice (some ⟨g, 0, none⟩) xs.length c5))
      clear hS hFit hDs hI e el
      go_wp2
      exact bodyPost_ret (v := .tuple #[.agg #[.int .i64 (W : Int), .int .i64 (H : Int), .int .i64 (P : Int), .slice (some ⟨g, 0, none⟩) xs.length c5], .bool true]) (by simp [results, Try.results53, go_sem, r0, r1, r2, r3]) rfl ⟨_, by rw [HF.out]; rfl, by rw [HF.out]; exact HE.out.2 _ (List.Mem.head _), HE.out.1⟩
end Go.Proofs.Ytebfaomlljekiaa
namespace Go.Proofs.Ytebfaomlljekiaa.fnExactPatchImage
open Go.ChangeShapes Go.WideShapes Go.ChangeAt Go.RowKit
open Go.ChangeMaps (open_string shut_string)
set_option linter.unusedVariables false

theorem pat_len (W H P : Int) (xs : List Int) (W' H' P' : Int) (ys bs : List Int) (n : Nat) : (cond (patOk W H P xs W' H' P' ys bs n) (patL W.toNat H.toNat P.toNat xs ys bs n) []).length ≤ 2000000 := by
  cases h : patOk W H P xs W' H' P' ys bs n
  · simp
  · unfold patOk at h
    rw [Bool.and_eq_true] at h
    obtain ⟨W, H, P, rfl, rfl, rfl, _, _, _, ⟨_, hW⟩, ⟨_, hH⟩, ⟨_, hP⟩, _⟩ := cmpB_nat h.1
    have := img_bd (W := W) (H := H) (P := P) (patM W P ys (pxc W P xs) bs n) hW hH hP
    show (img W H P (patM W P ys (pxc W P xs) bs n)).length ≤ 2000000
    omega
def FC (f : FuncId) (W0 H0 P0 : Int) (z0 : List Int) (W1 H1 P1 : Int) (z1 : List Int) (len2 : Nat) (z2 : List Int) (R1 R2 R3 : Int) (RX : List Int) (o1 : Bool) : Prop :=
  ∀ (A0 : Option Addr) (c0 : Nat) (A1 : Option Addr) (c1 : Nat) (A2 : Option Addr) (c2 : Nat) (w : World), Rds .i64 w w.heap.size A0 z0 → z0.length ≤ c0 → Rds .i64 w w.heap.size A1 z1 → z1.length ≤ c1 → Rds .i64 w w.heap.size A2 z2 → len2 ≤ c2 → Calls Try.prog f #[.agg #[.int .i64 W0, .int .i64 H0, .int .i64 P0, .slice A0 z0.length c0], .agg #[.int .i64 W1, .int .i64 H1, .int .i64 P1, .slice A1 z1.length c1], .slice A2 len2 c2] w fun e w' => ∃ v, e = .returned (.tuple #[.agg #[.int .i64 R1, .int .i64 R2, .int .i64 R3, v], .bool o1]) ∧ Own w' w.heap.size v RX ∧ Below w.heap.size w w'
set_option maxHeartbeats 16000000 in
set_option maxRecDepth 8000 in
theorem walk (w : World) (W0 H0 P0 : Int) (a0 : Option Addr) (cap0 : Nat) (z0 : List Int) (hc0 : z0.length ≤ cap0) (w0 : Rdw .i64 w w.heap.size a0 z0) (W1 H1 P1 : Int) (a1 : Option Addr) (cap1 : Nat) (z1 : List Int) (hc1 : z1.length ≤ cap1) (w1 : Rdw .i64 w w.heap.size a1 z1) (a2 : Option Addr) (len2 cap2 : Nat) (z2 : List Int) (hl2 : z2.length = 4 * len2) (hc2 : len2 ≤ cap2) (hm2 : cap2 ≤ maxLen) (w2 : Rds .i64 w w.heap.size a2 z2) (f2 : ∀ n ∈ z2, (Lit.int .i64 n).wf = true) :
    Calls Try.prog 11 #[.agg #[.int .i64 W0, .int .i64 H0, .int .i64 P0, .slice a0 z0.length cap0], .agg #[.int .i64 W1, .int .i64 H1, .int .i64 P1, .slice a1 z1.length cap1], .slice a2 len2 cap2] w fun e w' => e = .returned (.bool true) ∧ Below w.heap.size w w' := by
  unfold maxLen at *
  have hm0 := w0.2.1
  unfold maxLen at hm0
  have HR0 := Lib.hid w0.1
  clear w0
  have hm1 := w1.2.1
  unfold maxLen at hm1
  have HR1 := Lib.hid w1.1
  clear w1
  have HL2 := Lib.hid hl2
  have HR2 := Lib.hid w2
  clear hl2 w2 f2
  have S0 : GS w ((w.alloc (.cells #[.int .i64 W0, .int .i64 H0, .int .i64 P0, .slice a0 z0.length cap0] 38)).alloc (.cells #[.int .i64 W1, .int .i64 H1, .int .i64 P1, .slice a1 z1.length cap1] 38)) [] [⟨(w.heap.size + 1), 38, #[.int .i64 W1, .int .i64 H1, .int .i64 P1, .slice a1 z1.length cap1]⟩, ⟨w.heap.size, 38, #[.int .i64 W0, .int .i64 H0, .int .i64 P0, .slice a0 z0.length cap0]⟩] := GS.box' (GS.box' (GS.start w) 38 #[.int .i64 W0, .int .i64 H0, .int .i64 P0, .slice a0 z0.length cap0] w.heap.size (by simp)) 38 #[.int .i64 W1, .int .i64 H1, .int .i64 P1, .slice a1 z1.length cap1] (w.heap.size + 1) (by simp)
  go_enter Try.func11, Try.ntmps11
  go_wp2_with fail
  generalize (w.alloc (.cells #[.int .i64 W0, .int .i64 H0, .int .i64 P0, .slice a0 z0.length cap0] 38)).alloc (.cells #[.int .i64 W1, .int .i64 H1, .int .i64 P1, .slice a1 z1.length cap1] 38) = u0 at *
  by_cases hs1001 : (1048576 : Int) < (z0.length : Nat)
  · refine (szImage_gt W0 H0 P0 a0 cap0 _ (1048576) _ (by omega) (by omega) hs1001 (by omega)).mono ?_
    rintro e uz ⟨rfl, hBz⟩
    have HSz := Lib.hid (S0.call hBz)
    clear hBz
    go_wp2
    go_ret
    exact ⟨rfl, HSz.out.below⟩
  obtain ⟨K1002, HK1002⟩ : ∃ K : Int, Hid (K = 1048576 - ((z0.length : Nat) : Int)) := ⟨_, Lib.hid rfl⟩
  have hK1002 : 0 ≤ K1002 ∧ K1002 ≤ 1048576 := by have := HK1002.out; omega
  have hb0 : z0.length ≤ 1048576 := by omega
  refine (szImage_le W0 H0 P0 a0 cap0 _ (1048576) _ (by omega) (by omega) (by omega)).mono ?_
  rintro e u1002 ⟨he, hB1002⟩
  rw [← HK1002.out] at he
  subst he
  have S1002 := S0.call hB1002
  clear hB1002
  clear S0
  obtain ⟨b10, b11, b12, b13⟩ := S1002.c4 (g := (w.heap.size + 1)) (T := 38) (a0 := .int .i64 W1) (a1 := .int .i64 H1) (a2 := .int .i64 P1) (a3 := .slice a1 z1.length cap1) (by simp)
  have b1l := S1002.lt (g := (w.heap.size + 1)) (T := 38) (cs := #[.int .i64 W1, .int .i64 H1, .int .i64 P1, .slice a1 z1.length cap1]) (by simp)
  go_wp2_with fail
  by_cases hs1003 : (K1002 : Int) < (z1.length : Nat)
  · refine (szImage_gt W1 H1 P1 a1 cap1 _ (K1002) _ (by omega) (by omega) hs1003 (by omega)).mono ?_
    rintro e uz ⟨rfl, hBz⟩
    have HSz := Lib.hid (S1002.call hBz)
    clear hBz
    go_wp2
    go_ret
    exact ⟨rfl, HSz.out.below⟩
  obtain ⟨K1004, HK1004⟩ : ∃ K : Int, Hid (K = K1002 - ((z1.length : Nat) : Int)) := ⟨_, Lib.hid rfl⟩
  have hK1004 : 0 ≤ K1004 ∧ K1004 ≤ 1048576 := by have := HK1004.out; omega
  have hb1 : z1.length ≤ 1048576 := by omega
  refine (szImage_le W1 H1 P1 a1 cap1 _ (K1002) _ (by omega) (by omega) (by omega)).mono ?_
  rintro e u1004 ⟨he, hB1004⟩
  rw [← HK1004.out] at he
  subst he
  have S1004 := S1002.call hB1004
  clear b10 b11 b12 b13 b1l
  clear hB1004
  clear S1002
  go_wp2_with fail
  by_cases hs1005 : (K1004 : Int) < (len2 : Nat)
  · refine (szBoxS_gt a2 cap2 _ (K1004) _ (by omega) (by omega) hs1005 (by omega)).mono ?_
    rintro e uz ⟨rfl, hBz⟩
    have HSz := Lib.hid (S1004.call hBz)
    clear hBz
    go_wp2
    go_ret
    exact ⟨rfl, HSz.out.below⟩
  obtain ⟨K1006, HK1006⟩ : ∃ K : Int, Hid (K = K1004 - ((len2 : Nat) : Int)) := ⟨_, Lib.hid rfl⟩
  have hK1006 : 0 ≤ K1006 ∧ K1006 ≤ 1048576 := by have := HK1006.out; omega
  have hb2 : len2 ≤ 1048576 := by omega
  refine (szBoxS_le a2 cap2 _ (K1004) _ (by omega) (by omega) (by omega)).mono ?_
  rintro e u1006 ⟨he, hB1006⟩
  rw [← HK1006.out] at he
  subst he
  have S1006 := S1004.call hB1006
  clear hB1006
  clear S1004
  obtain ⟨R1, R2, R3, RX, o1, hRX, HI, HS⟩ : ∃ (R1 R2 R3 : Int) (RX : List Int) (o1 : Bool), RX.length ≤ 2000000 ∧ Hid (FC 55 W0 H0 P0 z0 W1 H1 P1 z1 len2 z2 R1 R2 R3 RX o1) ∧ Hid (FC 53 W0 H0 P0 z0 W1 H1 P1 z1 len2 z2 R1 R2 R3 RX o1) :=
      ⟨_, _, _, _, _, pat_len W0 H0 P0 z0 W1 H1 P1 z1 z2 len2, Lib.hid (fun A c A2 c2 A3 c3 w hx hc hp hpc hr hrc => i_PatchImage W0 H0 P0 W1 H1 P1 A A2 A3 c c2 len2 c3 z0 z1 z2 w hx (by omega) hc hp (by omega) hpc hr HL2.out (by omega)), Lib.hid (fun A c A2 c2 A3 c3 w hx hc hp hpc hr hrc => s_PatchImage W0 H0 P0 W1 H1 P1 A A2 A3 c c2 len2 c3 z0 z1 z2 w hx (by omega) hc hp (by omega) hpc hr HL2.out (by omega))⟩
  go_upto_region 11 with fail
  go_cut [8, 9] from 20 (fun s8 s9 wx => ∃ (gb1012 : Nat) (lo1011 hi1011 : Nat) (A1011 : Option Addr) (c1011 : Nat) (lo1010 hi1010 : Nat) (A1010 : Option Addr) (c1010 : Nat) (lo1009 hi1009 : Nat) (A1009 : Option Addr) (c1009 : Nat) (lo1008 hi1008 : Nat) (A1008 : Option Addr) (c1008 : Nat), s8 = .pointer (some ⟨gb1012, 0, none⟩) ∧ s9 = .bool o1 ∧ RX.length ≤ c1011 ∧ len2 ≤ c1010 ∧ z1.length ≤ c1009 ∧ z0.length ≤ c1008 ∧ Hid (GS w wx [ri lo1011 hi1011 (.slice A1011 RX.length c1011) RX, rt 131 4 lo1010 hi1010 (.slice A1010 len2 c1010) len2 z2, ri lo1009 hi1009 (.slice A1009 z1.length c1009) z1, ri lo1008 hi1008 (.slice A1008 z0.length c1008) z0] [⟨gb1012, 25, #[.int .i64 R1, .int .i64 R2, .int .i64 R3, .slice A1011 RX.length c1011]⟩, ⟨(w.heap.size + 1), 38, #[.int .i64 W1, .int .i64 H1, .int .i64 P1, .slice a1 z1.length cap1]⟩, ⟨w.heap.size, 38, #[.int .i64 W0, .int .i64 H0, .int .i64 P0, .slice a0 z0.length cap0]⟩]))
  case first =>
    have HC := Lib.hid S1006.drew
    clear S1006
    go_region_held3 (fun w' => (w'.cell? ⟨w.heap.size, 0, none⟩ = some (.int .i64 W0) ∧ w'.cell? ⟨w.heap.size, 1, none⟩ = some (.int .i64 H0) ∧ w'.cell? ⟨w.heap.size, 2, none⟩ = some (.int .i64 P0) ∧ w'.cell? ⟨w.heap.size, 3, none⟩ = some (.slice a0 z0.length cap0)) ∧ (w'.cell? ⟨(w.heap.size + 1), 0, none⟩ = some (.int .i64 W1) ∧ w'.cell? ⟨(w.heap.size + 1), 1, none⟩ = some (.int .i64 H1) ∧ w'.cell? ⟨(w.heap.size + 1), 2, none⟩ = some (.int .i64 P1) ∧ w'.cell? ⟨(w.heap.size + 1), 3, none⟩ = some (.slice a1 z1.length cap1))) (first | (with_reducible exact ⟨(HC.out).c4 (T := 38) (by simp), (HC.out).c4 (T := 38) (by simp)⟩) | (with_reducible exact ⟨((GS.box HC.out 25 #[.int .i64 0, .int .i64 0, .int .i64 0, .slice none 0 0])).c4 (T := 38) (by simp), ((GS.box HC.out 25 #[.int .i64 0, .int .i64 0, .int .i64 0, .slice none 0 0])).c4 (T := 38) (by simp)⟩) | (with_reducible exact ⟨((GS.box HC.out 25 _)).c4 (T := 38) (by simp), ((GS.box HC.out 25 _)).c4 (T := 38) (by simp)⟩) | (with_reducible exact ⟨((GS.fill4 HC.out _ _ _ _)).c4 (T := 38) (by simp), ((GS.fill4 HC.out _ _ _ _)).c4 (T := 38) (by simp)⟩) | (exact ⟨((GS.box HC.out 25 _)).c4 (T := 38) (by simp), ((GS.box HC.out 25 _)).c4 (T := 38) (by simp)⟩)) (first | (go_at_call 31; (with_reducible refine Calls.mono (toImage_any W0 H0 P0 a0 cap0 z0 _ ?_ ?_) ?_); (first | exact HC.out.arg HR0.out | exact (GS.box HC.out 25 #[.int .i64 0, .int .i64 0, .int .i64 0, .slice none 0 0]).arg HR0.out); omega; rintro e u1008 ⟨v1008, rfl, hO1008, hB1008⟩; obtain ⟨A1008, c1008, rfl, hc1008⟩ := hO1008.slice; (first | (have HD := Lib.hid (GS.add HC.out hO1008 hB1008)) | (have HD := Lib.hid (GS.add (GS.box' HC.out 25 #[.int .i64 0, .int .i64 0, .int .i64 0, .slice none 0 0] (u1006.heap.size) rfl) hO1008 hB1008))); clear hB1008 hO1008; clear HC; have HC := HD; clear HD) | (go_at_call 31; (with_reducible refine Calls.mono (toImage_any W1 H1 P1 a1 cap1 z1 _ ?_ ?_) ?_); (first | exact HC.out.arg HR1.out | exact (GS.box HC.out 25 #[.int .i64 0, .int .i64 0, .int .i64 0, .slice none 0 0]).arg HR1.out); omega; rintro e u1009 ⟨v1009, rfl, hO1009, hB1009⟩; obtain ⟨A1009, c1009, rfl, hc1009⟩ := hO1009.slice; (first | (have HD := Lib.hid (GS.add HC.out hO1009 hB1009)) | (have HD := Lib.hid (GS.add (GS.box' HC.out 25 #[.int .i64 0, .int .i64 0, .int .i64 0, .slice none 0 0] (u1006.heap.size) rfl) hO1009 hB1009)) | (have HD := Lib.hid (GS.add (GS.box' HC.out 25 #[.int .i64 0, .int .i64 0, .int .i64 0, .slice none 0 0] (u1008.heap.size) rfl) hO1009 hB1009))); clear hB1009 hO1009; clear HC; have HC := HD; clear HD) | (go_at_call 54; (with_reducible refine Calls.mono (toBoxS_any a2 len2 cap2 z2 _ HL2.out ?_ ?_) ?_); (first | exact HC.out.arg HR2.out | exact (GS.box HC.out 25 #[.int .i64 0, .int .i64 0, .int .i64 0, .slice none 0 0]).arg HR2.out); omega; rintro e u1010 ⟨A1010, c1010, rfl, ⟨hc1010, hcx1010⟩, hr1010, hB1010, hf1010, hO1010⟩; clear hr1010 hf1010 hcx1010; (first | (have HD := Lib.hid (GS.addT HC.out hO1010 hB1010)) | (have HD := Lib.hid (GS.addT (GS.box' HC.out 25 #[.int .i64 0, .int .i64 0, .int .i64 0, .slice none 0 0] (u1006.heap.size) rfl) hO1010 hB1010)) | (have HD := Lib.hid (GS.addT (GS.box' HC.out 25 #[.int .i64 0, .int .i64 0, .int .i64 0, .slice none 0 0] (u1008.heap.size) rfl) hO1010 hB1010)) | (have HD := Lib.hid (GS.addT (GS.box' HC.out 25 #[.int .i64 0, .int .i64 0, .int .i64 0, .slice none 0 0] (u1009.heap.size) rfl) hO1010 hB1010))); clear hB1010 hO1010; clear HC; have HC := HD; clear HD) | (go_at_call 53; (refine (HS.out A1008 c1008 A1009 c1009 A1010 c1010 _ (by first | exact HC.out.rds (A := A1008) (n := z0.length) (c := c1008) (by first | exact List.mem_cons_self | exact List.mem_cons_of_mem _ List.mem_cons_self | exact List.mem_cons_of_mem _ (List.mem_cons_of_mem _ List.mem_cons_self) | exact List.mem_cons_of_mem _ (List.mem_cons_of_mem _ (List.mem_cons_of_mem _ List.mem_cons_self))) | exact (GS.box HC.out 25 #[.int .i64 0, .int .i64 0, .int .i64 0, .slice none 0 0]).rds (A := A1008) (n := z0.length) (c := c1008) (by first | exact List.mem_cons_self | exact List.mem_cons_of_mem _ List.mem_cons_self | exact List.mem_cons_of_mem _ (List.mem_cons_of_mem _ List.mem_cons_self) | exact List.mem_cons_of_mem _ (List.mem_cons_of_mem _ (List.mem_cons_of_mem _ List.mem_cons_self)))) hc1008 (by first | exact HC.out.rds (A := A1009) (n := z1.length) (c := c1009) (by first | exact List.mem_cons_self | exact List.mem_cons_of_mem _ List.mem_cons_self | exact List.mem_cons_of_mem _ (List.mem_cons_of_mem _ List.mem_cons_self) | exact List.mem_cons_of_mem _ (List.mem_cons_of_mem _ (List.mem_cons_of_mem _ List.mem_cons_self))) | exact (GS.box HC.out 25 #[.int .i64 0, .int .i64 0, .int .i64 0, .slice none 0 0]).rds (A := A1009) (n := z1.length) (c := c1009) (by first | exact List.mem_cons_self | exact List.mem_cons_of_mem _ List.mem_cons_self | exact List.mem_cons_of_mem _ (List.mem_cons_of_mem _ List.mem_cons_self) | exact List.mem_cons_of_mem _ (List.mem_cons_of_mem _ (List.mem_cons_of_mem _ List.mem_cons_self)))) hc1009 (by first | exact HC.out.rdsT (A := A1010) (E := 131) (C := 4) (n := len2) (m := len2) (c := c1010) (by first | exact List.mem_cons_self | exact List.mem_cons_of_mem _ List.mem_cons_self | exact List.mem_cons_of_mem _ (List.mem_cons_of_mem _ List.mem_cons_self) | exact List.mem_cons_of_mem _ (List.mem_cons_of_mem _ (List.mem_cons_of_mem _ List.mem_cons_self))) | exact (GS.box HC.out 25 #[.int .i64 0, .int .i64 0, .int .i64 0, .slice none 0 0]).rdsT (A := A1010) (E := 131) (C := 4) (n := len2) (m := len2) (c := c1010) (by first | exact List.mem_cons_self | exact List.mem_cons_of_mem _ List.mem_cons_self | exact List.mem_cons_of_mem _ (List.mem_cons_of_mem _ List.mem_cons_self) | exact List.mem_cons_of_mem _ (List.mem_cons_of_mem _ (List.mem_cons_of_mem _ List.mem_cons_self)))) hc1010).mono ?_); rintro e u1011 ⟨v1011, rfl, hO1011, hB1011⟩; obtain ⟨A1011, c1011, rfl, hc1011⟩ := hO1011.slice; (first | (have HD := Lib.hid (GS.add HC.out hO1011 hB1011)) | (have HD := Lib.hid (GS.add (GS.box' HC.out 25 #[.int .i64 0, .int .i64 0, .int .i64 0, .slice none 0 0] (u1006.heap.size) rfl) hO1011 hB1011)) | (have HD := Lib.hid (GS.add (GS.box' HC.out 25 #[.int .i64 0, .int .i64 0, .int .i64 0, .slice none 0 0] (u1008.heap.size) rfl) hO1011 hB1011)) | (have HD := Lib.hid (GS.add (GS.box' HC.out 25 #[.int .i64 0, .int .i64 0, .int .i64 0, .slice none 0 0] (u1009.heap.size) rfl) hO1011 hB1011)) | (have HD := Lib.hid (GS.add (GS.box' HC.out 25 #[.int .i64 0, .int .i64 0, .int .i64 0, .slice none 0 0] (u1010.heap.size) rfl) hO1011 hB1011))); clear hB1011 hO1011; clear HC; have HC := HD; clear HD; (try (have hzb := HC.out.bx (g := _) (T := 25) (cs := #[.int .i64 0, .int .i64 0, .int .i64 0, .slice none 0 0]) List.mem_cons_self; have zb0 := cell_of_row _ _ 0 _ _ _ hzb; have zb1 := cell_of_row _ _ 1 _ _ _ hzb; have zb2 := cell_of_row _ _ 2 _ _ _ hzb; have zb3 := cell_of_row _ _ 3 _ _ _ hzb; have zf0 := frozen_of_row _ _ 0 _ _ hzb; have zf1 := frozen_of_row _ _ 1 _ _ hzb; have zf2 := frozen_of_row _ _ 2 _ _ hzb; have zf3 := frozen_of_row _ _ 3 _ _ hzb; clear hzb))))
    all_goals
      (go_wp2_with fail; go_meet; exact ⟨_, _, _, _, _, _, _, _, _, _, _, _, _, _, _, _, _, rfl, rfl, hc1011, hc1010, hc1009, hc1008, Lib.hid (by first | exact GS.fill4 HC.out _ _ _ _ | exact GS.box HC.out 25 #[.int .i64 R1, .int .i64 R2, .int .i64 R3, .slice A1011 RX.length c1011])⟩)
  case rest =>
  obtain ⟨gb1012, lo1011, hi1011, A1011, c1011, lo1010, hi1010, A1010, c1010, lo1009, hi1009, A1009, c1009, lo1008, hi1008, A1008, c1008, rfl, rfl, hc1011, hc1010, hc1009, hc1008, HC⟩ := hcut
  have S1012 := HC.out
  clear HC S1006
  generalize wc = u1012 at *
  obtain ⟨b00, b01, b02, b03⟩ := S1012.c4 (g := w.heap.size) (T := 38) (a0 := .int .i64 W0) (a1 := .int .i64 H0) (a2 := .int .i64 P0) (a3 := .slice a0 z0.length cap0) (by simp)
  have b0l := S1012.lt (g := w.heap.size) (T := 38) (cs := #[.int .i64 W0, .int .i64 H0, .int .i64 P0, .slice a0 z0.length cap0]) (by simp)
  go_wp2_with fail
  refine (toImage_any W0 H0 P0 a0 cap0 z0 _ (S1012.arg HR0.out) (by omega)).mono ?_
  rintro e u1013 ⟨v1013, rfl, hO1013, hB1013⟩
  obtain ⟨A1013, c1013, rfl, hc1013⟩ := hO1013.slice
  have S1013 := S1012.add hO1013 hB1013
  clear b00 b01 b02 b03 b0l
  clear hB1013 hO1013
  clear S1012
  obtain ⟨b10, b11, b12, b13⟩ := S1013.c4 (g := (w.heap.size + 1)) (T := 38) (a0 := .int .i64 W1) (a1 := .int .i64 H1) (a2 := .int .i64 P1) (a3 := .slice a1 z1.length cap1) (by simp)
  have b1l := S1013.lt (g := (w.heap.size + 1)) (T := 38) (cs := #[.int .i64 W1, .int .i64 H1, .int .i64 P1, .slice a1 z1.length cap1]) (by simp)
  have S1014 : GS w (u1013.alloc (.cells #[.int .i64 W0, .int .i64 H0, .int .i64 P0, .slice A1013 z0.length c1013] 25)) [ri u1012.heap.size u1013.heap.size (.slice A1013 z0.length c1013) z0, ri lo1011 hi1011 (.slice A1011 RX.length c1011) RX, rt 131 4 lo1010 hi1010 (.slice A1010 len2 c1010) len2 z2, ri lo1009 hi1009 (.slice A1009 z1.length c1009) z1, ri lo1008 hi1008 (.slice A1008 z0.length c1008) z0] [⟨u1013.heap.size, 25, #[.int .i64 W0, .int .i64 H0, .int .i64 P0, .slice A1013 z0.length c1013]⟩, ⟨gb1012, 25, #[.int .i64 R1, .int .i64 R2, .int .i64 R3, .slice A1011 RX.length c1011]⟩, ⟨(w.heap.size + 1), 38, #[.int .i64 W1, .int .i64 H1, .int .i64 P1, .slice a1 z1.length cap1]⟩, ⟨w.heap.size, 38, #[.int .i64 W0, .int .i64 H0, .int .i64 P0, .slice a0 z0.length cap0]⟩] := GS.box S1013 25 #[.int .i64 W0, .int .i64 H0, .int .i64 P0, .slice A1013 z0.length c1013]
  go_wp2_with fail
  clear b10 b11 b12 b13 b1l
  clear S1013
  generalize u1013.alloc (.cells #[.int .i64 W0, .int .i64 H0, .int .i64 P0, .slice A1013 z0.length c1013] 25) = u1014 at *
  refine (toImage_any W1 H1 P1 a1 cap1 z1 _ (S1014.arg HR1.out) (by omega)).mono ?_
  rintro e u1015 ⟨v1015, rfl, hO1015, hB1015⟩
  obtain ⟨A1015, c1015, rfl, hc1015⟩ := hO1015.slice
  have S1015 := S1014.add hO1015 hB1015
  clear hB1015 hO1015
  clear S1014
  have S1016 : GS w (u1015.alloc (.cells #[.int .i64 W1, .int .i64 H1, .int .i64 P1, .slice A1015 z1.length c1015] 25)) [ri u1014.heap.size u1015.heap.size (.slice A1015 z1.length c1015) z1, ri u1012.heap.size u1013.heap.size (.slice A1013 z0.length c1013) z0, ri lo1011 hi1011 (.slice A1011 RX.length c1011) RX, rt 131 4 lo1010 hi1010 (.slice A1010 len2 c1010) len2 z2, ri lo1009 hi1009 (.slice A1009 z1.length c1009) z1, ri lo1008 hi1008 (.slice A1008 z0.length c1008) z0] [⟨u1015.heap.size, 25, #[.int .i64 W1, .int .i64 H1, .int .i64 P1, .slice A1015 z1.length c1015]⟩, ⟨u1013.heap.size, 25, #[.int .i64 W0, .int .i64 H0, .int .i64 P0, .slice A1013 z0.length c1013]⟩, ⟨gb1012, 25, #[.int .i64 R1, .int .i64 R2, .int .i64 R3, .slice A1011 RX.length c1011]⟩, ⟨(w.heap.size + 1), 38, #[.int .i64 W1, .int .i64 H1, .int .i64 P1, .slice a1 z1.length cap1]⟩, ⟨w.heap.size, 38, #[.int .i64 W0, .int .i64 H0, .int .i64 P0, .slice a0 z0.length cap0]⟩] := GS.box S1015 25 #[.int .i64 W1, .int .i64 H1, .int .i64 P1, .slice A1015 z1.length c1015]
  go_wp2_with fail
  clear S1015
  generalize u1015.alloc (.cells #[.int .i64 W1, .int .i64 H1, .int .i64 P1, .slice A1015 z1.length c1015] 25) = u1016 at *
  refine (toBoxS_any a2 len2 cap2 z2 _ HL2.out (S1016.arg HR2.out) (by omega)).mono ?_
  rintro e u1017 ⟨A1017, c1017, rfl, ⟨hc1017, hcx1017⟩, hr1017, hB1017, hf1017, hO1017⟩
  clear hr1017 hf1017 hcx1017
  have S1017 := S1016.addT hO1017 hB1017
  clear hB1017 hO1017
  clear S1016
  obtain ⟨x00, x01, x02, x03⟩ := S1017.c4 (g := u1013.heap.size) (T := 25) (a0 := .int .i64 W0) (a1 := .int .i64 H0) (a2 := .int .i64 P0) (a3 := .slice A1013 z0.length c1013) (by simp)
  have x0l := S1017.lt (g := u1013.heap.size) (T := 25) (cs := #[.int .i64 W0, .int .i64 H0, .int .i64 P0, .slice A1013 z0.length c1013]) (by simp)
  obtain ⟨x10, x11, x12, x13⟩ := S1017.c4 (g := u1015.heap.size) (T := 25) (a0 := .int .i64 W1) (a1 := .int .i64 H1) (a2 := .int .i64 P1) (a3 := .slice A1015 z1.length c1015) (by simp)
  have x1l := S1017.lt (g := u1015.heap.size) (T := 25) (cs := #[.int .i64 W1, .int .i64 H1, .int .i64 P1, .slice A1015 z1.length c1015]) (by simp)
  go_wp2_with fail
  refine (HI.out A1013 c1013 A1015 c1015 A1017 c1017 _ (S1017.rds (lo := u1012.heap.size) (hi := u1013.heap.size) (A := A1013) (n := z0.length) (c := c1013) (by simp)) hc1013 (S1017.rds (lo := u1014.heap.size) (hi := u1015.heap.size) (A := A1015) (n := z1.length) (c := c1015) (by simp)) hc1015 (S1017.rdsT (lo := u1016.heap.size) (hi := u1017.heap.size) (A := A1017) (E := 131) (C := 4) (n := len2) (m := len2) (c := c1017) (by simp)) hc1017).mono ?_
  rintro e u1018 ⟨v1018, rfl, hO1018, hB1018⟩
  obtain ⟨A1018, c1018, rfl, hc1018⟩ := hO1018.slice
  have S1018 := S1017.add hO1018 hB1018
  clear x00 x01 x02 x03 x0l x10 x11 x12 x13 x1l
  clear hB1018 hO1018
  clear S1017
  obtain ⟨w00, w01, w02, w03⟩ := S1018.c4 (g := gb1012) (T := 25) (a0 := .int .i64 R1) (a1 := .int .i64 R2) (a2 := .int .i64 R3) (a3 := .slice A1011 RX.length c1011) (by simp)
  have w0l := S1018.lt (g := gb1012) (T := 25) (cs := #[.int .i64 R1, .int .i64 R2, .int .i64 R3, .slice A1011 RX.length c1011]) (by simp)
  have S1019 : GS w (u1018.alloc (.cells #[.int .i64 R1, .int .i64 R2, .int .i64 R3, .slice A1018 RX.length c1018] 25)) [ri u1017.heap.size u1018.heap.size (.slice A1018 RX.length c1018) RX, rt 131 4 u1016.heap.size u1017.heap.size (.slice A1017 len2 c1017) len2 z2, ri u1014.heap.size u1015.heap.size (.slice A1015 z1.length c1015) z1, ri u1012.heap.size u1013.heap.size (.slice A1013 z0.length c1013) z0, ri lo1011 hi1011 (.slice A1011 RX.length c1011) RX, rt 131 4 lo1010 hi1010 (.slice A1010 len2 c1010) len2 z2, ri lo1009 hi1009 (.slice A1009 z1.length c1009) z1, ri lo1008 hi1008 (.slice A1008 z0.length c1008) z0] [⟨u1018.heap.size, 25, #[.int .i64 R1, .int .i64 R2, .int .i64 R3, .slice A1018 RX.length c1018]⟩, ⟨u1015.heap.size, 25, #[.int .i64 W1, .int .i64 H1, .int .i64 P1, .slice A1015 z1.length c1015]⟩, ⟨u1013.heap.size, 25, #[.int .i64 W0, .int .i64 H0, .int .i64 P0, .slice A1013 z0.length c1013]⟩, ⟨gb1012, 25, #[.int .i64 R1, .int .i64 R2, .int .i64 R3, .slice A1011 RX.length c1011]⟩, ⟨(w.heap.size + 1), 38, #[.int .i64 W1, .int .i64 H1, .int .i64 P1, .slice a1 z1.length cap1]⟩, ⟨w.heap.size, 38, #[.int .i64 W0, .int .i64 H0, .int .i64 P0, .slice a0 z0.length cap0]⟩] := GS.box S1018 25 #[.int .i64 R1, .int .i64 R2, .int .i64 R3, .slice A1018 RX.length c1018]
  go_wp2_with fail
  clear w00 w01 w02 w03 w0l
  clear S1018
  generalize u1018.alloc (.cells #[.int .i64 R1, .int .i64 R2, .int .i64 R3, .slice A1018 RX.length c1018] 25) = u1019 at *
  refine (eqImage_same R1 R2 R3 A1018 A1011 c1018 c1011 _ _ RX _ rfl rfl (S1019.rds (lo := u1017.heap.size) (hi := u1018.heap.size) (A := A1018) (n := RX.length) (c := c1018) (by simp)) (S1019.rds (lo := lo1011) (hi := hi1011) (A := A1011) (n := RX.length) (c := c1011) (by simp)) (by omega)).mono ?_
  rintro e u1020 ⟨rfl, hB1020⟩
  have S1020 := S1019.call hB1020
  clear hB1020
  clear S1019
  go_upto_region 18 with fail
  have HC := Lib.hid S1020.drew
  clear S1020
  go_region_held3 (fun w' => (w'.cell? ⟨u1013.heap.size, 0, none⟩ = some (.int .i64 W0) ∧ w'.cell? ⟨u1013.heap.size, 1, none⟩ = some (.int .i64 H0) ∧ w'.cell? ⟨u1013.heap.size, 2, none⟩ = some (.int .i64 P0) ∧ w'.cell? ⟨u1013.heap.size, 3, none⟩ = some (.slice A1013 z0.length c1013)) ∧ (w'.cell? ⟨w.heap.size, 0, none⟩ = some (.int .i64 W0) ∧ w'.cell? ⟨w.heap.size, 1, none⟩ = some (.int .i64 H0) ∧ w'.cell? ⟨w.heap.size, 2, none⟩ = some (.int .i64 P0) ∧ w'.cell? ⟨w.heap.size, 3, none⟩ = some (.slice a0 z0.length cap0))) (first | (with_reducible exact ⟨(HC.out).c4 (T := 25) (by simp), (HC.out).c4 (T := 38) (by simp)⟩) | (exact ⟨(HC.out).c4 (T := 25) (by simp), (HC.out).c4 (T := 38) (by simp)⟩)) (first | (go_at_call 31; (with_reducible refine Calls.mono (toImage_any W0 H0 P0 a0 cap0 z0 _ ?_ ?_) ?_); (exact HC.out.arg HR0.out); omega; rintro e u1022 ⟨v1022, rfl, hO1022, hB1022⟩; obtain ⟨A1022, c1022, rfl, hc1022⟩ := hO1022.slice; (first | (have HD := Lib.hid (GS.add HC.out hO1022 hB1022))); clear hB1022 hO1022; clear HC; have HC := HD; clear HD) | (go_at_call 34; (refine (eqImage_same W0 H0 P0 A1013 A1022 c1013 c1022 _ _ z0 _ rfl rfl (by exact HC.out.rds (lo := u1012.heap.size) (hi := u1013.heap.size) (A := A1013) (n := z0.length) (c := c1013) (by simp)) (by exact HC.out.rds (A := A1022) (n := z0.length) (c := c1022) (by first | exact List.mem_cons_self | exact List.mem_cons_of_mem _ List.mem_cons_self | exact List.mem_cons_of_mem _ (List.mem_cons_of_mem _ List.mem_cons_self) | exact List.mem_cons_of_mem _ (List.mem_cons_of_mem _ (List.mem_cons_of_mem _ List.mem_cons_self)))) (by omega)).mono ?_); rintro e u1023 ⟨rfl, hB1023⟩; (first | (have HD := Lib.hid (GS.call HC.out hB1023))); clear hB1023; clear HC; have HC := HD; clear HD))
  have S1024 := HC.out
  clear HC
  go_upto_region 20 with fail
  have HC := Lib.hid S1024.drew
  clear S1024
  go_region_held3 (fun w' => (w'.cell? ⟨u1015.heap.size, 0, none⟩ = some (.int .i64 W1) ∧ w'.cell? ⟨u1015.heap.size, 1, none⟩ = some (.int .i64 H1) ∧ w'.cell? ⟨u1015.heap.size, 2, none⟩ = some (.int .i64 P1) ∧ w'.cell? ⟨u1015.heap.size, 3, none⟩ = some (.slice A1015 z1.length c1015)) ∧ (w'.cell? ⟨(w.heap.size + 1), 0, none⟩ = some (.int .i64 W1) ∧ w'.cell? ⟨(w.heap.size + 1), 1, none⟩ = some (.int .i64 H1) ∧ w'.cell? ⟨(w.heap.size + 1), 2, none⟩ = some (.int .i64 P1) ∧ w'.cell? ⟨(w.heap.size + 1), 3, none⟩ = some (.slice a1 z1.length cap1))) (first | (with_reducible exact ⟨(HC.out).c4 (T := 25) (by simp), (HC.out).c4 (T := 38) (by simp)⟩) | (exact ⟨(HC.out).c4 (T := 25) (by simp), (HC.out).c4 (T := 38) (by simp)⟩)) (first | (go_at_call 31; (with_reducible refine Calls.mono (toImage_any W1 H1 P1 a1 cap1 z1 _ ?_ ?_) ?_); (exact HC.out.arg HR1.out); omega; rintro e u1026 ⟨v1026, rfl, hO1026, hB1026⟩; obtain ⟨A1026, c1026, rfl, hc1026⟩ := hO1026.slice; (first | (have HD := Lib.hid (GS.add HC.out hO1026 hB1026))); clear hB1026 hO1026; clear HC; have HC := HD; clear HD) | (go_at_call 34; (refine (eqImage_same W1 H1 P1 A1015 A1026 c1015 c1026 _ _ z1 _ rfl rfl (by exact HC.out.rds (lo := u1014.heap.size) (hi := u1015.heap.size) (A := A1015) (n := z1.length) (c := c1015) (by simp)) (by exact HC.out.rds (A := A1026) (n := z1.length) (c := c1026) (by first | exact List.mem_cons_self | exact List.mem_cons_of_mem _ List.mem_cons_self | exact List.mem_cons_of_mem _ (List.mem_cons_of_mem _ List.mem_cons_self) | exact List.mem_cons_of_mem _ (List.mem_cons_of_mem _ (List.mem_cons_of_mem _ List.mem_cons_self)))) (by omega)).mono ?_); rintro e u1027 ⟨rfl, hB1027⟩; (first | (have HD := Lib.hid (GS.call HC.out hB1027))); clear hB1027; clear HC; have HC := HD; clear HD))
  have S1028 := HC.out
  clear HC
  go_wp2_with fail
  refine (toBoxS_any a2 len2 cap2 z2 _ HL2.out (S1028.arg HR2.out) (by omega)).mono ?_
  rintro e u1029 ⟨A1029, c1029, rfl, ⟨hc1029, hcx1029⟩, hr1029, hB1029, hf1029, hO1029⟩
  clear hr1029 hf1029 hcx1029
  have S1029 := S1028.addT hO1029 hB1029
  clear hB1029 hO1029
  clear S1028
  go_wp2_with fail
  refine (eqBoxS_same A1017 A1029 len2 c1017 c1029 z2 _ _ _ HL2.out (S1029.rdsT (lo := u1016.heap.size) (hi := u1017.heap.size) (A := A1017) (E := 131) (C := 4) (n := len2) (m := len2) (c := c1017) (by simp)) (S1029.rdsT (lo := u1027.heap.size) (hi := u1029.heap.size) (A := A1029) (E := 131) (C := 4) (n := len2) (m := len2) (c := c1029) (by simp)) (Nat.le_refl _) (Nat.le_refl _) (by omega)).mono ?_
  rintro e u1030 ⟨rfl, hB1030⟩
  have S1030 := S1029.call hB1030
  clear hB1030
  clear S1029
  obtain ⟨x00, x01, x02, x03⟩ := S1030.c4 (g := u1013.heap.size) (T := 25) (a0 := .int .i64 W0) (a1 := .int .i64 H0) (a2 := .int .i64 P0) (a3 := .slice A1013 z0.length c1013) (by simp)
  have x0l := S1030.lt (g := u1013.heap.size) (T := 25) (cs := #[.int .i64 W0, .int .i64 H0, .int .i64 P0, .slice A1013 z0.length c1013]) (by simp)
  go_wp2_with fail
  obtain ⟨K1031, HK1031⟩ : ∃ K : Int, Hid (K = 1 + ((z0.length : Nat) : Int)) := ⟨_, Lib.hid rfl⟩
  have hK1031 : 0 ≤ K1031 ∧ K1031 ≤ 8000001 := by have := HK1031.out; omega
  refine (markImage_any W0 H0 P0 (.slice A1013 z0.length c1013) u1012.heap.size z0 1 _ (S1030.own (lo := u1012.heap.size) (hi := u1013.heap.size) (by simp)) (by omega) (by omega) (by omega)).mono ?_
  rintro e u1031 ⟨he, hO1031, hG1031⟩
  rw [← HK1031.out] at he
  subst he
  have S1031 := GS.mark (L1 := [rt 131 4 u1027.heap.size u1029.heap.size (.slice A1029 len2 c1029) len2 z2, ri u1023.drew.heap.size u1026.heap.size (.slice A1026 z1.length c1026) z1, ri u1020.drew.heap.size u1022.heap.size (.slice A1022 z0.length c1022) z0, ri u1017.heap.size u1018.heap.size (.slice A1018 RX.length c1018) RX, rt 131 4 u1016.heap.size u1017.heap.size (.slice A1017 len2 c1017) len2 z2, ri u1014.heap.size u1015.heap.size (.slice A1015 z1.length c1015) z1]) (L2 := [ri lo1011 hi1011 (.slice A1011 RX.length c1011) RX, rt 131 4 lo1010 hi1010 (.slice A1010 len2 c1010) len2 z2, ri lo1009 hi1009 (.slice A1009 z1.length c1009) z1, ri lo1008 hi1008 (.slice A1008 z0.length c1008) z0]) (lo := u1012.heap.size) (hi := u1013.heap.size) (v := .slice A1013 z0.length c1013) (xs := z0) S1030 hO1031 (by simp [marks]) hG1031
  clear x00 x01 x02 x03 x0l
  clear hO1031 hG1031
  clear S1030
  obtain ⟨x10, x11, x12, x13⟩ := S1031.c4 (g := u1015.heap.size) (T := 25) (a0 := .int .i64 W1) (a1 := .int .i64 H1) (a2 := .int .i64 P1) (a3 := .slice A1015 z1.length c1015) (by simp)
  have x1l := S1031.lt (g := u1015.heap.size) (T := 25) (cs := #[.int .i64 W1, .int .i64 H1, .int .i64 P1, .slice A1015 z1.length c1015]) (by simp)
  go_wp2_with fail
  obtain ⟨K1032, HK1032⟩ : ∃ K : Int, Hid (K = K1031 + ((z1.length : Nat) : Int)) := ⟨_, Lib.hid rfl⟩
  have hK1032 : 0 ≤ K1032 ∧ K1032 ≤ 16000001 := by have := HK1032.out; omega
  refine (markImage_any W1 H1 P1 (.slice A1015 z1.length c1015) u1014.heap.size z1 K1031 _ (S1031.own (lo := u1014.heap.size) (hi := u1015.heap.size) (by simp)) (by omega) (by omega) (by omega)).mono ?_
  rintro e u1032 ⟨he, hO1032, hG1032⟩
  rw [← HK1032.out] at he
  subst he
  have S1032 := GS.mark (L1 := [rt 131 4 u1027.heap.size u1029.heap.size (.slice A1029 len2 c1029) len2 z2, ri u1023.drew.heap.size u1026.heap.size (.slice A1026 z1.length c1026) z1, ri u1020.drew.heap.size u1022.heap.size (.slice A1022 z0.length c1022) z0, ri u1017.heap.size u1018.heap.size (.slice A1018 RX.length c1018) RX, rt 131 4 u1016.heap.size u1017.heap.size (.slice A1017 len2 c1017) len2 z2]) (L2 := [ri u1012.heap.size u1013.heap.size (.slice A1013 z0.length c1013) (marks 1 (z0.length)), ri lo1011 hi1011 (.slice A1011 RX.length c1011) RX, rt 131 4 lo1010 hi1010 (.slice A1010 len2 c1010) len2 z2, ri lo1009 hi1009 (.slice A1009 z1.length c1009) z1, ri lo1008 hi1008 (.slice A1008 z0.length c1008) z0]) (lo := u1014.heap.size) (hi := u1015.heap.size) (v := .slice A1015 z1.length c1015) (xs := z1) S1031 hO1032 (by simp [marks]) hG1032
  clear x10 x11 x12 x13 x1l
  clear hO1032 hG1032
  clear S1031
  go_wp2_with fail
  obtain ⟨K1033, HK1033⟩ : ∃ K : Int, Hid (K = K1032 + ((len2 * 4 : Nat) : Int)) := ⟨_, Lib.hid rfl⟩
  have hK1033 : 0 ≤ K1033 ∧ K1033 ≤ 24000001 := by have := HK1033.out; omega
  refine (markBoxS_any (.slice A1017 len2 c1017) u1016.heap.size len2 z2 K1032 _ (S1032.ownT (lo := u1016.heap.size) (hi := u1017.heap.size) (by simp)) (by omega) (by omega) (by omega)).mono ?_
  rintro e u1033 ⟨he, hO1033, hG1033, _⟩
  rw [← HK1033.out] at he
  subst he
  have S1033 := GS.markT (L1 := [rt 131 4 u1027.heap.size u1029.heap.size (.slice A1029 len2 c1029) len2 z2, ri u1023.drew.heap.size u1026.heap.size (.slice A1026 z1.length c1026) z1, ri u1020.drew.heap.size u1022.heap.size (.slice A1022 z0.length c1022) z0, ri u1017.heap.size u1018.heap.size (.slice A1018 RX.length c1018) RX]) (L2 := [ri u1014.heap.size u1015.heap.size (.slice A1015 z1.length c1015) (marks K1031 (z1.length)), ri u1012.heap.size u1013.heap.size (.slice A1013 z0.length c1013) (marks 1 (z0.length)), ri lo1011 hi1011 (.slice A1011 RX.length c1011) RX, rt 131 4 lo1010 hi1010 (.slice A1010 len2 c1010) len2 z2, ri lo1009 hi1009 (.slice A1009 z1.length c1009) z1, ri lo1008 hi1008 (.slice A1008 z0.length c1008) z0]) (E := 131) (C := 4) (lo := u1016.heap.size) (hi := u1017.heap.size) (v := .slice A1017 len2 c1017) (n := len2) (xs := z2) (ys := marks K1032 (len2 * 4)) S1032 hO1033 hG1033
  clear hO1033 hG1033
  clear S1032
  obtain ⟨g00, g01, g02, g03⟩ := S1033.c4 (g := u1018.heap.size) (T := 25) (a0 := .int .i64 R1) (a1 := .int .i64 R2) (a2 := .int .i64 R3) (a3 := .slice A1018 RX.length c1018) (by simp)
  have g0l := S1033.lt (g := u1018.heap.size) (T := 25) (cs := #[.int .i64 R1, .int .i64 R2, .int .i64 R3, .slice A1018 RX.length c1018]) (by simp)
  obtain ⟨w00, w01, w02, w03⟩ := S1033.c4 (g := gb1012) (T := 25) (a0 := .int .i64 R1) (a1 := .int .i64 R2) (a2 := .int .i64 R3) (a3 := .slice A1011 RX.length c1011) (by simp)
  have w0l := S1033.lt (g := gb1012) (T := 25) (cs := #[.int .i64 R1, .int .i64 R2, .int .i64 R3, .slice A1011 RX.length c1011]) (by simp)
  go_wp2_with fail
  refine (eqImage_same R1 R2 R3 A1018 A1011 c1018 c1011 _ _ RX _ rfl rfl (S1033.rds (lo := u1017.heap.size) (hi := u1018.heap.size) (A := A1018) (n := RX.length) (c := c1018) (by simp)) (S1033.rds (lo := lo1011) (hi := hi1011) (A := A1011) (n := RX.length) (c := c1011) (by simp)) (by omega)).mono ?_
  rintro e u1034 ⟨rfl, hB1034⟩
  have S1034 := S1033.call hB1034
  clear g00 g01 g02 g03 g0l w00 w01 w02 w03 w0l
  clear hB1034
  clear S1033
  obtain ⟨g00, g01, g02, g03⟩ := S1034.c4 (g := u1018.heap.size) (T := 25) (a0 := .int .i64 R1) (a1 := .int .i64 R2) (a2 := .int .i64 R3) (a3 := .slice A1018 RX.length c1018) (by simp)
  have g0l := S1034.lt (g := u1018.heap.size) (T := 25) (cs := #[.int .i64 R1, .int .i64 R2, .int .i64 R3, .slice A1018 RX.length c1018]) (by simp)
  go_wp2_with fail
  obtain ⟨K1035, HK1035⟩ : ∃ K : Int, Hid (K = 1 + ((RX.length : Nat) : Int)) := ⟨_, Lib.hid rfl⟩
  have hK1035 : 0 ≤ K1035 ∧ K1035 ≤ 8000001 := by have := HK1035.out; omega
  refine (markImage_any R1 R2 R3 (.slice A1018 RX.length c1018) u1017.heap.size RX 1 _ (S1034.own (lo := u1017.heap.size) (hi := u1018.heap.size) (by simp)) (by omega) (by omega) (by omega)).mono ?_
  rintro e u1035 ⟨he, hO1035, hG1035⟩
  rw [← HK1035.out] at he
  subst he
  have S1035 := GS.mark (L1 := [rt 131 4 u1027.heap.size u1029.heap.size (.slice A1029 len2 c1029) len2 z2, ri u1023.drew.heap.size u1026.heap.size (.slice A1026 z1.length c1026) z1, ri u1020.drew.heap.size u1022.heap.size (.slice A1022 z0.length c1022) z0]) (L2 := [rt 131 4 u1016.heap.size u1017.heap.size (.slice A1017 len2 c1017) len2 (marks K1032 (len2 * 4)), ri u1014.heap.size u1015.heap.size (.slice A1015 z1.length c1015) (marks K1031 (z1.length)), ri u1012.heap.size u1013.heap.size (.slice A1013 z0.length c1013) (marks 1 (z0.length)), ri lo1011 hi1011 (.slice A1011 RX.length c1011) RX, rt 131 4 lo1010 hi1010 (.slice A1010 len2 c1010) len2 z2, ri lo1009 hi1009 (.slice A1009 z1.length c1009) z1, ri lo1008 hi1008 (.slice A1008 z0.length c1008) z0]) (lo := u1017.heap.size) (hi := u1018.heap.size) (v := .slice A1018 RX.length c1018) (xs := RX) S1034 hO1035 (by simp [marks]) hG1035
  clear g00 g01 g02 g03 g0l
  clear hO1035 hG1035
  clear S1034
  obtain ⟨g00, g01, g02, g03⟩ := S1035.c4 (g := u1018.heap.size) (T := 25) (a0 := .int .i64 R1) (a1 := .int .i64 R2) (a2 := .int .i64 R3) (a3 := .slice A1018 RX.length c1018) (by simp)
  have g0l := S1035.lt (g := u1018.heap.size) (T := 25) (cs := #[.int .i64 R1, .int .i64 R2, .int .i64 R3, .slice A1018 RX.length c1018]) (by simp)
  go_wp2_with fail
  refine (heldImage_any R1 R2 R3 A1018 c1018 RX.length 1 _ (S1035.rds (lo := u1017.heap.size) (hi := u1018.heap.size) (A := A1018) (n := RX.length) (c := c1018) (by simp)) (by omega) (by omega) (by omega)).mono ?_
  rintro e u1036 ⟨he, hB1036⟩
  rw [← HK1035.out] at he
  subst he
  have S1036 := S1035.call hB1036
  clear g00 g01 g02 g03 g0l
  clear hB1036
  clear S1035
  go_upto_region 38 with fail
  go_cut [18, 19] from 20 (fun s18 s19 wx => ∃ (gb1042 : Nat) (lo1041 hi1041 : Nat) (A1041 : Option Addr) (c1041 : Nat) (lo1040 hi1040 : Nat) (A1040 : Option Addr) (c1040 : Nat) (lo1039 hi1039 : Nat) (A1039 : Option Addr) (c1039 : Nat) (lo1038 hi1038 : Nat) (A1038 : Option Addr) (c1038 : Nat), s18 = .pointer (some ⟨gb1042, 0, none⟩) ∧ s19 = .bool o1 ∧ RX.length ≤ c1041 ∧ len2 ≤ c1040 ∧ z1.length ≤ c1039 ∧ z0.length ≤ c1038 ∧ Hid (GS w wx [ri lo1041 hi1041 (.slice A1041 RX.length c1041) RX, rt 131 4 lo1040 hi1040 (.slice A1040 len2 c1040) len2 z2, ri lo1039 hi1039 (.slice A1039 z1.length c1039) z1, ri lo1038 hi1038 (.slice A1038 z0.length c1038) z0, rt 131 4 u1027.heap.size u1029.heap.size (.slice A1029 len2 c1029) len2 z2, ri u1023.drew.heap.size u1026.heap.size (.slice A1026 z1.length c1026) z1, ri u1020.drew.heap.size u1022.heap.size (.slice A1022 z0.length c1022) z0, ri u1017.heap.size u1018.heap.size (.slice A1018 RX.length c1018) (marks 1 (RX.length)), rt 131 4 u1016.heap.size u1017.heap.size (.slice A1017 len2 c1017) len2 (marks K1032 (len2 * 4)), ri u1014.heap.size u1015.heap.size (.slice A1015 z1.length c1015) (marks K1031 (z1.length)), ri u1012.heap.size u1013.heap.size (.slice A1013 z0.length c1013) (marks 1 (z0.length)), ri lo1011 hi1011 (.slice A1011 RX.length c1011) RX, rt 131 4 lo1010 hi1010 (.slice A1010 len2 c1010) len2 z2, ri lo1009 hi1009 (.slice A1009 z1.length c1009) z1, ri lo1008 hi1008 (.slice A1008 z0.length c1008) z0] [⟨gb1042, 25, #[.int .i64 R1, .int .i64 R2, .int .i64 R3, .slice A1041 RX.length c1041]⟩, ⟨u1018.heap.size, 25, #[.int .i64 R1, .int .i64 R2, .int .i64 R3, .slice A1018 RX.length c1018]⟩, ⟨u1015.heap.size, 25, #[.int .i64 W1, .int .i64 H1, .int .i64 P1, .slice A1015 z1.length c1015]⟩, ⟨u1013.heap.size, 25, #[.int .i64 W0, .int .i64 H0, .int .i64 P0, .slice A1013 z0.length c1013]⟩, ⟨gb1012, 25, #[.int .i64 R1, .int .i64 R2, .int .i64 R3, .slice A1011 RX.length c1011]⟩, ⟨(w.heap.size + 1), 38, #[.int .i64 W1, .int .i64 H1, .int .i64 P1, .slice a1 z1.length cap1]⟩, ⟨w.heap.size, 38, #[.int .i64 W0, .int .i64 H0, .int .i64 P0, .slice a0 z0.length cap0]⟩]))
  case first =>
    have HC := Lib.hid S1036.drew
    clear S1036
    go_region_held3 (fun w' => (w'.cell? ⟨w.heap.size, 0, none⟩ = some (.int .i64 W0) ∧ w'.cell? ⟨w.heap.size, 1, none⟩ = some (.int .i64 H0) ∧ w'.cell? ⟨w.heap.size, 2, none⟩ = some (.int .i64 P0) ∧ w'.cell? ⟨w.heap.size, 3, none⟩ = some (.slice a0 z0.length cap0)) ∧ (w'.cell? ⟨(w.heap.size + 1), 0, none⟩ = some (.int .i64 W1) ∧ w'.cell? ⟨(w.heap.size + 1), 1, none⟩ = some (.int .i64 H1) ∧ w'.cell? ⟨(w.heap.size + 1), 2, none⟩ = some (.int .i64 P1) ∧ w'.cell? ⟨(w.heap.size + 1), 3, none⟩ = some (.slice a1 z1.length cap1))) (first | (with_reducible exact ⟨(HC.out).c4 (T := 38) (by simp), (HC.out).c4 (T := 38) (by simp)⟩) | (with_reducible exact ⟨((GS.box HC.out 25 #[.int .i64 0, .int .i64 0, .int .i64 0, .slice none 0 0])).c4 (T := 38) (by simp), ((GS.box HC.out 25 #[.int .i64 0, .int .i64 0, .int .i64 0, .slice none 0 0])).c4 (T := 38) (by simp)⟩) | (with_reducible exact ⟨((GS.box HC.out 25 _)).c4 (T := 38) (by simp), ((GS.box HC.out 25 _)).c4 (T := 38) (by simp)⟩) | (with_reducible exact ⟨((GS.fill4 HC.out _ _ _ _)).c4 (T := 38) (by simp), ((GS.fill4 HC.out _ _ _ _)).c4 (T := 38) (by simp)⟩) | (exact ⟨((GS.box HC.out 25 _)).c4 (T := 38) (by simp), ((GS.box HC.out 25 _)).c4 (T := 38) (by simp)⟩)) (first | (go_at_call 31; (with_reducible refine Calls.mono (toImage_any W0 H0 P0 a0 cap0 z0 _ ?_ ?_) ?_); (first | exact HC.out.arg HR0.out | exact (GS.box HC.out 25 #[.int .i64 0, .int .i64 0, .int .i64 0, .slice none 0 0]).arg HR0.out); omega; rintro e u1038 ⟨v1038, rfl, hO1038, hB1038⟩; obtain ⟨A1038, c1038, rfl, hc1038⟩ := hO1038.slice; (first | (have HD := Lib.hid (GS.add HC.out hO1038 hB1038)) | (have HD := Lib.hid (GS.add (GS.box' HC.out 25 #[.int .i64 0, .int .i64 0, .int .i64 0, .slice none 0 0] (u1036.heap.size) rfl) hO1038 hB1038))); clear hB1038 hO1038; clear HC; have HC := HD; clear HD) | (go_at_call 31; (with_reducible refine Calls.mono (toImage_any W1 H1 P1 a1 cap1 z1 _ ?_ ?_) ?_); (first | exact HC.out.arg HR1.out | exact (GS.box HC.out 25 #[.int .i64 0, .int .i64 0, .int .i64 0, .slice none 0 0]).arg HR1.out); omega; rintro e u1039 ⟨v1039, rfl, hO1039, hB1039⟩; obtain ⟨A1039, c1039, rfl, hc1039⟩ := hO1039.slice; (first | (have HD := Lib.hid (GS.add HC.out hO1039 hB1039)) | (have HD := Lib.hid (GS.add (GS.box' HC.out 25 #[.int .i64 0, .int .i64 0, .int .i64 0, .slice none 0 0] (u1036.heap.size) rfl) hO1039 hB1039)) | (have HD := Lib.hid (GS.add (GS.box' HC.out 25 #[.int .i64 0, .int .i64 0, .int .i64 0, .slice none 0 0] (u1038.heap.size) rfl) hO1039 hB1039))); clear hB1039 hO1039; clear HC; have HC := HD; clear HD) | (go_at_call 54; (with_reducible refine Calls.mono (toBoxS_any a2 len2 cap2 z2 _ HL2.out ?_ ?_) ?_); (first | exact HC.out.arg HR2.out | exact (GS.box HC.out 25 #[.int .i64 0, .int .i64 0, .int .i64 0, .slice none 0 0]).arg HR2.out); omega; rintro e u1040 ⟨A1040, c1040, rfl, ⟨hc1040, hcx1040⟩, hr1040, hB1040, hf1040, hO1040⟩; clear hr1040 hf1040 hcx1040; (first | (have HD := Lib.hid (GS.addT HC.out hO1040 hB1040)) | (have HD := Lib.hid (GS.addT (GS.box' HC.out 25 #[.int .i64 0, .int .i64 0, .int .i64 0, .slice none 0 0] (u1036.heap.size) rfl) hO1040 hB1040)) | (have HD := Lib.hid (GS.addT (GS.box' HC.out 25 #[.int .i64 0, .int .i64 0, .int .i64 0, .slice none 0 0] (u1038.heap.size) rfl) hO1040 hB1040)) | (have HD := Lib.hid (GS.addT (GS.box' HC.out 25 #[.int .i64 0, .int .i64 0, .int .i64 0, .slice none 0 0] (u1039.heap.size) rfl) hO1040 hB1040))); clear hB1040 hO1040; clear HC; have HC := HD; clear HD) | (go_at_call 55; (refine (HI.out A1038 c1038 A1039 c1039 A1040 c1040 _ (by first | exact HC.out.rds (A := A1038) (n := z0.length) (c := c1038) (by first | exact List.mem_cons_self | exact List.mem_cons_of_mem _ List.mem_cons_self | exact List.mem_cons_of_mem _ (List.mem_cons_of_mem _ List.mem_cons_self) | exact List.mem_cons_of_mem _ (List.mem_cons_of_mem _ (List.mem_cons_of_mem _ List.mem_cons_self))) | exact (GS.box HC.out 25 #[.int .i64 0, .int .i64 0, .int .i64 0, .slice none 0 0]).rds (A := A1038) (n := z0.length) (c := c1038) (by first | exact List.mem_cons_self | exact List.mem_cons_of_mem _ List.mem_cons_self | exact List.mem_cons_of_mem _ (List.mem_cons_of_mem _ List.mem_cons_self) | exact List.mem_cons_of_mem _ (List.mem_cons_of_mem _ (List.mem_cons_of_mem _ List.mem_cons_self)))) hc1038 (by first | exact HC.out.rds (A := A1039) (n := z1.length) (c := c1039) (by first | exact List.mem_cons_self | exact List.mem_cons_of_mem _ List.mem_cons_self | exact List.mem_cons_of_mem _ (List.mem_cons_of_mem _ List.mem_cons_self) | exact List.mem_cons_of_mem _ (List.mem_cons_of_mem _ (List.mem_cons_of_mem _ List.mem_cons_self))) | exact (GS.box HC.out 25 #[.int .i64 0, .int .i64 0, .int .i64 0, .slice none 0 0]).rds (A := A1039) (n := z1.length) (c := c1039) (by first | exact List.mem_cons_self | exact List.mem_cons_of_mem _ List.mem_cons_self | exact List.mem_cons_of_mem _ (List.mem_cons_of_mem _ List.mem_cons_self) | exact List.mem_cons_of_mem _ (List.mem_cons_of_mem _ (List.mem_cons_of_mem _ List.mem_cons_self)))) hc1039 (by first | exact HC.out.rdsT (A := A1040) (E := 131) (C := 4) (n := len2) (m := len2) (c := c1040) (by first | exact List.mem_cons_self | exact List.mem_cons_of_mem _ List.mem_cons_self | exact List.mem_cons_of_mem _ (List.mem_cons_of_mem _ List.mem_cons_self) | exact List.mem_cons_of_mem _ (List.mem_cons_of_mem _ (List.mem_cons_of_mem _ List.mem_cons_self))) | exact (GS.box HC.out 25 #[.int .i64 0, .int .i64 0, .int .i64 0, .slice none 0 0]).rdsT (A := A1040) (E := 131) (C := 4) (n := len2) (m := len2) (c := c1040) (by first | exact List.mem_cons_self | exact List.mem_cons_of_mem _ List.mem_cons_self | exact List.mem_cons_of_mem _ (List.mem_cons_of_mem _ List.mem_cons_self) | exact List.mem_cons_of_mem _ (List.mem_cons_of_mem _ (List.mem_cons_of_mem _ List.mem_cons_self)))) hc1040).mono ?_); rintro e u1041 ⟨v1041, rfl, hO1041, hB1041⟩; obtain ⟨A1041, c1041, rfl, hc1041⟩ := hO1041.slice; (first | (have HD := Lib.hid (GS.add HC.out hO1041 hB1041)) | (have HD := Lib.hid (GS.add (GS.box' HC.out 25 #[.int .i64 0, .int .i64 0, .int .i64 0, .slice none 0 0] (u1036.heap.size) rfl) hO1041 hB1041)) | (have HD := Lib.hid (GS.add (GS.box' HC.out 25 #[.int .i64 0, .int .i64 0, .int .i64 0, .slice none 0 0] (u1038.heap.size) rfl) hO1041 hB1041)) | (have HD := Lib.hid (GS.add (GS.box' HC.out 25 #[.int .i64 0, .int .i64 0, .int .i64 0, .slice none 0 0] (u1039.heap.size) rfl) hO1041 hB1041)) | (have HD := Lib.hid (GS.add (GS.box' HC.out 25 #[.int .i64 0, .int .i64 0, .int .i64 0, .slice none 0 0] (u1040.heap.size) rfl) hO1041 hB1041))); clear hB1041 hO1041; clear HC; have HC := HD; clear HD; (try (have hzb := HC.out.bx (g := _) (T := 25) (cs := #[.int .i64 0, .int .i64 0, .int .i64 0, .slice none 0 0]) List.mem_cons_self; have zb0 := cell_of_row _ _ 0 _ _ _ hzb; have zb1 := cell_of_row _ _ 1 _ _ _ hzb; have zb2 := cell_of_row _ _ 2 _ _ _ hzb; have zb3 := cell_of_row _ _ 3 _ _ _ hzb; have zf0 := frozen_of_row _ _ 0 _ _ hzb; have zf1 := frozen_of_row _ _ 1 _ _ hzb; have zf2 := frozen_of_row _ _ 2 _ _ hzb; have zf3 := frozen_of_row _ _ 3 _ _ hzb; clear hzb))))
    all_goals
      (go_wp2_with fail; go_meet; exact ⟨_, _, _, _, _, _, _, _, _, _, _, _, _, _, _, _, _, rfl, rfl, hc1041, hc1040, hc1039, hc1038, Lib.hid (by first | exact GS.fill4 HC.out _ _ _ _ | exact GS.box HC.out 25 #[.int .i64 R1, .int .i64 R2, .int .i64 R3, .slice A1041 RX.length c1041])⟩)
  case rest =>
  obtain ⟨gb1042, lo1041, hi1041, A1041, c1041, lo1040, hi1040, A1040, c1040, lo1039, hi1039, A1039, c1039, lo1038, hi1038, A1038, c1038, rfl, rfl, hc1041, hc1040, hc1039, hc1038, HC⟩ := hcut
  have S1042 := HC.out
  clear HC S1036
  generalize wc = u1042 at *
  obtain ⟨h00, h01, h02, h03⟩ := S1042.c4 (g := gb1042) (T := 25) (a0 := .int .i64 R1) (a1 := .int .i64 R2) (a2 := .int .i64 R3) (a3 := .slice A1041 RX.length c1041) (by simp)
  have h0l := S1042.lt (g := gb1042) (T := 25) (cs := #[.int .i64 R1, .int .i64 R2, .int .i64 R3, .slice A1041 RX.length c1041]) (by simp)
  obtain ⟨w00, w01, w02, w03⟩ := S1042.c4 (g := gb1012) (T := 25) (a0 := .int .i64 R1) (a1 := .int .i64 R2) (a2 := .int .i64 R3) (a3 := .slice A1011 RX.length c1011) (by simp)
  have w0l := S1042.lt (g := gb1012) (T := 25) (cs := #[.int .i64 R1, .int .i64 R2, .int .i64 R3, .slice A1011 RX.length c1011]) (by simp)
  go_wp2_with fail
  refine (eqImage_same R1 R2 R3 A1041 A1011 c1041 c1011 _ _ RX _ rfl rfl (S1042.rds (lo := lo1041) (hi := hi1041) (A := A1041) (n := RX.length) (c := c1041) (by simp)) (S1042.rds (lo := lo1011) (hi := hi1011) (A := A1011) (n := RX.length) (c := c1011) (by simp)) (by omega)).mono ?_
  rintro e u1043 ⟨rfl, hB1043⟩
  have S1043 := S1042.call hB1043
  clear h00 h01 h02 h03 h0l w00 w01 w02 w03 w0l
  clear hB1043
  clear S1042
  obtain ⟨g00, g01, g02, g03⟩ := S1043.c4 (g := u1018.heap.size) (T := 25) (a0 := .int .i64 R1) (a1 := .int .i64 R2) (a2 := .int .i64 R3) (a3 := .slice A1018 RX.length c1018) (by simp)
  have g0l := S1043.lt (g := u1018.heap.size) (T := 25) (cs := #[.int .i64 R1, .int .i64 R2, .int .i64 R3, .slice A1018 RX.length c1018]) (by simp)
  go_wp2_with fail
  refine (heldImage_any R1 R2 R3 A1018 c1018 RX.length 1 _ (S1043.rds (lo := u1017.heap.size) (hi := u1018.heap.size) (A := A1018) (n := RX.length) (c := c1018) (by simp)) (by omega) (by omega) (by omega)).mono ?_
  rintro e u1044 ⟨he, hB1044⟩
  rw [← HK1035.out] at he
  subst he
  have S1044 := S1043.call hB1044
  clear g00 g01 g02 g03 g0l
  clear hB1044
  clear S1043
  go_wp2
  go_ret
  exact ⟨rfl, S1044.below⟩
end Go.Proofs.Ytebfaomlljekiaa.fnExactPatchImage
