/- Contract of MaskImage in the program. -/
import Derived.Test.YtlmpkanlfhjijaaPntI
import Derived.Test.YtlmpkanlfhjijaaGap
namespace Go.Proofs.Ytlmpkanlfhjijaa
open Go.RowKit Go.Shelf
set_option linter.unusedSimpArgs false
set_option linter.unusedVariables false
set_option maxRecDepth 20000

set_option maxHeartbeats 16000000 in
theorem i_MaskImage (W H P W' H' P' : Int) (A A' A3 : Option Addr) (c c' n c3 : Nat) (xs ys rs : List Int) (w : World) (hx : Rds .i64 w w.heap.size A xs) (hl : xs.length ≤ 2000000) (hlc : xs.length ≤ c) (hy : Rds .i64 w w.heap.size A' ys) (hl' : ys.length ≤ 2000000) (hlc' : ys.length ≤ c') (hr : Rds .i64 w w.heap.size A3 rs) (hrl : rs.length = 3 * n) (hn : n ≤ 2000000) :
    Calls Try.prog 30 #[.agg #[.int .i64 W, .int .i64 H, .int .i64 P, .slice A xs.length c], .agg #[.int .i64 W', .int .i64 H', .int .i64 P', .slice A' ys.length c'], .slice A3 n c3] w (MadeIc (mskOk W H P xs W' H' P' ys rs n) W H P (mskL W.toNat H.toNat P.toNat xs ys rs n) w) := by
  have HX := Lib.hid hx
  have HY := Lib.hid hy
  have HR := Lib.hid hr
  have HRL := Lib.hid hrl
  have HV : Hid (mskOk W H P xs W' H' P' ys rs n = (cmpB W H P xs W' H' P' ys && regB rs n)) := Lib.hid rfl
  clear hx hy hr hrl
  have S0 := (((GS.start w).box' 25 #[.int .i64 W, .int .i64 H, .int .i64 P, .slice A xs.length c] w.heap.size (by simp)).box' 25 #[.int .i64 W', .int .i64 H', .int .i64 P', .slice A' ys.length c'] (w.heap.size + 1) (by simp)).box' 25 #[.int .i64 0, .int .i64 0, .int .i64 0, .slice none 0 0] (w.heap.size + 1 + 1) (by simp)
  go_enter Try.func30, Try.ntmps30
  go_wp2_with fail
  generalize ((w.alloc (.cells #[.int .i64 W, .int .i64 H, .int .i64 P, .slice A xs.length c] 25)).alloc (.cells #[.int .i64 W', .int .i64 H', .int .i64 P', .slice A' ys.length c'] 25)).alloc (.cells #[.int .i64 0, .int .i64 0, .int .i64 0, .slice none 0 0] 25) = u0 at *
  refine (iCmp_any W H P W' H' P' A A' c c' xs ys u0 (S0.arg HX.out) hl (S0.arg HY.out) hl').mono ?_
  rintro e u1 ⟨rfl, hB⟩
  have HS := Lib.hid (S0.call hB)
  clear hB S0
  cases hv : cmpB W H P xs W' H' P' ys
  · have HF : Hid (mskOk W H P xs W' H' P' ys rs n = false) := Lib.hid (by rw [HV.out, hv]; rfl)
    obtain ⟨r0, r1, r2, r3⟩ := HS.out.b0_4
    have f0 := HS.out.f0 0
    have f1 := HS.out.f0 1
    have f2 := HS.out.f0 2
    have f3 := HS.out.f0 3
    have HE := Lib.hid (HS.out.e0_4 (.int .i64 0) (.int .i64 0) (.int .i64 0) (.slice none 0 0)).1
    clear HV hv HS
    go_wp2
    exact bodyPost_ret (v := .tuple #[.agg #[.int .i64 0, .int .i64 0, .int .i64 0, .slice none 0 0], .bool false]) (by simp [results, Try.results30, go_sem, r0, r1, r2, r3]) rfl ⟨_, by rw [HF.out]; rfl, by rw [HF.out]; exact World.ownsRow_nil _ _ _ _, HE.out⟩
  · have Hv := Lib.hid hv
    clear hv
    go_wp2_with fail
    refine (i_ValidRegion A3 n c3 u1.heap.size rs u1 HRL.out (HS.out.arg HR.out) (Nat.le_refl _) hn).mono ?_
    rintro e u2 ⟨rfl, hB⟩
    have HS2 := Lib.hid (HS.out.call hB)
    clear hB HS
    cases hg : regB rs n
    · have HF : Hid (mskOk W H P xs W' H' P' ys rs n = false) := Lib.hid (by rw [HV.out, hg]; simp)
      obtain ⟨r0, r1, r2, r3⟩ := HS2.out.b0_4
      have f0 := HS2.out.f0 0
      have f1 := HS2.out.f0 1
      have f2 := HS2.out.f0 2
      have f3 := HS2.out.f0 3
      have HE := Lib.hid (HS2.out.e0_4 (.int .i64 0) (.int .i64 0) (.int .i64 0) (.slice none 0 0)).1
      clear HV hg HS2
      go_wp2
      exact bodyPost_ret (v := .tuple #[.agg #[.int .i64 0, .int .i64 0, .int .i64 0, .slice none 0 0], .bool false]) (by simp [results, Try.results30, go_sem, r0, r1, r2, r3]) rfl ⟨_, by rw [HF.out]; rfl, by rw [HF.out]; exact World.ownsRow_nil _ _ _ _, HE.out⟩
    · have HF : Hid (mskOk W H P xs W' H' P' ys rs n = true) := Lib.hid (by rw [HV.out, Hv.out, hg]; rfl)
      have HG := Lib.hid (regB_of hg)
      have hv := Hv.out
      clear HV hg Hv
      obtain ⟨W, H, P, rfl, rfl, rfl, rfl, rfl, rfl, hW, hH, hP, hxl, hyl, _⟩ := cmpB_nat hv
      have HXL := Lib.hid hxl
      have HYL := Lib.hid hyl
      obtain ⟨hW1, hW⟩ := hW
      obtain ⟨hH1, hH⟩ := hH
      obtain ⟨hP1, hP⟩ := hP
      have HML : Hid (img W H P (pntF rs n (pxc W P ys) (pxc W P xs)) = mskL W H P xs ys rs n) := Lib.hid (by
        unfold mskL
        refine img_ext fun i j p hi hj hp => ?_
        have e1 : ∀ (W : Nat) (zs : List Int) (a b : Nat), pxc W P zs a b p = px W P zs a b p := fun W zs a b => pxl_get _ _ _ _ _ _ hp
        unfold pntF
        simp only [e1])
      obtain ⟨m0, m1, m2, m3⟩ := HS2.out.b2_4
      obtain ⟨p0, p1, p2, p3⟩ := HS2.out.b1_4
      have hml := HS2.out.l2
      have hpl := HS2.out.l1
      have hnm : w.heap.size ≠ w.heap.size + 1 + 1 := by omega
      have hnp : w.heap.size + 1 ≠ w.heap.size + 1 + 1 := by omega
      clear hv hxl hyl
      go_wp2
      go_region_held3 (fun w' => (w'.cell? ⟨w.heap.size, 0, none⟩ = some (.int .i64 (W : Int)) ∧ w'.cell? ⟨w.heap.size, 1, none⟩ = some (.int .i64 (H : Int)) ∧ w'.cell? ⟨w.heap.size, 2, none⟩ = some (.int .i64 (P : Int)) ∧ w'.cell? ⟨w.heap.size, 3, none⟩ = some (.slice A xs.length c)) ∧ (w'.cell? ⟨w.heap.size + 1, 0, none⟩ = some (.int .i64 (W : Int)) ∧ w'.cell? ⟨w.heap.size + 1, 1, none⟩ = some (.int .i64 (H : Int)) ∧ w'.cell? ⟨w.heap.size + 1, 2, none⟩ = some (.int .i64 (P : Int)) ∧ w'.cell? ⟨w.heap.size + 1, 3, none⟩ = some (.slice A' ys.length c')))
        (first | (with_reducible exact ⟨⟨k0, k1, k2, k3⟩, k4, k5, k6, k7⟩) | (with_reducible exact ⟨⟨d0, d1, d2, d3⟩, d4, d5, d6, d7⟩) | (with_reducible exact ⟨⟨(sc4 hnm _ _ _ _).trans k0, (sc4 hnm _ _ _ _).trans k1, (sc4 hnm _ _ _ _).trans k2, (sc4 hnm _ _ _ _).trans k3⟩, (sc4 hnp _ _ _ _).trans k4, (sc4 hnp _ _ _ _).trans k5, (sc4 hnp _ _ _ _).trans k6, (sc4 hnp _ _ _ _).trans k7⟩) | exact ⟨⟨m0, m1, m2, m3⟩, p0, p1, p2, p3⟩ | go_keep)
        (first | (go_at_call 39; refine (gridOf_any W H P hW hH hP1 hP hW1 hH1 A' c' ys HYL.out hlc' _ (by exact HS2.out.drew.arg HY.out)).mono ?_; rintro e u3 ⟨v3, rfl, hO3, hB3⟩; obtain ⟨A9, c9, rfl, hc9⟩ := OwnC.slice hO3; obtain ⟨d0, d1, d2, d3⟩ := keep4 hB3 (by exact hml) m0 m1 m2 m3; obtain ⟨d4, d5, d6, d7⟩ := keep4 hB3 (by exact hpl) p0 p1 p2 p3; have HO3 := Lib.hid (OwnC.rds hO3); have HS3 := Lib.hid (HS2.out.drew.call hB3); have hml3 := HS3.out.l2; have hpl3 := HS3.out.l1; obtain ⟨nn, hnn⟩ : ∃ nn, W * H = nn := ⟨_, rfl⟩; rw [hnn] at hc9 ⊢; have HNN := Lib.hid hnn; clear hO3 hB3 hnn) | (go_at_call 67; refine (paintM_any W H P hW1 hW hH1 hH hP1 hP A A3 c n c3 xs rs HXL.out hlc _ (by exact HS3.out.arg HX.out) (by exact HS3.out.arg HR.out) HRL.out hn HG.out (pxc W P ys) A9 nn c9 HNN.out (by exact HO3.out) hc9).mono ?_; rintro e u4 ⟨v4, rfl, hO4, hB4⟩; rw [HML.out] at hO4; obtain ⟨A4, c4, rfl, hc4⟩ := hO4.slice; obtain ⟨k0, k1, k2, k3⟩ := keep4 hB4 (by exact hml3) d0 d1 d2 d3; obtain ⟨k4, k5, k6, k7⟩ := keep4 hB4 (by exact hpl3) d4 d5 d6 d7; have HS4 := Lib.hid (HS3.out.add hO4 hB4); obtain ⟨r0, r1, r2, r3⟩ := HS4.out.b0_4; have f0 := HS4.out.f0 0; have f1 := HS4.out.f0 1; have f2 := HS4.out.f0 2; have f3 := HS4.out.f0 3; have HE := Lib.hid (HS4.out.e0_4 (.int .i64 (W : Int)) (.int .i64 (H : Int)) (.int .i64 (P : Int)) (.slice A4 (mskL W H P xs ys rs n).length c4)); clear hO4 hB4))
      all_goals
        go_wp2
        exact bodyPost_ret (v := .tuple #[.agg #[.int .i64 (W : Int), .int .i64 (H : Int), .int .i64 (P : Int), .slice A4 (mskL W H P xs ys rs n).length c4], .bool true]) (by simp [results, Try.results30, go_sem, r0, r1, r2, r3]) rfl ⟨_, by rw [HF.out]; rfl, by rw [HF.out]; exact HE.out.2 _ (List.Mem.head _), HE.out.1⟩
end Go.Proofs.Ytlmpkanlfhjijaa
