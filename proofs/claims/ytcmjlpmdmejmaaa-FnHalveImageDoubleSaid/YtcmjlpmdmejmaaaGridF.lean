/- Contracts of MirrorImage and TransposeImage in the program. -/
import Derived.Test.YtcmjlpmdmejmaaaGridE
import Derived.Test.YtcmjlpmdmejmaaaInvI
namespace Go.Proofs.Ytcmjlpmdmejmaaa
open Go.RowKit Go.Shelf
set_option linter.unusedSimpArgs false
set_option linter.unusedVariables false

theorem keep4 {W W' : World} {g : Nat} {B : Nat} {u0 u1 u2 u3 : Option Value} (hB : Below B W W') (hg : g < B) (c0 : W.cell? ⟨g, 0, none⟩ = u0) (c1 : W.cell? ⟨g, 1, none⟩ = u1) (c2 : W.cell? ⟨g, 2, none⟩ = u2) (c3 : W.cell? ⟨g, 3, none⟩ = u3) :
    W'.cell? ⟨g, 0, none⟩ = u0 ∧ W'.cell? ⟨g, 1, none⟩ = u1 ∧ W'.cell? ⟨g, 2, none⟩ = u2 ∧ W'.cell? ⟨g, 3, none⟩ = u3 :=
  ⟨(hB.cell (p := ⟨g, 0, none⟩) hg).trans c0, (hB.cell (p := ⟨g, 1, none⟩) hg).trans c1, (hB.cell (p := ⟨g, 2, none⟩) hg).trans c2, (hB.cell (p := ⟨g, 3, none⟩) hg).trans c3⟩
/-- A valid image in natural numbers. -/
theorem vim_nat {W H P : Int} {xs : List Int} (h : vim W H P xs = true) : ∃ w h p : Nat, W = w ∧ H = h ∧ P = p ∧ 1 ≤ w ∧ w ≤ 16 ∧ 1 ≤ h ∧ h ≤ 16 ∧ 1 ≤ p ∧ p ≤ 4 ∧ xs.length = w * h * p ∧ ∀ j, j < xs.length → 0 ≤ xs.getD j 0 ∧ xs.getD j 0 ≤ 255 := by
  have h' : (vsh W H P && (decide ((xs.length : Int) = W * H * P) && allB 0 255 xs)) = true := h
  simp only [Bool.and_eq_true, decide_eq_true_eq] at h'
  obtain ⟨hs, hl, hb⟩ := h'
  obtain ⟨hW, hH, hP, _⟩ := vsh_bd hs
  obtain ⟨w, rfl⟩ := Int.eq_ofNat_of_zero_le (show 0 ≤ W by omega)
  obtain ⟨hh, rfl⟩ := Int.eq_ofNat_of_zero_le (show 0 ≤ H by omega)
  obtain ⟨p, rfl⟩ := Int.eq_ofNat_of_zero_le (show 0 ≤ P by omega)
  refine ⟨w, hh, p, rfl, rfl, rfl, by omega, by omega, by omega, by omega, by omega, by omega, ?_, fun j hj => ?_⟩
  · rw [← Int.natCast_mul, ← Int.natCast_mul] at hl; exact Int.ofNat.inj hl
  · have := of_decide_eq_true hb (xs[j]) (List.getElem_mem hj)
    simpa [hj] using this
/-- The numbers of the image that TransposeImage makes. -/
def trnL (W H P : Nat) (xs : List Int) : List Int := img H W P (fun x y => pxc W P xs y x)
set_option maxHeartbeats 8000000 in
theorem i_TransposeImage (W H P : Int) (A : Option Addr) (c : Nat) (xs : List Int) (w : World) (hx : Rds .i64 w w.heap.size A xs) (hl : xs.length ≤ 2000000) (hlc : xs.length ≤ c) :
    Calls Try.prog 13 #[.agg #[.int .i64 W, .int .i64 H, .int .i64 P, .slice A xs.length c]] w (MadeIf (vim W H P xs) H W P (trnL W.toNat H.toNat P.toNat xs) w) := by
  obtain ⟨u0, hu⟩ : ∃ u0, u0 = (w.alloc (.cells #[.int .i64 W, .int .i64 H, .int .i64 P, .slice A xs.length c] 25)).alloc (.cells #[.int .i64 0, .int .i64 0, .int .i64 0, .slice none 0 0] 25) := ⟨_, rfl⟩
  have Hsz : Hid (u0.heap.size = w.heap.size + 2) := Lib.hid (by rw [hu]; simp)
  have HB0 : Hid (Below w.heap.size w u0) := Lib.hid (by rw [hu]; exact ((Below.refl w.heap.size w).alloc (Nat.le_refl _) _).alloc (by simp) _)
  have HM0 : Hid (Bx u0 w.heap.size 25 (imC W H P (.slice A xs.length c))) := Lib.hid (by rw [hu]; exact (Bx.new w 25 _).alloc _)
  have HR0 : Hid (Bx u0 (w.heap.size + 1) 25 (imC 0 0 0 (.slice none 0 0))) := Lib.hid (by rw [hu]; have := Bx.new (w.alloc (.cells #[.int .i64 W, .int .i64 H, .int .i64 P, .slice A xs.length c] 25)) 25 (imC 0 0 0 (.slice none 0 0)); simpa [imC] using this)
  have Hx := Lib.hid ((hx.below HB0.out).more (by have := Hsz.out; omega : w.heap.size ≤ u0.heap.size))
  have HU := Lib.hid hu
  clear hx hu
  obtain ⟨m0, m1, m2, m3⟩ := HM0.out.im
  go_enter Try.func13, Try.ntmps13
  go_wp2_with fail
  rw [← HU.out]
  clear HU m0 m1 m2 m3
  refine (iVimg_any W H P A c xs u0 Hx.out hl).mono ?_
  rintro e u1 ⟨rfl, hB⟩
  have hM := HM0.out.below hB
  have hR := HR0.out.below hB
  have hB1 := HB0.out.trans (hB.mono (by have := Hsz.out; omega))
  have hsz1 : w.heap.size + 2 ≤ u1.heap.size := by have := Hsz.out; have := hB.size; omega
  have Hx1 := Lib.hid ((Hx.out.belowTo hB (Nat.le_refl _)).more hB.size)
  have hlt1 : w.heap.size < u1.heap.size := by omega
  have hlt2 : w.heap.size + 1 < u1.heap.size := by omega
  clear hB Hx HB0 HM0 HR0 Hsz
  cases hv : vim W H P xs
  · have Hv := Lib.hid hv
    obtain ⟨r0, r1, r2, r3⟩ := hR.im
    have f0 := hR.fz 0
    have f1 := hR.fz 1
    have f2 := hR.fz 2
    have f3 := hR.fz 3
    have HE := Lib.hid (im_end (w := w) (r := w.heap.size + 1) (base := w.heap.size + 2) (show Own u1 (w.heap.size + 2) (.slice none 0 0) [] from World.ownsRow_nil _ _ _ _) (by omega) (by omega) hB1 (.int .i64 0) (.int .i64 0) (.int .i64 0) (.slice none 0 0))
    clear hR hM hB1
    go_wp2
    exact bodyPost_ret (v := .agg #[.int .i64 0, .int .i64 0, .int .i64 0, .slice none 0 0]) (by simp [results, Try.results13, go_sem, r0, r1, r2, r3]) rfl (MadeIf.no Hv.out ⟨_, rfl, HE.out.1, HE.out.2⟩)
  · have Hv := Lib.hid hv
    obtain ⟨W, H, P, rfl, rfl, rfl, hW1, hW, hH1, hH, hP1, hP, hln, hby⟩ := vim_nat hv
    have HLn := Lib.hid hln
    obtain ⟨m0, m1, m2, m3⟩ := hM.im
    have HR := Lib.hid hR
    have HB1 := Lib.hid hB1
    clear hv hln hR hB1 hM hby
    have hne1 : w.heap.size ≠ w.heap.size + 1 := by omega
    have hP16 : P ≤ 4 := hP
    go_wp2
    go_region_held3 (fun w' => w'.cell? ⟨w.heap.size, 0, none⟩ = some (.int .i64 (W : Int)) ∧ w'.cell? ⟨w.heap.size, 1, none⟩ = some (.int .i64 (H : Int)) ∧ w'.cell? ⟨w.heap.size, 2, none⟩ = some (.int .i64 (P : Int)) ∧ w'.cell? ⟨w.heap.size, 3, none⟩ = some (.slice A xs.length c))
      (first | (with_reducible exact ⟨k0, k1, k2, k3⟩) | (with_reducible exact ⟨e0, e1, e2, e3⟩) | (with_reducible exact ⟨d0, d1, d2, d3⟩) | (with_reducible exact ⟨(sc4 hne1 _ _ _ _).trans k0, (sc4 hne1 _ _ _ _).trans k1, (sc4 hne1 _ _ _ _).trans k2, (sc4 hne1 _ _ _ _).trans k3⟩) | exact ⟨m0, m1, m2, m3⟩ | go_keep)
      (first | (go_at_call 29; refine (gridOf_any W H P hW hH hP1 hP16 hW1 hH1 A c xs HLn.out hlc _ (by exact Hx1.out)).mono ?_; rintro e w2 ⟨v2, rfl, hO2, hB2⟩; obtain ⟨A2, c2, rfl, hc2⟩ := hO2.slice; obtain ⟨d0, d1, d2, d3⟩ := keep4 hB2 (by exact hlt1) m0 m1 m2 m3; have HB2 : Hid (Below u1.heap.size u1 w2) := Lib.hid ((Below.refl u1.heap.size u1).drew.trans hB2); have hz2 : w.heap.size + 2 ≤ w2.heap.size := (by have h := HB2.out.size; omega); have hz2a : w.heap.size < w2.heap.size := (by omega); have HR2 := Lib.hid hO2.rds; clear hO2 hB2) | (go_at_call 34; refine (transpose_any W H hW hH A2 c2 _ rfl (pxc W P xs) hc2 _ (by exact HR2.out)).mono ?_; rintro e w3 ⟨v3, rfl, hO3, hB3⟩; obtain ⟨A3, c3, rfl, hc3⟩ := hO3.slice; obtain ⟨e0, e1, e2, e3⟩ := keep4 hB3 (by exact hz2a) d0 d1 d2 d3; have HB3 : Hid (Below u1.heap.size u1 w3) := Lib.hid (HB2.out.trans (hB3.mono HB2.out.size)); have hz3 : w.heap.size + 2 ≤ w3.heap.size := (by have h := HB3.out.size; omega); have hz3a : w.heap.size < w3.heap.size := (by omega); have HR3 := Lib.hid hO3.rds; clear hO3 hB3) | (go_at_call 27; refine (imageOf_any H W P (by omega) (by omega) hP A3 c3 (fun x y => pxc W P xs y x) _ (by exact HR3.out) hc3).mono ?_; rintro e w4 ⟨v4, rfl, hO4, hB4⟩; obtain ⟨A4, c4, rfl, hc4⟩ := hO4.slice; obtain ⟨k0, k1, k2, k3⟩ := keep4 hB4 (by exact hz3a) e0 e1 e2 e3; have HR4 : Hid (Bx w4 (w.heap.size + 1) 25 (imC 0 0 0 (.slice none 0 0))) := Lib.hid ((HR.out.below HB3.out).below hB4); obtain ⟨r0, r1, r2, r3⟩ := HR4.out.im; have f0 := HR4.out.fz 0; have f1 := HR4.out.fz 1; have f2 := HR4.out.fz 2; have f3 := HR4.out.fz 3; have HB4 : Hid (Below w.heap.size w w4) := Lib.hid (HB1.out.trans ((HB3.out.trans (hB4.mono HB3.out.size)).mono (by omega))); have HO4 := Lib.hid (hO4.base_le (show w.heap.size + 2 ≤ _ by exact hz3)); clear hO4 hB4))
    all_goals
      have HE := Lib.hid (im_end (w := w) (r := w.heap.size + 1) (base := w.heap.size + 2) HO4.out (by omega) (by omega) HB4.out (.int .i64 (H : Int)) (.int .i64 (W : Int)) (.int .i64 (P : Int)) (.slice A4 (img H W P (fun x y => pxc W P xs y x)).length c4))
      clear d0 d1 d2 d3 e0 e1 e2 e3 k0 k1 k2 k3 m0 m1 m2 m3
      go_wp2
      exact bodyPost_ret (v := .agg #[.int .i64 (H : Int), .int .i64 (W : Int), .int .i64 (P : Int), .slice A4 (img H W P (fun x y => pxc W P xs y x)).length c4]) (by simp [results, Try.results13, go_sem, r0, r1, r2, r3]) rfl (MadeIf.yes Hv.out ⟨_, rfl, HE.out.1, HE.out.2⟩)
end Go.Proofs.Ytcmjlpmdmejmaaa
