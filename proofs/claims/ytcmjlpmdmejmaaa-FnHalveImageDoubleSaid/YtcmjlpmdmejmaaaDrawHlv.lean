/- Contract of the drawing of HalveImage's image, and facts of halved images that its law needs. -/
import Derived.Test.YtcmjlpmdmejmaaaDrawGray
import Derived.Test.YtcmjlpmdmejmaaaImgAr
import Derived.Test.YtcmjlpmdmejmaaaHlvS
namespace Go.Proofs.Ytcmjlpmdmejmaaa
open Go.RowKit Go.Shelf
set_option linter.unusedSimpArgs false
set_option linter.unusedVariables false
set_option maxRecDepth 20000

set_option maxHeartbeats 8000000 in
theorem drawHlv_any (A : Option Addr) (c : Nat) (bs : List Int) (w : World) (hc : bs.length ≤ c) (h : Rdw .u8 w w.heap.size A bs) :
    Calls Try.prog 5 #[.slice A bs.length c] w (DrawnIm w) := by
  obtain ⟨u0, hu⟩ : ∃ u0, u0 = w.alloc (.cells #[.int .i64 0, .int .i64 0, .int .i64 0, .slice none 0 0] 25) := ⟨_, rfl⟩
  have Hz : Hid (u0.heap.size = w.heap.size + 1) := Lib.hid (by rw [hu]; simp)
  have HX0 : Hid (Bx u0 w.heap.size 25 (imC 0 0 0 (.slice none 0 0))) := Lib.hid (by rw [hu]; exact Bx.new w _ _)
  have HB0 : Hid (Below w.heap.size w u0) := Lib.hid (by rw [hu]; exact (Below.refl _ _).alloc (Nat.le_refl _) _)
  have Hh : Hid (Rdw .u8 u0 u0.heap.size A bs) := Lib.hid ⟨(h.1.below HB0.out).more HB0.out.size, h.2⟩
  have HU := Lib.hid hu
  clear h hu
  go_enter Try.func5, Try.ntmps5
  go_wp2_with fail
  rw [← HU.out]
  clear HU
  refine (newReader_any A c bs u0 hc Hh.out).mono ?_
  rintro e u1 ⟨rfl, hr1, hb1, hs1⟩
  have HX1 := Lib.hid (HX0.out.below hb1)
  have HB1 := Lib.hid (HB0.out.trans (hb1.mono HB0.out.size))
  have Hs := Lib.hid hs1
  obtain ⟨g, hg⟩ : ∃ g, g = u0.heap.size := ⟨_, rfl⟩
  rw [← hg] at hr1 ⊢
  have Hg : Hid (g = w.heap.size + 1) := Lib.hid (by have := Hz.out; omega)
  have Hs1 : Hid (u1.heap.size = w.heap.size + 2) := Lib.hid (by have := Hz.out; omega)
  clear hs1 hb1 HX0 HB0 Hh hg Hs Hz
  go_wp2_with fail
  refine (anyPlanes_any g 0 u1 hr1 (by omega)).mono ?_
  rintro e u2 ⟨k, rfl, ⟨hk1, hk4⟩, hR2, hG2⟩
  obtain ⟨P, rfl⟩ := Int.eq_ofNat_of_zero_le (show 0 ≤ k by omega)
  have HX2 := Lib.hid (bx_gr HX1.out hG2 (by have := Hg.out; omega))
  have HB2 := Lib.hid (HB1.out.grown hG2 HB1.out.size (fun k hk => by injection hk with hk; have := Hg.out; omega))
  have Hz2 : Hid (w.heap.size + 2 ≤ u2.heap.size) := Lib.hid (by have := hG2.size; have := Hs1.out; omega)
  have hP1 : 1 ≤ P := by omega
  have hP4 : P ≤ 4 := by omega
  clear hG2 hr1 HX1 HB1
  go_wp2_with fail
  refine (randomImage_any P hP1 hP4 g 1 u2 hR2 (by omega)).mono ?_
  rintro e u3 ⟨W, H, gb, c3, xs, rfl, hW1, hW8, hH1, hH8, hl, hO, hR3, hG3⟩
  have hWH : W * H ≤ 64 := by have := Nat.mul_le_mul hW8 hH8; omega
  have hx256 : xs.length ≤ 256 := by rw [hl]; have := Nat.mul_le_mul hWH hP4; omega
  have hxc : xs.length ≤ c3 := by
    obtain ⟨_, _, h1, h2⟩ := hO.slice
    injection h1 with _ h3 h4
    omega
  obtain ⟨u4, hu4⟩ : ∃ u4, u4 = u3.alloc (.cells #[.int .i64 (W : Int), .int .i64 (H : Int), .int .i64 (P : Int), .slice (some ⟨gb, 0, none⟩) xs.length c3] 25) := ⟨_, rfl⟩
  obtain ⟨b4, hb4⟩ : ∃ b4, b4 = u3.heap.size := ⟨_, rfl⟩
  have HX4 : Hid (Bx u4 w.heap.size 25 (imC 0 0 0 (.slice none 0 0))) := Lib.hid (by rw [hu4]; exact (bx_gr HX2.out hG3 (by have := Hg.out; omega)).alloc _)
  have HM4 : Hid (Bx u4 b4 25 (imC W H P (.slice (some ⟨gb, 0, none⟩) xs.length c3))) := Lib.hid (by rw [hu4, hb4]; exact Bx.new u3 _ _)
  have HR4 : Hid (Rdr u4 g 301) := Lib.hid (by rw [hu4]; exact hR3.alloc _)
  have HO4 : Hid (Own u4 u2.heap.size (.slice (some ⟨gb, 0, none⟩) xs.length c3) xs) := Lib.hid (by rw [hu4]; exact hO.alloc _)
  have HB4 : Hid (Below w.heap.size w u4) := Lib.hid (by rw [hu4]; exact (HB2.out.grown hG3 HB2.out.size (fun k hk => by injection hk with hk; have := Hg.out; omega)).alloc (by have := hG3.size; have := Hz2.out; omega) _)
  have Hb4 : Hid (w.heap.size + 2 ≤ b4) := Lib.hid (by have := hG3.size; have := Hz2.out; omega)
  have HU4 := Lib.hid hu4
  have HBb := Lib.hid hb4
  have Hz4 : Hid (w.heap.size + 2 ≤ u4.heap.size) := Lib.hid (by rw [hu4]; simp; have := hG3.size; have := Hz2.out; omega)
  clear hO hR3 hG3 hu4 hb4 hR2 HX2 HB2 hl hWH
  go_wp2_with fail
  (try rw [← HBb.out])
  rw [← HU4.out]
  clear HU4
  refine (pick_any 4 g 301 u4 HR4.out (by omega) (by omega)).mono ?_
  rintro e u5 ⟨kk, rfl, hk0, hkb, hR5, hG5, hsz5⟩
  have HX5 := Lib.hid (bx_gr HX4.out hG5 (by have := Hg.out; omega))
  have HM5 := Lib.hid (bx_gr HM4.out hG5 (by have := Hg.out; have := Hb4.out; omega))
  have HO5 := Lib.hid (HO4.out.off hG5 (by have := Hg.out; have := Hz2.out; omega))
  have HB5 := Lib.hid (HB4.out.grown hG5 HB4.out.size (fun k hk => by injection hk with hk; have := Hg.out; omega))
  have Hz5 : Hid (w.heap.size + 2 ≤ u5.heap.size) := Lib.hid (by have := hG5.size; have := Hz4.out; omega)
  clear hG5 hkb hsz5 HX4 HM4 HO4 HB4 HR4
  by_cases hk : kk = 0
  · go_wp2_with fail
    refine (anyImage_any g 302 u5 hR5 (by omega)).mono ?_
    rintro e u6 ⟨W3, H3, P3, A3, c6, ys, rfl, hy, hyc, hr6, hR6, hG6, hA6⟩
    have HX6 : Hid (Bx u6 w.heap.size 25 (imC 0 0 0 (.slice none 0 0))) := Lib.hid (bx_gr HX5.out hG6 (by have := Hg.out; omega))
    obtain ⟨r0, r1, r2, r3⟩ := HX6.out.im
    have f0 := HX6.out.fz 0
    have f1 := HX6.out.fz 1
    have f2 := HX6.out.fz 2
    have f3 := HX6.out.fz 3
    have HE := Lib.hid (drawn_fin (w := w) (W := W3) (H := H3) (P := P3) hy.1 hyc hr6 (fun a ha => by have := hA6 a ha; have := Hz5.out; omega) (HB5.out.grown hG6 HB5.out.size (fun k hk => by injection hk with hk; have := Hg.out; omega)))
    clear HX5 HX6 HB5 hR5 hr6 hR6 hG6 hA6 hy hyc HM5 HO5
    go_wp2
    exact bodyPost_ret (v := .agg #[.int .i64 W3, .int .i64 H3, .int .i64 P3, .slice A3 ys.length c6]) (by simp [results, Try.results5, go_sem, r0, r1, r2, r3]) rfl (HE.out _ _ _ _)
  · obtain ⟨m0, m1, m2, m3⟩ := HM5.out.im
    obtain ⟨wa, hwa⟩ : ∃ a : Nat, a = (W + 1) / 2 := ⟨_, rfl⟩
    obtain ⟨ha, hha⟩ : ∃ a : Nat, a = (H + 1) / 2 := ⟨_, rfl⟩
    obtain ⟨wb, hwb⟩ : ∃ a : Nat, a = 2 * wa := ⟨_, rfl⟩
    obtain ⟨hb, hhb⟩ : ∃ a : Nat, a = 2 * ha := ⟨_, rfl⟩
    have q1 : ((W : Int) + 1).tdiv 2 = (wa : Int) := by rw [Int.tdiv_eq_ediv_of_nonneg (by omega)]; omega
    have q2 : ((H : Int) + 1).tdiv 2 = (ha : Int) := by rw [Int.tdiv_eq_ediv_of_nonneg (by omega)]; omega
    have q1' : ((W : Int) + 1) / 2 = (wa : Int) := by omega
    have q2' : ((H : Int) + 1) / 2 = (ha : Int) := by omega
    have q3 : 2 * (wa : Int) = (wb : Int) := by omega
    have q4 : 2 * (ha : Int) = (hb : Int) := by omega
    have hwb8 : wb ≤ 8 := by omega
    have hhb8 : hb ≤ 8 := by omega
    have q5 : IntKind.i64.wrap (wa : Int) = (wa : Int) := IntWalk.i64_in _ (by omega)
    have q6 : IntKind.i64.wrap (ha : Int) = (ha : Int) := IntWalk.i64_in _ (by omega)
    have q7 : IntKind.i64.wrap (wb : Int) = (wb : Int) := IntWalk.i64_in _ (by omega)
    have q8 : IntKind.i64.wrap (hb : Int) = (hb : Int) := IntWalk.i64_in _ (by omega)
    have HSN := Lib.hid (s_ScaleNearest (W : Int) (H : Int) (P : Int) (wb : Int) (hb : Int) (some ⟨gb, 0, none⟩) c3 xs u5 HO5.out.rds.2 (by omega) hxc)
    have hWb : wb * hb ≤ 64 := by have := Nat.mul_le_mul hwb8 hhb8; omega
    have HLb : Hid (∀ ys, ys = scaL W H P xs wb hb → ys.length ≤ 256) := Lib.hid (fun ys e => by rw [e]; unfold scaL; rw [img_len]; have := Nat.mul_le_mul hWb hP4; omega)
    clear hwa hha hwb hhb hWb hR5
    go_wp2_with fail
    refine HSN.out.mono ?_
    rintro e u6 h
    cases hsc : scOk (W : Int) (H : Int) (P : Int) xs (wb : Int) (hb : Int)
    all_goals
      rw [hsc] at h
      obtain ⟨v6, rfl, hO6, hB6⟩ := h
      have HX6 : Hid (Bx u6 w.heap.size 25 (imC 0 0 0 (.slice none 0 0))) := Lib.hid (HX5.out.below hB6)
      obtain ⟨r0, r1, r2, r3⟩ := HX6.out.im
      have f0 := HX6.out.fz 0
      have f1 := HX6.out.fz 1
      have f2 := HX6.out.fz 2
      have f3 := HX6.out.fz 3
      clear hsc
    · have hO6' : Own u6 u5.heap.size v6 [] := hO6
      obtain ⟨A6, c6, rfl, hc6⟩ := hO6'.slice
      have HE := Lib.hid (drawn_fin (w := w) (W := 0) (H := 0) (P := 0) (A := A6) (c := c6) (ys := []) (by simp) (by simp) hO6'.rds.2 (fun a ha => by have := hO6'.ge a ha; have := Hz5.out; omega) (HB5.out.trans (hB6.mono HB5.out.size)))
      clear HX5 HX6 HB5 hO6 hO6' hB6 HM5 HO5 HSN m0 m1 m2 m3
      show _
      go_wp2
      exact bodyPost_ret (v := .agg #[.int .i64 0, .int .i64 0, .int .i64 0, .slice A6 0 c6]) (by simp [results, Try.results5, go_sem, r0, r1, r2, r3]) rfl (HE.out _ _ _ _)
    · obtain ⟨ys, hys⟩ : ∃ ys, ys = scaL W H P xs wb hb := ⟨_, rfl⟩
      have hyl := HLb.out ys hys
      have hO6' : Own u6 u5.heap.size v6 ys := by rw [hys]; exact hO6
      obtain ⟨A6, c6, rfl, hc6⟩ := hO6'.slice
      have HE := Lib.hid (drawn_fin (w := w) (W := (wb : Int)) (H := (hb : Int)) (P := (P : Int)) (A := A6) (c := c6) (ys := ys) hyl hc6 hO6'.rds.2 (fun a ha => by have := hO6'.ge a ha; have := Hz5.out; omega) (HB5.out.trans (hB6.mono HB5.out.size)))
      clear HX5 HX6 HB5 hO6 hO6' hB6 HM5 HO5 HSN m0 m1 m2 m3 hys
      show _
      go_wp2
      exact bodyPost_ret (v := .agg #[.int .i64 (wb : Int), .int .i64 (hb : Int), .int .i64 (P : Int), .slice A6 ys.length c6]) (by simp [results, Try.results5, go_sem, r0, r1, r2, r3]) rfl (HE.out _ _ _ _)
theorem iHv_im (W H P : Int) (xs : List Int) (hx : xs.length ≤ 2000) : ImC0 6 W H P xs (cond (hvOk W H P xs) (W / 2) 0) (cond (hvOk W H P xs) (H / 2) 0) (cond (hvOk W H P xs) P 0) (cond (hvOk W H P xs) (hvL W.toNat H.toNat P.toNat xs) []) :=
  fun A c w hr hc => (by first | exact i_HalveImage W H P A c xs w hr (by omega) hc | exact s_HalveImage W H P A c xs w hr (by omega) hc : Calls _ _ _ _ _).mono fun _ _ h => ShI.of h
theorem sHv_im (W H P : Int) (xs : List Int) (hx : xs.length ≤ 2000) : ImC0 8 W H P xs (cond (hvOk W H P xs) (W / 2) 0) (cond (hvOk W H P xs) (H / 2) 0) (cond (hvOk W H P xs) P 0) (cond (hvOk W H P xs) (hvL W.toNat H.toNat P.toNat xs) []) :=
  fun A c w hr hc => (by first | exact i_HalveImage W H P A c xs w hr (by omega) hc | exact s_HalveImage W H P A c xs w hr (by omega) hc : Calls _ _ _ _ _).mono fun _ _ h => ShI.of h
end Go.Proofs.Ytcmjlpmdmejmaaa
