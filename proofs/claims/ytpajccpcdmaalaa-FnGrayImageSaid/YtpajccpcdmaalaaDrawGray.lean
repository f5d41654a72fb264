/- Contract of the drawing of an image for GrayImage. -/
import Derived.Test.YtpajccpcdmaalaaDrawImg2
namespace Go.Proofs.Ytpajccpcdmaalaa
open Go.RowKit
set_option linter.unusedSimpArgs false
set_option linter.unusedVariables false

theorem drawn_fin {w u3 : World} {W H P : Int} {A : Option Addr} {c : Nat} {ys : List Int} (hy : ys.length ≤ 256) (hyc : ys.length ≤ c) (hr3 : Rds .i64 u3 u3.heap.size A ys) (hA3 : ∀ a : Addr, A = some a → w.heap.size < a.block) (hB3 : Below w.heap.size w u3) (v0 v1 v2 v3 : Value) :
    DrawnIm w (.returned (.agg #[.int .i64 W, .int .i64 H, .int .i64 P, .slice A ys.length c])) ((((u3.setCell ⟨w.heap.size, 0, none⟩ v0).setCell ⟨w.heap.size, 1, none⟩ v1).setCell ⟨w.heap.size, 2, none⟩ v2).setCell ⟨w.heap.size, 3, none⟩ v3) := by
  refine ⟨W, H, P, A, c, ys, rfl, hy, hyc, ?_, (((hB3.setCell (Nat.le_refl _) v0).setCell (Nat.le_refl _) v1).setCell (Nat.le_refl _) v2).setCell (Nat.le_refl _) v3⟩
  rcases hr3 with h | ⟨b, off, rfl, hb, hcl⟩
  · exact .inl h
  · have hne : b ≠ w.heap.size := by have : w.heap.size < b := hA3 _ rfl; omega
    exact (((((Rds.setOff (.inr ⟨b, off, rfl, hb, hcl⟩ : Rds .i64 u3 u3.heap.size (some ⟨b, off, none⟩) ys) hne v0).setOff hne v1).setOff hne v2).setOff hne v3).more (by simp [World.setCell]))
set_option maxHeartbeats 4000000 in
theorem drawGray_any (A : Option Addr) (c : Nat) (bs : List Int) (w : World) (hc : bs.length ≤ c) (h : Rdw .u8 w w.heap.size A bs) :
    Calls Try.prog 22 #[.slice A bs.length c] w (DrawnIm w) := by
  obtain ⟨u0, hu⟩ : ∃ u0, u0 = w.alloc (.cells #[.int .i64 0, .int .i64 0, .int .i64 0, .slice none 0 0] 26) := ⟨_, rfl⟩
  have Hz : Hid (u0.heap.size = w.heap.size + 1) := Lib.hid (by rw [hu]; simp)
  have HX0 : Hid (Bx u0 w.heap.size 26 (imC 0 0 0 (.slice none 0 0))) := Lib.hid (by rw [hu]; exact Bx.new w _ _)
  have HB0 : Hid (Below w.heap.size w u0) := Lib.hid (by rw [hu]; exact (Below.refl _ _).alloc (Nat.le_refl _) _)
  have Hh : Hid (Rdw .u8 u0 u0.heap.size A bs) := Lib.hid ⟨(h.1.below HB0.out).more HB0.out.size, h.2⟩
  have HU := Lib.hid hu
  clear h hu
  go_enter Try.func22, Try.ntmps22
  go_wp2_with fail
  rw [← HU.out]
  clear HU
  refine (newReader_any A c bs u0 hc Hh.out).mono ?_
  rintro e u1 ⟨rfl, hr1, hb1, hs1⟩
  have HX1 := Lib.hid (HX0.out.below hb1)
  have HB1 := Lib.hid (HB0.out.trans (hb1.mono HB0.out.size))
  have Hs := Lib.hid hs1
  obtain ⟨g, hg⟩ : ∃ g, g = u0.heap.size := ⟨_, rfl⟩
  rw [← hg] at hr1 ⊢
  have Hg : Hid (g = w.heap.size + 1) := Lib.hid (by have := Hz.out; omega)
  have Hs1 : Hid (u1.heap.size = w.heap.size + 2) := Lib.hid (by have := Hz.out; omega)
  clear hs1 hb1 HX0 HB0 Hh hg Hs Hz
  go_wp2_with fail
  refine (pick_any 6 g 0 u1 hr1 (by omega) (by omega)).mono ?_
  rintro e u2 ⟨k, rfl, hk0, hk1, hR2, hG2, hsz2⟩
  have HX2 := Lib.hid (bx_gr HX1.out hG2 (by have := Hg.out; omega))
  have HG2 := Lib.hid hG2
  have Hz2 : Hid (w.heap.size + 2 ≤ u2.heap.size) := Lib.hid (by have := hG2.size; have := Hs1.out; omega)
  clear hG2 hr1 hk1 hsz2
  by_cases hk : k = 0
  · go_wp2_with fail
    refine (anyImage_any g 1 u2 hR2 (by omega)).mono ?_
    rintro e u3 ⟨W3, H3, P3, A3, c3, ys, rfl, hy, hyc, hr3, hR3, hG3, hA3⟩
    have HX3 : Hid (Bx u3 w.heap.size 26 (imC 0 0 0 (.slice none 0 0))) := Lib.hid (bx_gr HX2.out hG3 (by have := Hg.out; omega))
    obtain ⟨r0, r1, r2, r3⟩ := HX3.out.im
    have f0 := HX3.out.fz 0
    have f1 := HX3.out.fz 1
    have f2 := HX3.out.fz 2
    have f3 := HX3.out.fz 3
    have HE := Lib.hid (drawn_fin (w := w) (W := W3) (H := H3) (P := P3) hy.1 hyc hr3 (fun a ha => by have := hA3 a ha; have := Hz2.out; omega) (HB1.out.grown (gtrans HG2.out hG3) HB1.out.size (fun k hk => by injection hk with hk; have := Hg.out; omega)))
    clear HX1 HX2 HX3 HB1 hR2 HG2 hr3 hR3 hG3 hA3 hy hyc
    go_wp2
    exact bodyPost_ret (v := .agg #[.int .i64 W3, .int .i64 H3, .int .i64 P3, .slice A3 ys.length c3]) (by simp [results, Try.results22, go_sem, r0, r1, r2, r3]) rfl (HE.out _ _ _ _)
  · go_wp2_with fail
    refine (randomImage_any 3 (by omega) (by omega) g 1 u2 hR2 (by omega)).mono ?_
    rintro e u3 ⟨W, H, gb, c, xs, rfl, hW1, hW8, hH1, hH8, hl, hO, hR3, hG3⟩
    have hWH : W * H ≤ 64 := by have := Nat.mul_le_mul hW8 hH8; omega
    have HX3 := Lib.hid (bx_gr HX2.out hG3 (by have := Hg.out; omega))
    have HG3 := Lib.hid hG3
    have hWHp : 0 < W * H := Nat.mul_pos (by omega) (by omega)
    have HL := Lib.hid (show 0 < xs.length ∧ xs.length ≤ 256 by omega)
    clear hG3 hl hWH hWHp hR2
    go_wp2_with fail
    refine (spoilImage_any W H 3 (by omega) (by omega) (by omega) gb c xs.length xs rfl HL.out.1 HL.out.2 u2.heap.size g 301 u2 u3 HG3.out rfl hO (by have := Hz2.out; have := Hg.out; omega) (hR3.more (by omega)) (by omega)).mono ?_
    rintro e u4 ⟨W3, H3, P3, A3, c3, ys, rfl, hy, hyc, hr4, hR4, hG4, hA4⟩
    have HX4 : Hid (Bx u4 w.heap.size 26 (imC 0 0 0 (.slice none 0 0))) := Lib.hid ((hG4.block _ (by have := Hz2.out; omega) (by simp; have := Hg.out; omega)).trans HX2.out)
    obtain ⟨r0, r1, r2, r3⟩ := HX4.out.im
    have f0 := HX4.out.fz 0
    have f1 := HX4.out.fz 1
    have f2 := HX4.out.fz 2
    have f3 := HX4.out.fz 3
    have HE := Lib.hid (drawn_fin (w := w) (W := W3) (H := H3) (P := P3) hy.1 hyc hr4 (fun a ha => by have := hA4 a ha; have := Hz2.out; omega) (HB1.out.grown (gtrans HG2.out hG4) HB1.out.size (fun k hk => by injection hk with hk; have := Hg.out; omega)))
    clear HX1 HX2 HX3 HX4 HB1 HG2 HG3 HL hr4 hR3 hR4 hG4 hA4 hy hyc hO
    go_wp2
    exact bodyPost_ret (v := .agg #[.int .i64 W3, .int .i64 H3, .int .i64 P3, .slice A3 ys.length c3]) (by simp [results, Try.results22, go_sem, r0, r1, r2, r3]) rfl (HE.out _ _ _ _)
end Go.Proofs.Ytpajccpcdmaalaa
