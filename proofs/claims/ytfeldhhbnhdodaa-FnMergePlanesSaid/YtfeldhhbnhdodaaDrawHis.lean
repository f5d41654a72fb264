/- Contract of the drawing of an image of one plane. -/
import Derived.Test.YtfeldhhbnhdodaaDrawImg2
namespace Go.Proofs.Ytfeldhhbnhdodaa
open Go.RowKit
set_option linter.unusedSimpArgs false
set_option linter.unusedVariables false

set_option maxHeartbeats 4000000 in
theorem grayImage_any (g N : Nat) (w : World) (h : Rdr w g N) (hN : N ≤ 100000) :
    Calls Try.prog 37 #[.pointer (some ⟨g, 0, none⟩)] w (DrawIm g (N + 305) w) := by
  have hgl := h.lt
  obtain ⟨u0, hu⟩ : ∃ u0, u0 = w.alloc (.cells #[.int .i64 0, .int .i64 0, .int .i64 0, .slice none 0 0] 25) := ⟨_, rfl⟩
  have Hz : Hid (u0.heap.size = w.heap.size + 1) := Lib.hid (by rw [hu]; simp)
  have HX0 : Hid (Bx u0 w.heap.size 25 (imC 0 0 0 (.slice none 0 0))) := Lib.hid (by rw [hu]; exact Bx.new w _ _)
  have HR0 : Hid (Rdr u0 g N) := Lib.hid (by rw [hu]; exact h.alloc _)
  have HG0 : Hid (w.grownBy u0 (some g)) := Lib.hid (by rw [hu]; exact World.grownBy_alloc w _ _)
  have HU := Lib.hid hu
  clear h hu
  go_enter Try.func37, Try.ntmps37
  go_wp2_with fail
  rw [← HU.out]
  clear HU
  refine (pick_any 20 g N u0 HR0.out (by omega) (by omega)).mono ?_
  rintro e u1 ⟨k, rfl, hk0, hk1, hR1, hG1, hsz1⟩
  have HX1 := Lib.hid (bx_gr HX0.out hG1 (by omega))
  have HG1 := Lib.hid (gtrans HG0.out hG1)
  have Hz1 : Hid (w.heap.size + 1 ≤ u1.heap.size) := Lib.hid (by have := hG1.size; have := Hz.out; omega)
  clear hk1 hsz1 hG1 HX0 HG0 HR0 Hz
  by_cases hk : k = 0
  · go_wp2_with fail
    refine (anyImage_any g (N + 1) u1 hR1 (by omega)).mono ?_
    rintro e u3 ⟨W3, H3, P3, A3, c3, ys, rfl, hy, hyc, hr3, hR3, hG3, hA3⟩
    have HX3 : Hid (Bx u3 w.heap.size 25 (imC 0 0 0 (.slice none 0 0))) := Lib.hid (bx_gr HX1.out hG3 (by omega))
    obtain ⟨r0, r1, r2, r3⟩ := HX3.out.im
    have f0 := HX3.out.fz 0
    have f1 := HX3.out.fz 1
    have f2 := HX3.out.fz 2
    have f3 := HX3.out.fz 3
    have HE : Hid (∀ v0 v1 v2 v3 : Value, DrawIm g (N + 305) w (.returned (.agg #[.int .i64 W3, .int .i64 H3, .int .i64 P3, .slice A3 ys.length c3])) ((((u3.setCell ⟨w.heap.size, 0, none⟩ v0).setCell ⟨w.heap.size, 1, none⟩ v1).setCell ⟨w.heap.size, 2, none⟩ v2).setCell ⟨w.heap.size, 3, none⟩ v3)) := Lib.hid fun v0 v1 v2 v3 =>
      draw_store hy hyc hr3 (fun a ha => by have := hA3 a ha; have := Hz1.out; omega) (hR3.more (by omega)) (gtrans HG1.out hG3) hgl (Nat.le_refl _) v0 v1 v2 v3
    clear HX1 HX3 HG1 Hz1 hr3 hR3 hG3 hA3 hy hyc
    go_wp2
    exact bodyPost_ret (v := .agg #[.int .i64 W3, .int .i64 H3, .int .i64 P3, .slice A3 ys.length c3]) (by simp [results, Try.results37, go_sem, r0, r1, r2, r3]) rfl (HE.out _ _ _ _)
  · go_wp2_with fail
    refine (randomImage_any 1 (by omega) (by omega) g (N + 1) u1 hR1 (by omega)).mono ?_
    rintro e u2 ⟨W, H, gb, c, xs, rfl, hW1, hW8, hH1, hH8, hl, hO, hR2, hG2⟩
    have hWH : W * H ≤ 64 := by have := Nat.mul_le_mul hW8 hH8; omega
    have HX2 := Lib.hid (bx_gr HX1.out hG2 (by omega))
    have Hz2 := Lib.hid hG2.size
    have HG2 := Lib.hid hG2
    have hWHp : 0 < W * H := Nat.mul_pos (by omega) (by omega)
    have HL := Lib.hid (show 0 < xs.length ∧ xs.length ≤ 256 by omega)
    clear HX1 hG2 hR1 hl hWH hWHp
    go_wp2_with fail
    refine (spoilImage_any W H 1 (by omega) (by omega) (by omega) gb c xs.length xs rfl HL.out.1 HL.out.2 u1.heap.size g (N + 301) u1 u2 HG2.out rfl hO (by have := Hz1.out; omega) (hR2.more (by omega)) (by omega)).mono ?_
    rintro e u3 ⟨W3, H3, P3, A3, c3, ys, rfl, hy, hyc, hr3, hR3, hG3, hA3⟩
    have HX3 : Hid (Bx u3 w.heap.size 25 (imC 0 0 0 (.slice none 0 0))) := Lib.hid ((hG3.block _ (by have := Hz1.out; omega) (by simp; omega)).trans ((HG2.out.block _ (by have := Hz1.out; omega) (by simp; omega)).symm.trans HX2.out))
    obtain ⟨r0, r1, r2, r3⟩ := HX3.out.im
    have f0 := HX3.out.fz 0
    have f1 := HX3.out.fz 1
    have f2 := HX3.out.fz 2
    have f3 := HX3.out.fz 3
    have HE : Hid (∀ v0 v1 v2 v3 : Value, DrawIm g (N + 305) w (.returned (.agg #[.int .i64 W3, .int .i64 H3, .int .i64 P3, .slice A3 ys.length c3])) ((((u3.setCell ⟨w.heap.size, 0, none⟩ v0).setCell ⟨w.heap.size, 1, none⟩ v1).setCell ⟨w.heap.size, 2, none⟩ v2).setCell ⟨w.heap.size, 3, none⟩ v3)) := Lib.hid fun v0 v1 v2 v3 =>
      draw_store hy hyc hr3 (fun a ha => by have := hA3 a ha; have := Hz1.out; omega) (hR3.more (by omega)) (gtrans HG1.out hG3) hgl (Nat.le_refl _) v0 v1 v2 v3
    clear HX2 HX3 HG1 HG2 HL Hz1 Hz2 hO hR2 hr3 hR3 hG3 hA3 hy hyc
    go_wp2
    exact bodyPost_ret (v := .agg #[.int .i64 W3, .int .i64 H3, .int .i64 P3, .slice A3 ys.length c3]) (by simp [results, Try.results37, go_sem, r0, r1, r2, r3]) rfl (HE.out _ _ _ _)
end Go.Proofs.Ytfeldhhbnhdodaa
