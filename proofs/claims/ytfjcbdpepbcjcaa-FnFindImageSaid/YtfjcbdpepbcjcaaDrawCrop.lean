/- Contracts of the drawing of a box, and of the arguments of CropImage. -/
import Derived.Test.YtfjcbdpepbcjcaaDrawImg3
namespace Go.Proofs.Ytfjcbdpepbcjcaa
open Go.RowKit
set_option linter.unusedSimpArgs false
set_option linter.unusedVariables false

/-- Drawn: a box of small numbers. -/
def DrawnB (g N : Nat) (w : World) (e : Ending) (w' : World) : Prop :=
  ∃ (bx by_ bw bh : Int), e = .returned (.agg #[.int .i64 bx, .int .i64 by_, .int .i64 bw, .int .i64 bh]) ∧ (-1 ≤ bx ∧ bx ≤ 100) ∧ (-1 ≤ by_ ∧ by_ ≤ 100) ∧ (-1 ≤ bw ∧ bw ≤ 100) ∧ (-1 ≤ bh ∧ bh ≤ 100) ∧ Rdr w' g N ∧ w.grownBy w' (some g)
set_option maxHeartbeats 4000000 in
theorem anyBox_any (g N : Nat) (w : World) (h : Rdr w g N) (hN : N ≤ 10000000) :
    Calls Try.prog 38 #[.pointer (some ⟨g, 0, none⟩)] w (DrawnB g (N + 4) w) := by
  have hgl := h.lt
  obtain ⟨u0, hu⟩ : ∃ u0, u0 = w.alloc (.cells #[.int .i64 0, .int .i64 0, .int .i64 0, .int .i64 0] 27) := ⟨_, rfl⟩
  have Hz : Hid (u0.heap.size = w.heap.size + 1) := Lib.hid (by rw [hu]; simp)
  have HX0 : Hid (Bx u0 w.heap.size 27 #[.int .i64 0, .int .i64 0, .int .i64 0, .int .i64 0]) := Lib.hid (by rw [hu]; exact Bx.new w _ _)
  have HR0 : Hid (Rdr u0 g N) := Lib.hid (by rw [hu]; exact h.alloc _)
  have HG0 : Hid (w.grownBy u0 (some g)) := Lib.hid (by rw [hu]; exact World.grownBy_alloc w _ _)
  have HU := Lib.hid hu
  clear h hu
  go_enter Try.func38, Try.ntmps38
  go_wp2_with fail
  rw [← HU.out]
  clear HU
  refine (one_litB _ [0, 1, 2, -1, 0, 4] 6 6 _ g N u0 (by rw [Hz.out]) HR0.out (by omega) (by simp) (by simp) rfl rfl).mono ?_
  rintro e u1 ⟨bx, rfl, hbx, hR1, hG1⟩
  have hbx' : -1 ≤ bx ∧ bx ≤ 100 := by simp at hbx; omega
  have HX1 := Lib.hid (bx_gr HX0.out hG1 (by omega))
  have HG1 := Lib.hid (gtrans HG0.out hG1)
  clear hbx hG1 HX0 HG0 HR0 Hz
  go_wp2_with fail
  refine (one_litB _ [0, 1, 0, 2, -1] 5 5 _ g (N + 1) u1 rfl hR1 (by omega) (by simp) (by simp) rfl rfl).mono ?_
  rintro e u2 ⟨by_, rfl, hby, hR2, hG2⟩
  have hby' : -1 ≤ by_ ∧ by_ ≤ 100 := by simp at hby; omega
  have HX2 := Lib.hid (bx_gr HX1.out hG2 (by omega))
  have HG2 := Lib.hid (gtrans HG1.out hG2)
  clear hby hG2 HX1 HG1 hR1
  go_wp2_with fail
  refine (one_litB _ [1, 2, 3, 1, 0, 16] 6 6 _ g (N + 2) u2 rfl hR2 (by omega) (by simp) (by simp) rfl rfl).mono ?_
  rintro e u3 ⟨bw, rfl, hbw, hR3, hG3⟩
  have hbw' : -1 ≤ bw ∧ bw ≤ 100 := by simp at hbw; omega
  have HX3 := Lib.hid (bx_gr HX2.out hG3 (by omega))
  have HG3 := Lib.hid (gtrans HG2.out hG3)
  clear hbw hG3 HX2 HG2 hR2
  go_wp2_with fail
  refine (one_litB _ [1, 2, 1, 3, 0] 5 5 _ g (N + 3) u3 rfl hR3 (by omega) (by simp) (by simp) rfl rfl).mono ?_
  rintro e u4 ⟨bh, rfl, hbh, hR4, hG4⟩
  have hbh' : -1 ≤ bh ∧ bh ≤ 100 := by simp at hbh; omega
  have HX4 := Lib.hid (bx_gr HX3.out hG4 (by omega))
  have HG4 := Lib.hid (gtrans HG3.out hG4)
  have HR4 := Lib.hid hR4
  obtain ⟨r0, r1, r2, r3⟩ := bx4 HX4.out
  have f0 := HX4.out.fz 0
  have f1 := HX4.out.fz 1
  have f2 := HX4.out.fz 2
  have f3 := HX4.out.fz 3
  have HE : Hid (∀ v0 v1 v2 v3 : Value, DrawnB g (N + 4) w (.returned (.agg #[.int .i64 bx, .int .i64 by_, .int .i64 bw, .int .i64 bh])) ((((u4.setCell ⟨w.heap.size, 0, none⟩ v0).setCell ⟨w.heap.size, 1, none⟩ v1).setCell ⟨w.heap.size, 2, none⟩ v2).setCell ⟨w.heap.size, 3, none⟩ v3)) := Lib.hid fun v0 v1 v2 v3 => by
    have hG4 := gtrans (gtrans (gtrans (hset w.heap.size u4 0 v0) (hset w.heap.size _ 1 v1)) (hset w.heap.size _ 2 v2)) (hset w.heap.size _ 3 v3)
    exact ⟨bx, by_, bw, bh, rfl, hbx', hby', hbw', hbh', HR4.out.grown hG4 (fun k hk => by injection hk with hk; omega), gmix HG4.out hG4 (fun k hk => by injection hk with hk; omega)⟩
  clear hbh hG4 HX3 HX4 HG3 HG4 hR3 hR4 HR4
  go_wp2
  exact bodyPost_ret (v := .agg #[.int .i64 bx, .int .i64 by_, .int .i64 bw, .int .i64 bh]) (by simp [results, Try.results38, go_sem, r0, r1, r2, r3]) rfl (HE.out _ _ _ _)
end Go.Proofs.Ytfjcbdpepbcjcaa
