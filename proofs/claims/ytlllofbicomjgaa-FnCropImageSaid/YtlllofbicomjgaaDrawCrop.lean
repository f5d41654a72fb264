/- Contracts of the drawing of a box, and of the arguments of CropImage. -/
import Derived.Test.YtlllofbicomjgaaDrawImg3
namespace Go.Proofs.Ytlllofbicomjgaa
open Go.RowKit
set_option linter.unusedSimpArgs false
set_option linter.unusedVariables false

/-- Drawn: a box of small numbers. -/
def DrawnB (g N : Nat) (w : World) (e : Ending) (w' : World) : Prop :=
  ∃ (bx by_ bw bh : Int), e = .returned (.agg #[.int .i64 bx, .int .i64 by_, .int .i64 bw, .int .i64 bh]) ∧ (-1 ≤ bx ∧ bx ≤ 100) ∧ (-1 ≤ by_ ∧ by_ ≤ 100) ∧ (-1 ≤ bw ∧ bw ≤ 100) ∧ (-1 ≤ bh ∧ bh ≤ 100) ∧ Rdr w' g N ∧ w.grownBy w' (some g)
set_option maxHeartbeats 4000000 in
theorem anyBox_any (g N : Nat) (w : World) (h : Rdr w g N) (hN : N ≤ 10000000) :
    Calls Try.prog 78 #[.pointer (some ⟨g, 0, none⟩)] w (DrawnB g (N + 4) w) := by
  have hgl := h.lt
  obtain ⟨u0, hu⟩ : ∃ u0, u0 = w.alloc (.cells #[.int .i64 0, .int .i64 0, .int .i64 0, .int .i64 0] 35) := ⟨_, rfl⟩
  have Hz : Hid (u0.heap.size = w.heap.size + 1) := Lib.hid (by rw [hu]; simp)
  have HX0 : Hid (Bx u0 w.heap.size 35 #[.int .i64 0, .int .i64 0, .int .i64 0, .int .i64 0]) := Lib.hid (by rw [hu]; exact Bx.new w _ _)
  have HR0 : Hid (Rdr u0 g N) := Lib.hid (by rw [hu]; exact h.alloc _)
  have HG0 : Hid (w.grownBy u0 (some g)) := Lib.hid (by rw [hu]; exact World.grownBy_alloc w _ _)
  have HU := Lib.hid hu
  clear h hu
  go_enter Try.func78, Try.ntmps78
  go_wp2_with fail
  rw [← HU.out]
  clear HU
  refine (one_litB _ [0, 1, 2, -1, 0, 4] 6 6 _ g N u0 (by rw [Hz.out]) HR0.out (by omega) (by simp) (by simp) rfl rfl).mono ?_
  rintro e u1 ⟨bx, rfl, hbx, hR1, hG1⟩
  have hbx' : -1 ≤ bx ∧ bx ≤ 100 := by simp at hbx; omega
  have HX1 := Lib.hid (bx_gr HX0.out hG1 (by omega))
  have HG1 := Lib.hid (gtrans HG0.out hG1)
  clear hbx hG1 HX0 HG0 HR0 Hz
  go_wp2_with fail
  refine (one_litB _ [0, 1, 0, 2, -1] 5 5 _ g (N + 1) u1 rfl hR1 (by omega) (by simp) (by simp) rfl rfl).mono ?_
  rintro e u2 ⟨by_, rfl, hby, hR2, hG2⟩
  have hby' : -1 ≤ by_ ∧ by_ ≤ 100 := by simp at hby; omega
  have HX2 := Lib.hid (bx_gr HX1.out hG2 (by omega))
  have HG2 := Lib.hid (gtrans HG1.out hG2)
  clear hby hG2 HX1 HG1 hR1
  go_wp2_with fail
  refine (one_litB _ [1, 2, 3, 1, 0, 16] 6 6 _ g (N + 2) u2 rfl hR2 (by omega) (by simp) (by simp) rfl rfl).mono ?_
  rintro e u3 ⟨bw, rfl, hbw, hR3, hG3⟩
  have hbw' : -1 ≤ bw ∧ bw ≤ 100 := by simp at hbw; omega
  have HX3 := Lib.hid (bx_gr HX2.out hG3 (by omega))
  have HG3 := Lib.hid (gtrans HG2.out hG3)
  clear hbw hG3 HX2 HG2 hR2
  go_wp2_with fail
  refine (one_litB _ [1, 2, 1, 3, 0] 5 5 _ g (N + 3) u3 rfl hR3 (by omega) (by simp) (by simp) rfl rfl).mono ?_
  rintro e u4 ⟨bh, rfl, hbh, hR4, hG4⟩
  have hbh' : -1 ≤ bh ∧ bh ≤ 100 := by simp at hbh; omega
  have HX4 := Lib.hid (bx_gr HX3.out hG4 (by omega))
  have HG4 := Lib.hid (gtrans HG3.out hG4)
  have HR4 := Lib.hid hR4
  obtain ⟨r0, r1, r2, r3⟩ := bx4 HX4.out
  have f0 := HX4.out.fz 0
  have f1 := HX4.out.fz 1
  have f2 := HX4.out.fz 2
  have f3 := HX4.out.fz 3
  have HE : Hid (∀ v0 v1 v2 v3 : Value, DrawnB g (N + 4) w (.returned (.agg #[.int .i64 bx, .int .i64 by_, .int .i64 bw, .int .i64 bh])) ((((u4.setCell ⟨w.heap.size, 0, none⟩ v0).setCell ⟨w.heap.size, 1, none⟩ v1).setCell ⟨w.heap.size, 2, none⟩ v2).setCell ⟨w.heap.size, 3, none⟩ v3)) := Lib.hid fun v0 v1 v2 v3 => by
    have hG4 := gtrans (gtrans (gtrans (hset w.heap.size u4 0 v0) (hset w.heap.size _ 1 v1)) (hset w.heap.size _ 2 v2)) (hset w.heap.size _ 3 v3)
    exact ⟨bx, by_, bw, bh, rfl, hbx', hby', hbw', hbh', HR4.out.grown hG4 (fun k hk => by injection hk with hk; omega), gmix HG4.out hG4 (fun k hk => by injection hk with hk; omega)⟩
  clear hbh hG4 HX3 HX4 HG3 HG4 hR3 hR4 HR4
  go_wp2
  exact bodyPost_ret (v := .agg #[.int .i64 bx, .int .i64 by_, .int .i64 bw, .int .i64 bh]) (by simp [results, Try.results78, go_sem, r0, r1, r2, r3]) rfl (HE.out _ _ _ _)
/-- Drawn from a code: an image and a box. -/
def DrawnCrop (w : World) (e : Ending) (w' : World) : Prop :=
  ∃ (W H P : Int) (A : Option Addr) (c : Nat) (xs : List Int) (bx by_ bw bh : Int), e = .returned (.tuple #[.agg #[.int .i64 W, .int .i64 H, .int .i64 P, .slice A xs.length c], .agg #[.int .i64 bx, .int .i64 by_, .int .i64 bw, .int .i64 bh]]) ∧ (xs.length ≤ 256 ∧ (-1 ≤ bx ∧ bx ≤ 100) ∧ (-1 ≤ by_ ∧ by_ ≤ 100) ∧ (-1 ≤ bw ∧ bw ≤ 100) ∧ (-1 ≤ bh ∧ bh ≤ 100)) ∧ xs.length ≤ c ∧ Rds .i64 w' w'.heap.size A xs ∧ Below w.heap.size w w'
set_option maxHeartbeats 8000000 in
theorem drawCrop_any (A : Option Addr) (c : Nat) (bs : List Int) (w : World) (hc : bs.length ≤ c) (h : Rdw .u8 w w.heap.size A bs) :
    Calls Try.prog 22 #[.slice A bs.length c] w (DrawnCrop w) := by
  obtain ⟨u0, hu⟩ : ∃ u0, u0 = (w.alloc (.cells #[.int .i64 0, .int .i64 0, .int .i64 0, .slice none 0 0] 26)).alloc (.cells #[.int .i64 0, .int .i64 0, .int .i64 0, .int .i64 0] 35) := ⟨_, rfl⟩
  have hz : u0.heap.size = w.heap.size + 2 := by rw [hu]; simp
  obtain ⟨rb, hrb⟩ : ∃ rb, rb = w.heap.size + 1 := ⟨_, rfl⟩
  have HX0 : Hid (Bx u0 w.heap.size 26 (imC 0 0 0 (.slice none 0 0))) := Lib.hid (by rw [hu]; exact (Bx.new w _ _).alloc _)
  have HY0 : Hid (Bx u0 rb 35 #[.int .i64 0, .int .i64 0, .int .i64 0, .int .i64 0]) := Lib.hid (by rw [hu, hrb]; have := Bx.new (w.alloc (.cells #[.int .i64 0, .int .i64 0, .int .i64 0, .slice none 0 0] 26)) 35 #[.int .i64 0, .int .i64 0, .int .i64 0, .int .i64 0]; simpa using this)
  have HB0 : Hid (Below w.heap.size w u0) := Lib.hid (by rw [hu]; exact ((Below.refl _ _).alloc (Nat.le_refl _) _).alloc (by simp) _)
  have Hh : Hid (Rdw .u8 u0 u0.heap.size A bs) := Lib.hid ⟨(h.1.below HB0.out).more HB0.out.size, h.2⟩
  have HU := Lib.hid hu
  have Hrb := Lib.hid hrb
  clear h hu hrb
  go_enter Try.func22, Try.ntmps22
  go_wp2_with fail
  rw [← HU.out]
  (try rw [← Hrb.out])
  clear HU
  refine (newReader_any A c bs u0 hc Hh.out).mono ?_
  rintro e u1 ⟨rfl, hr1, hb1, hs1⟩
  have HX1 := Lib.hid (HX0.out.below hb1)
  have HY1 := Lib.hid (HY0.out.below hb1)
  have HB1 := Lib.hid (HB0.out.trans (hb1.mono HB0.out.size))
  obtain ⟨g, hg⟩ : ∃ g, g = u0.heap.size := ⟨_, rfl⟩
  rw [← hg] at hr1 ⊢
  have hgw : g = w.heap.size + 2 := by omega
  have hsz1 : u1.heap.size = w.heap.size + 3 := by omega
  have Hg := Lib.hid hgw
  have Hs1 := Lib.hid hsz1
  clear hs1 hb1 HX0 HY0 HB0 Hh hg hgw hsz1 hz
  go_wp2_with fail
  refine (anyImage_any g 0 u1 hr1 (by omega)).mono ?_
  rintro e u3 ⟨W3, H3, P3, A3, c3, ys, rfl, hy, hyc, hr3, hR3, hG3, hA3⟩
  obtain ⟨u4, hu4⟩ : ∃ u4, u4 = u3.alloc (.cells #[.int .i64 W3, .int .i64 H3, .int .i64 P3, .slice A3 ys.length c3] 26) := ⟨_, rfl⟩
  obtain ⟨b3, hb3⟩ : ∃ b3, b3 = u3.heap.size := ⟨_, rfl⟩
  have hz3 : w.heap.size + 3 ≤ u3.heap.size := by have := hG3.size; have := Hs1.out; omega
  have HX4 : Hid (Bx u4 w.heap.size 26 (imC 0 0 0 (.slice none 0 0))) := Lib.hid (by rw [hu4]; exact (bx_gr HX1.out hG3 (by have := Hg.out; omega)).alloc _)
  have HY4 : Hid (Bx u4 rb 35 #[.int .i64 0, .int .i64 0, .int .i64 0, .int .i64 0]) := Lib.hid (by rw [hu4]; exact (bx_gr HY1.out hG3 (by have := Hg.out; have := Hrb.out; omega)).alloc _)
  have HT4 : Hid (Bx u4 b3 26 (imC W3 H3 P3 (.slice A3 ys.length c3))) := Lib.hid (by rw [hu4, hb3]; exact Bx.new u3 _ _)
  have HR4 : Hid (Rdr u4 g 304) := Lib.hid (by rw [hu4]; exact hR3.alloc _)
  have Hr4 : Hid (Rds .i64 u4 u4.heap.size A3 ys) := Lib.hid (by rw [hu4]; exact (hr3.alloc (Nat.le_refl _) _).more (by simp))
  have HB4 : Hid (Below w.heap.size w u4) := Lib.hid (by rw [hu4]; exact (HB1.out.grown hG3 HB1.out.size (fun k hk => by injection hk with hk; have := Hg.out; omega)).alloc (by omega) _)
  have hA4 : ∀ a : Addr, A3 = some a → w.heap.size + 3 ≤ a.block := fun a ha => by have := hA3 a ha; have := Hs1.out; omega
  have HA := Lib.hid hA4
  have hb3g : g < b3 := by have := Hg.out; omega
  have hnb : b3 ≠ w.heap.size := by have := Hg.out; omega
  have hnb2 : b3 ≠ rb := by have := Hg.out; have := Hrb.out; omega
  have hnrx : rb ≠ w.heap.size := by have := Hrb.out; omega
  have HU4 := Lib.hid hu4
  have HU3 := Lib.hid hb3
  clear HX1 HY1 HB1 hr1 hr3 hR3 hG3 hA3 hA4 hu4 hb3 hz3
  obtain ⟨t0, t1, t2, t3⟩ := HT4.out.im
  have htl := HT4.out.lt
  go_wp2
  (try rw [← HU3.out])
  rw [← HU4.out]
  clear HU4 HU3
  go_region_held3 (fun w' => w'.cell? ⟨b3, 0, none⟩ = some (.int .i64 W3) ∧ w'.cell? ⟨b3, 1, none⟩ = some (.int .i64 H3) ∧ w'.cell? ⟨b3, 2, none⟩ = some (.int .i64 P3) ∧ w'.cell? ⟨b3, 3, none⟩ = some (.slice A3 ys.length c3))
    (first | (with_reducible exact ⟨k0, k1, k2, k3⟩) | (with_reducible exact ⟨(sc4 hnb _ _ _ _).trans k0, (sc4 hnb _ _ _ _).trans k1, (sc4 hnb _ _ _ _).trans k2, (sc4 hnb _ _ _ _).trans k3⟩) | (with_reducible exact ⟨(sc4 hnb2 _ _ _ _).trans k0, (sc4 hnb2 _ _ _ _).trans k1, (sc4 hnb2 _ _ _ _).trans k2, (sc4 hnb2 _ _ _ _).trans k3⟩) | (with_reducible exact ⟨(sc4 hnb2 _ _ _ _).trans ((sc4 hnb _ _ _ _).trans k0), (sc4 hnb2 _ _ _ _).trans ((sc4 hnb _ _ _ _).trans k1), (sc4 hnb2 _ _ _ _).trans ((sc4 hnb _ _ _ _).trans k2), (sc4 hnb2 _ _ _ _).trans ((sc4 hnb _ _ _ _).trans k3)⟩) | (with_reducible exact ⟨(sc4 hnb _ _ _ _).trans ((sc4 hnb2 _ _ _ _).trans k0), (sc4 hnb _ _ _ _).trans ((sc4 hnb2 _ _ _ _).trans k1), (sc4 hnb _ _ _ _).trans ((sc4 hnb2 _ _ _ _).trans k2), (sc4 hnb _ _ _ _).trans ((sc4 hnb2 _ _ _ _).trans k3)⟩) | exact ⟨t0, t1, t2, t3⟩ | go_keep)
    (first | (go_at_call 78; refine (anyBox_any g 304 u4.drew (by exact HR4.out) (by omega)).mono ?_; rintro e u5 ⟨bx, by_, bw, bh, rfl, hb1, hb2, hb3', hb4, hR5, hG5⟩; have HT5 := Lib.hid (bx_gr (w := u4.drew) HT4.out hG5 (by omega)); obtain ⟨k0, k1, k2, k3⟩ := HT5.out.im; have HX5 := Lib.hid (bx_gr (w := u4.drew) HX4.out hG5 (by have := Hg.out; omega)); have HY5 := Lib.hid (bx_gr (w := u4.drew) HY4.out hG5 (by have := Hg.out; have := Hrb.out; omega)); have HG5 := Lib.hid hG5; obtain ⟨r0, r1, r2, r3⟩ := HX5.out.im; have f0 := HX5.out.fz 0; have f1 := HX5.out.fz 1; have f2 := HX5.out.fz 2; have f3 := HX5.out.fz 3; obtain ⟨s0, s1, s2, s3⟩ := bx4 HY5.out; have q0 := HY5.out.fz 0; have q1 := HY5.out.fz 1; have q2 := HY5.out.fz 2; have q3 := HY5.out.fz 3; clear hR5 hG5))
  all_goals
    have hA5 : ∀ a : Addr, A3 = some a → a.block ≠ w.heap.size ∧ a.block ≠ rb := fun a ha => by have := HA.out a ha; have := Hrb.out; omega
    have HE : Hid (∀ v0 v1 v2 v3 y0 y1 y2 y3 : Value, DrawnCrop w (.returned (.tuple #[.agg #[.int .i64 W3, .int .i64 H3, .int .i64 P3, .slice A3 ys.length c3], .agg #[.int .i64 bx, .int .i64 by_, .int .i64 bw, .int .i64 bh]])) ((((((((u5.setCell ⟨w.heap.size, 0, none⟩ v0).setCell ⟨w.heap.size, 1, none⟩ v1).setCell ⟨w.heap.size, 2, none⟩ v2).setCell ⟨w.heap.size, 3, none⟩ v3).setCell ⟨rb, 0, none⟩ y0).setCell ⟨rb, 1, none⟩ y1).setCell ⟨rb, 2, none⟩ y2).setCell ⟨rb, 3, none⟩ y3) ∧ DrawnCrop w (.returned (.tuple #[.agg #[.int .i64 W3, .int .i64 H3, .int .i64 P3, .slice A3 ys.length c3], .agg #[.int .i64 bx, .int .i64 by_, .int .i64 bw, .int .i64 bh]])) ((((((((u5.setCell ⟨rb, 0, none⟩ y0).setCell ⟨rb, 1, none⟩ y1).setCell ⟨rb, 2, none⟩ y2).setCell ⟨rb, 3, none⟩ y3).setCell ⟨w.heap.size, 0, none⟩ v0).setCell ⟨w.heap.size, 1, none⟩ v1).setCell ⟨w.heap.size, 2, none⟩ v2).setCell ⟨w.heap.size, 3, none⟩ v3)) := Lib.hid fun v0 v1 v2 v3 y0 y1 y2 y3 => by
      have hG : u4.grownBy u5 (some g) := ⟨HG5.out.os, HG5.out.tape, HG5.out.output, HG5.out.size, HG5.out.block⟩
      have hB : Below w.heap.size w u5 := HB4.out.grown hG HB4.out.size (fun k hk => by injection hk with hk; have := Hg.out; omega)
      have hr : Rds .i64 u5 u5.heap.size A3 ys := (Rds.offG Hr4.out (Nat.le_refl _) (lo := w.heap.size + 3) (fun a ha => HA.out a ha) hG (by have := Hg.out; omega)).more hG.size
      have hrbw : w.heap.size ≤ rb := by have := Hrb.out; omega
      exact ⟨⟨W3, H3, P3, A3, c3, ys, bx, by_, bw, bh, rfl, ⟨hy.1, hb1, hb2, hb3', hb4⟩, hyc, rds_sets4 (rds_sets4 hr (fun a ha => (hA5 a ha).1) v0 v1 v2 v3) (fun a ha => (hA5 a ha).2) y0 y1 y2 y3, bel_sets4 (bel_sets4 hB (Nat.le_refl _) v0 v1 v2 v3) hrbw y0 y1 y2 y3⟩,
        ⟨W3, H3, P3, A3, c3, ys, bx, by_, bw, bh, rfl, ⟨hy.1, hb1, hb2, hb3', hb4⟩, hyc, rds_sets4 (rds_sets4 hr (fun a ha => (hA5 a ha).2) y0 y1 y2 y3) (fun a ha => (hA5 a ha).1) v0 v1 v2 v3, bel_sets4 (bel_sets4 hB hrbw y0 y1 y2 y3) (Nat.le_refl _) v0 v1 v2 v3⟩⟩
    clear hA5 HT4 HX4 HY4 HR4 Hr4 HB4 HT5 HG5 t0 t1 t2 t3 k0 k1 k2 k3
    go_wp2
    refine bodyPost_ret (v := .tuple #[.agg #[.int .i64 W3, .int .i64 H3, .int .i64 P3, .slice A3 ys.length c3], .agg #[.int .i64 bx, .int .i64 by_, .int .i64 bw, .int .i64 bh]]) (by simp [results, Try.results22, go_sem, r0, r1, r2, r3, s0, s1, s2, s3]) rfl ?_
    first | exact (HE.out _ _ _ _ _ _ _ _).1 | exact (HE.out _ _ _ _ _ _ _ _).2
end Go.Proofs.Ytlllofbicomjgaa
