/- Contract of the drawing of an image and two sides. -/
import Derived.Test.YtfjcbdpepbcjcaaDrawImg3
namespace Go.Proofs.Ytfjcbdpepbcjcaa
open Go.RowKit
set_option linter.unusedSimpArgs false
set_option linter.unusedVariables false

set_option maxHeartbeats 2000000 in
theorem anySide_any (g N : Nat) (w : World) (h : Rdr w g N) (hN : N ≤ 1000000000) :
    Calls Try.prog 74 #[.pointer (some ⟨g, 0, none⟩)] w fun e w' => ∃ k : Int, e = .returned (.int .i64 k) ∧ Rdr w' g (N + 1) ∧ w.grownBy w' (some g) := by
  go_enter Try.func74, Try.ntmps74
  go_wp2_with fail
  refine (one_lit _ [1, 2, 3, 4, 6, 8, 16, 17, 0] _ _ g N w h hN (by simp) (by simp) rfl rfl).mono ?_
  rintro e w' ⟨k, rfl, hk, hr, hg⟩
  clear hk h
  go_wp2
  go_ret
  exact ⟨k, rfl, hr, hg⟩
/-- The same, and the image's numbers lie in memory of the call's own. -/
def DrawnXYa (w : World) (e : Ending) (w' : World) : Prop :=
  ∃ (W H P : Int) (A : Option Addr) (c : Nat) (xs : List Int) (x y : Int), e = .returned (.tuple #[.agg #[.int .i64 W, .int .i64 H, .int .i64 P, .slice A xs.length c], .int .i64 x, .int .i64 y]) ∧ xs.length ≤ 256 ∧ xs.length ≤ c ∧ Rds .i64 w' w'.heap.size A xs ∧ Below w.heap.size w w' ∧ ∀ a : Addr, A = some a → w.heap.size ≤ a.block
set_option maxHeartbeats 8000000 in
theorem drawSca_at (A : Option Addr) (c : Nat) (bs : List Int) (w : World) (hc : bs.length ≤ c) (h : Rdw .u8 w w.heap.size A bs) :
    Calls Try.prog 48 #[.slice A bs.length c] w (DrawnXYa w) := by
  obtain ⟨u0, hu⟩ : ∃ u0, u0 = w.alloc (.cells #[.int .i64 0, .int .i64 0, .int .i64 0, .slice none 0 0] 30) := ⟨_, rfl⟩
  have hz : u0.heap.size = w.heap.size + 1 := by rw [hu]; simp
  have HX0 : Hid (Bx u0 w.heap.size 30 (imC 0 0 0 (.slice none 0 0))) := Lib.hid (by rw [hu]; exact Bx.new w _ _)
  have HB0 : Hid (Below w.heap.size w u0) := Lib.hid (by rw [hu]; exact (Below.refl _ _).alloc (Nat.le_refl _) _)
  have Hh : Hid (Rdw .u8 u0 u0.heap.size A bs) := Lib.hid ⟨(h.1.below HB0.out).more HB0.out.size, h.2⟩
  have HU := Lib.hid hu
  clear h hu
  go_enter Try.func48, Try.ntmps48
  go_wp2_with fail
  rw [← HU.out]
  clear HU
  refine (newReader_any A c bs u0 hc Hh.out).mono ?_
  rintro e u1 ⟨rfl, hr1, hb1, hs1⟩
  have HX1 := Lib.hid (HX0.out.below hb1)
  have HB1 := Lib.hid (HB0.out.trans (hb1.mono HB0.out.size))
  obtain ⟨g, hg⟩ : ∃ g, g = u0.heap.size := ⟨_, rfl⟩
  rw [← hg] at hr1 ⊢
  have hgw : g = w.heap.size + 1 := by omega
  have hsz1 : u1.heap.size = w.heap.size + 2 := by omega
  have Hg := Lib.hid hgw
  have Hs1 := Lib.hid hsz1
  clear hs1 hb1 HX0 HB0 Hh hg hgw hsz1 hz
  go_wp2_with fail
  refine (anyImage_any g 0 u1 hr1 (by omega)).mono ?_
  rintro e u3 ⟨W3, H3, P3, A3, c3, ys, rfl, hy, hyc, hr3, hR3, hG3, hA3⟩
  obtain ⟨u4, hu4⟩ : ∃ u4, u4 = u3.alloc (.cells #[.int .i64 W3, .int .i64 H3, .int .i64 P3, .slice A3 ys.length c3] 30) := ⟨_, rfl⟩
  obtain ⟨b3, hb3⟩ : ∃ b3, b3 = u3.heap.size := ⟨_, rfl⟩
  have hz3 : w.heap.size + 2 ≤ u3.heap.size := by have := hG3.size; have := Hs1.out; omega
  have HX4 : Hid (Bx u4 w.heap.size 30 (imC 0 0 0 (.slice none 0 0))) := Lib.hid (by rw [hu4]; exact (bx_gr HX1.out hG3 (by have := Hg.out; omega)).alloc _)
  have HT4 : Hid (Bx u4 b3 30 (imC W3 H3 P3 (.slice A3 ys.length c3))) := Lib.hid (by rw [hu4, hb3]; exact Bx.new u3 _ _)
  have HR4 : Hid (Rdr u4 g 304) := Lib.hid (by rw [hu4]; exact hR3.alloc _)
  have HY4 : Hid (Rds .i64 u4 u4.heap.size A3 ys) := Lib.hid (by rw [hu4]; exact (hr3.alloc (Nat.le_refl _) _).more (by simp))
  have HB4 : Hid (Below w.heap.size w u4) := Lib.hid (by rw [hu4]; exact (HB1.out.grown hG3 HB1.out.size (fun k hk => by injection hk with hk; have := Hg.out; omega)).alloc (by omega) _)
  have hA4 : ∀ a : Addr, A3 = some a → w.heap.size + 2 ≤ a.block := fun a ha => by have := hA3 a ha; have := Hs1.out; omega
  have HA := Lib.hid hA4
  have hb3g : g < b3 := by have := Hg.out; omega
  have hnb : b3 ≠ w.heap.size := by have := Hg.out; omega
  have hz4 : w.heap.size + 2 ≤ u4.heap.size := by rw [hu4]; simp; omega
  have HU4 := Lib.hid hu4
  have HU3 := Lib.hid hb3
  clear HX1 HB1 hr1 hr3 hR3 hG3 hA3 hA4 hu4 hb3 hz3
  go_wp2_with fail
  (try rw [← HU3.out])
  rw [← HU4.out]
  clear HU4
  refine (anySide_any g 304 u4 HR4.out (by omega)).mono ?_
  rintro e u5 ⟨x, rfl, hR5, hG5⟩
  have HT5 := Lib.hid (bx_gr HT4.out hG5 (by omega))
  have HX5 := Lib.hid (bx_gr HX4.out hG5 (by have := Hg.out; omega))
  have HG5 := Lib.hid hG5
  have HR5 := Lib.hid hR5
  clear HT4 HX4 hR5 hG5 HR4
  obtain ⟨t0, t1, t2, t3⟩ := HT5.out.im
  have htl := HT5.out.lt
  go_wp2
  (try rw [← HU3.out])
  clear HU3
  go_region_held3 (fun w' => w'.cell? ⟨b3, 0, none⟩ = some (.int .i64 W3) ∧ w'.cell? ⟨b3, 1, none⟩ = some (.int .i64 H3) ∧ w'.cell? ⟨b3, 2, none⟩ = some (.int .i64 P3) ∧ w'.cell? ⟨b3, 3, none⟩ = some (.slice A3 ys.length c3))
    (first | (with_reducible exact ⟨k0, k1, k2, k3⟩) | (with_reducible exact ⟨(sc4 hnb _ _ _ _).trans k0, (sc4 hnb _ _ _ _).trans k1, (sc4 hnb _ _ _ _).trans k2, (sc4 hnb _ _ _ _).trans k3⟩) | exact ⟨t0, t1, t2, t3⟩ | go_keep)
    (first | (go_at_call 74; refine (anySide_any g 305 u5.drew (by exact HR5.out) (by omega)).mono ?_; rintro e u6 ⟨y, rfl, hR6, hG6⟩; have HT6 := Lib.hid (bx_gr (w := u5.drew) HT5.out hG6 (by omega)); obtain ⟨k0, k1, k2, k3⟩ := HT6.out.im; have HX6 := Lib.hid (bx_gr (w := u5.drew) HX5.out hG6 (by have := Hg.out; omega)); have HG6 : Hid (u4.grownBy u6 (some g)) := Lib.hid (gtrans (b := u5.drew) ⟨HG5.out.os, HG5.out.tape, HG5.out.output, HG5.out.size, HG5.out.block⟩ hG6); obtain ⟨r0, r1, r2, r3⟩ := HX6.out.im; have f0 := HX6.out.fz 0; have f1 := HX6.out.fz 1; have f2 := HX6.out.fz 2; have f3 := HX6.out.fz 3; clear hR6 hG6))
  all_goals
    have HE : Hid (∀ v0 v1 v2 v3 : Value, DrawnXYa w (.returned (.tuple #[.agg #[.int .i64 W3, .int .i64 H3, .int .i64 P3, .slice A3 ys.length c3], .int .i64 x, .int .i64 y])) ((((u6.setCell ⟨w.heap.size, 0, none⟩ v0).setCell ⟨w.heap.size, 1, none⟩ v1).setCell ⟨w.heap.size, 2, none⟩ v2).setCell ⟨w.heap.size, 3, none⟩ v3)) := Lib.hid fun v0 v1 v2 v3 => by
      have hG : u4.grownBy u6 (some g) := HG6.out
      have hB : Below w.heap.size w u6 := HB4.out.grown hG HB4.out.size (fun k hk => by injection hk with hk; have := Hg.out; omega)
      have hr : Rds .i64 u6 u6.heap.size A3 ys := (Rds.offG HY4.out (Nat.le_refl _) (lo := w.heap.size + 2) (fun a ha => HA.out a ha) hG (by have := Hg.out; omega)).more hG.size
      exact ⟨W3, H3, P3, A3, c3, ys, x, y, rfl, hy.1, hyc, rds_sets4 hr (fun a ha => by have := HA.out a ha; omega) v0 v1 v2 v3, bel_sets4 hB (Nat.le_refl _) v0 v1 v2 v3, fun a ha => by have := HA.out a ha; omega⟩
    clear HX5 HT5 HG5 HX6 HT6 HG6 HR5 HY4 HB4 t0 t1 t2 t3 k0 k1 k2 k3
    go_wp2
    exact bodyPost_ret (v := .tuple #[.agg #[.int .i64 W3, .int .i64 H3, .int .i64 P3, .slice A3 ys.length c3], .int .i64 x, .int .i64 y]) (by simp [results, Try.results48, go_sem, r0, r1, r2, r3]) rfl (HE.out _ _ _ _)
theorem drawSca_any (A : Option Addr) (c : Nat) (bs : List Int) (w : World) (hc : bs.length ≤ c) (h : Rdw .u8 w w.heap.size A bs) :
    Calls Try.prog 48 #[.slice A bs.length c] w (DrawnImXY w) :=
  (drawSca_at A c bs w hc h).mono fun e w' ⟨W, H, P, A, c, xs, x, y, he, h1, h2, h3, h4, _⟩ => ⟨W, H, P, A, c, xs, x, y, he, h1, h2, h3, h4⟩
set_option maxHeartbeats 4000000 in
theorem dRep_any (A : Option Addr) (c : Nat) (bs : List Int) (w : World) (hc : bs.length ≤ c) (h : Rdw .u8 w w.heap.size A bs) :
    Calls Try.prog 21 #[.slice A bs.length c] w (DrawnImXY w) := by
  obtain ⟨u0, hu⟩ : ∃ u0, u0 = w.alloc (.cells #[.int .i64 0, .int .i64 0, .int .i64 0, .slice none 0 0] 30) := ⟨_, rfl⟩
  have Hz : Hid (u0.heap.size = w.heap.size + 1) := Lib.hid (by rw [hu]; simp)
  have HX0 : Hid (Bx u0 w.heap.size 30 (imC 0 0 0 (.slice none 0 0))) := Lib.hid (by rw [hu]; exact Bx.new w _ _)
  have HB0 : Hid (Below w.heap.size w u0) := Lib.hid (by rw [hu]; exact (Below.refl _ _).alloc (Nat.le_refl _) _)
  have Hh : Hid (Rdw .u8 u0 u0.heap.size A bs) := Lib.hid ⟨(h.1.below HB0.out).more HB0.out.size, h.2⟩
  have HU := Lib.hid hu
  clear h hu
  go_enter Try.func21, Try.ntmps21
  go_wp2_with fail
  rw [← HU.out]
  clear HU
  refine (drawSca_at A c bs u0 hc Hh.out).mono ?_
  rintro e u1 ⟨W, H, P, A1, c1, xs, a, b, rfl, hx, hxc, hr, hbel, hA⟩
  have HX1 := HX0.out.below hbel
  obtain ⟨r0, r1, r2, r3⟩ := HX1.im
  have f0 := HX1.fz 0
  have f1 := HX1.fz 1
  have f2 := HX1.fz 2
  have f3 := HX1.fz 3
  have HE : Hid (∀ v0 v1 v2 v3 : Value, DrawnImXY w (.returned (.tuple #[.agg #[.int .i64 W, .int .i64 H, .int .i64 P, .slice A1 xs.length c1], .int .i64 a, .int .i64 b])) ((((u1.setCell ⟨w.heap.size, 0, none⟩ v0).setCell ⟨w.heap.size, 1, none⟩ v1).setCell ⟨w.heap.size, 2, none⟩ v2).setCell ⟨w.heap.size, 3, none⟩ v3)) := Lib.hid fun v0 v1 v2 v3 =>
    ⟨W, H, P, A1, c1, xs, a, b, rfl, hx, hxc, rds_sets4 hr (fun d hd => by have := hA d hd; have := Hz.out; omega) v0 v1 v2 v3, bel_sets4 (HB0.out.trans (hbel.mono HB0.out.size)) (Nat.le_refl _) v0 v1 v2 v3⟩
  clear HX1 HX0 HB0 Hh hr hbel hA
  go_wp2
  exact bodyPost_ret (v := .tuple #[.agg #[.int .i64 W, .int .i64 H, .int .i64 P, .slice A1 xs.length c1], .int .i64 a, .int .i64 b]) (by simp [results, Try.results21, go_sem, r0, r1, r2, r3]) rfl (HE.out _ _ _ _)
end Go.Proofs.Ytfjcbdpepbcjcaa
