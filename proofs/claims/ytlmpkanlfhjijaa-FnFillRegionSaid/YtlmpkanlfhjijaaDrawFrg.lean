/- Contract of the drawing of an image, a region and a pixel. -/
import Derived.Test.YtlmpkanlfhjijaaDrawImg3
import Derived.Test.YtlmpkanlfhjijaaDrawFill
import Derived.Test.YtlmpkanlfhjijaaMgR
import Derived.Deep.RegionHeld3
namespace Go.Proofs.Ytlmpkanlfhjijaa
open Go.RowKit
set_option linter.unusedSimpArgs false
set_option linter.unusedVariables false
set_option maxRecDepth 20000

/-- Drawn: an image, runs and a list. -/
def DrawnF (w : World) (e : Ending) (w' : World) : Prop :=
  ∃ (W H P : Int) (A : Option Addr) (c : Nat) (xs : List Int) (A' : Option Addr) (n c' : Nat) (rs : List Int) (A3 : Option Addr) (c3 : Nat) (q : List Int), e = .returned (.tuple #[.agg #[.int .i64 W, .int .i64 H, .int .i64 P, .slice A xs.length c], .slice A' n c', .slice A3 q.length c3]) ∧ (xs.length ≤ 256 ∧ n ≤ 300 ∧ q.length ≤ 101 ∧ rs.length = 3 * n) ∧ (xs.length ≤ c ∧ n ≤ c' ∧ q.length ≤ c3) ∧ Rds .i64 w' w'.heap.size A xs ∧ Rds .i64 w' w'.heap.size A' rs ∧ Rds .i64 w' w'.heap.size A3 q ∧ Below w.heap.size w w'
set_option maxHeartbeats 8000000 in
theorem drawFrg_any (A : Option Addr) (c : Nat) (bs : List Int) (w : World) (hc : bs.length ≤ c) (h : Rdw .u8 w w.heap.size A bs) :
    Calls Try.prog 26 #[.slice A bs.length c] w (DrawnF w) := by
  obtain ⟨u0, hu⟩ : ∃ u0, u0 = w.alloc (.cells #[.int .i64 0, .int .i64 0, .int .i64 0, .slice none 0 0] 25) := ⟨_, rfl⟩
  have hz : u0.heap.size = w.heap.size + 1 := by rw [hu]; simp
  have HX0 : Hid (Bx u0 w.heap.size 25 (imC 0 0 0 (.slice none 0 0))) := Lib.hid (by rw [hu]; exact Bx.new w _ _)
  have HB0 : Hid (Below w.heap.size w u0) := Lib.hid (by rw [hu]; exact (Below.refl _ _).alloc (Nat.le_refl _) _)
  have Hh : Hid (Rdw .u8 u0 u0.heap.size A bs) := Lib.hid ⟨(h.1.below HB0.out).more HB0.out.size, h.2⟩
  have HU := Lib.hid hu
  clear h hu
  go_enter Try.func26, Try.ntmps26
  go_wp2_with fail
  rw [← HU.out]
  clear HU
  refine (newReader_any A c bs u0 hc Hh.out).mono ?_
  rintro e u1 ⟨rfl, hr1, hb1, hs1⟩
  have HX1 := Lib.hid (HX0.out.below hb1)
  have HB1 := Lib.hid (HB0.out.trans (hb1.mono HB0.out.size))
  obtain ⟨g, hg⟩ : ∃ g, g = u0.heap.size := ⟨_, rfl⟩
  rw [← hg] at hr1 ⊢
  have hgw : g = w.heap.size + 1 := by omega
  have hsz1 : u1.heap.size = w.heap.size + 2 := by omega
  have Hg := Lib.hid hgw
  have Hs1 := Lib.hid hsz1
  clear hs1 hb1 HX0 HB0 Hh hg hgw hsz1 hz
  go_wp2_with fail
  refine (anyImage_any g 0 u1 hr1 (by omega)).mono ?_
  rintro e u3 ⟨W3, H3, P3, A3, c3, ys, rfl, hy, hyc, hr3, hR3, hG3, hA3⟩
  obtain ⟨u4, hu4⟩ : ∃ u4, u4 = u3.alloc (.cells #[.int .i64 W3, .int .i64 H3, .int .i64 P3, .slice A3 ys.length c3] 25) := ⟨_, rfl⟩
  obtain ⟨b3, hb3⟩ : ∃ b3, b3 = u3.heap.size := ⟨_, rfl⟩
  have hz3 : w.heap.size + 2 ≤ u3.heap.size := by have := hG3.size; have := Hs1.out; omega
  have HX4 : Hid (Bx u4 w.heap.size 25 (imC 0 0 0 (.slice none 0 0))) := Lib.hid (by rw [hu4]; exact (bx_gr HX1.out hG3 (by have := Hg.out; omega)).alloc _)
  have HT4 : Hid (Bx u4 b3 25 (imC W3 H3 P3 (.slice A3 ys.length c3))) := Lib.hid (by rw [hu4, hb3]; exact Bx.new u3 _ _)
  have HR4 : Hid (Rdr u4 g 304) := Lib.hid (by rw [hu4]; exact hR3.alloc _)
  have HY4 : Hid (Rds .i64 u4 u4.heap.size A3 ys) := Lib.hid (by rw [hu4]; exact (hr3.alloc (Nat.le_refl _) _).more (by simp))
  have HB4 : Hid (Below w.heap.size w u4) := Lib.hid (by rw [hu4]; exact (HB1.out.grown hG3 HB1.out.size (fun k hk => by injection hk with hk; have := Hg.out; omega)).alloc (by omega) _)
  have hA4 : ∀ a : Addr, A3 = some a → w.heap.size + 2 ≤ a.block := fun a ha => by have := hA3 a ha; have := Hs1.out; omega
  have HA := Lib.hid hA4
  have hb3g : g < b3 := by have := Hg.out; omega
  have hnb : b3 ≠ w.heap.size := by have := Hg.out; omega
  have hz4 : w.heap.size + 2 ≤ u4.heap.size := by rw [hu4]; simp; omega
  have HU4 := Lib.hid hu4
  have HU3 := Lib.hid hb3
  clear HX1 HB1 hr1 hr3 hR3 hG3 hA3 hA4 hu4 hb3 hz3
  go_wp2_with fail
  (try rw [← HU3.out])
  rw [← HU4.out]
  clear HU4
  refine (anyRegion_any g 304 u4 HR4.out (by omega)).mono ?_
  rintro e u6 ⟨v6, n, rs, rfl, hn, hO6, hR6, hG6⟩
  obtain ⟨A6, c6, rfl, hc6⟩ := hO6.slice
  have hlt6 := hR6.lt
  have HL6 : Hid (rs.length = 3 * n) := Lib.hid (by have := hO6.len; omega)
  have HQ6 : Hid (Rds .i64 u6 u6.heap.size A6 rs) := Lib.hid hO6.rds
  have HA6 : Hid (∀ a : Addr, A6 = some a → w.heap.size + 2 ≤ a.block) := Lib.hid (fun a ha => by
    have := (hO6.lt a.block (by subst ha; rfl)).1; omega)
  have HT6 := Lib.hid (bx_gr HT4.out hG6 (by omega))
  have HX6 := Lib.hid (bx_gr HX4.out hG6 (by have := Hg.out; omega))
  have HG6 := Lib.hid hG6
  have HR6 := Lib.hid hR6
  have hz46 : u4.heap.size ≤ u6.heap.size := hG6.size
  clear HT4 HX4 hR6 hG6 HR4 hO6
  obtain ⟨t0, t1, t2, t3⟩ := HT6.out.im
  have htl := HT6.out.lt
  go_wp2
  (try rw [← HU3.out])
  clear HU3
  go_region_held3 (fun w' => w'.cell? ⟨b3, 0, none⟩ = some (.int .i64 W3) ∧ w'.cell? ⟨b3, 1, none⟩ = some (.int .i64 H3) ∧ w'.cell? ⟨b3, 2, none⟩ = some (.int .i64 P3) ∧ w'.cell? ⟨b3, 3, none⟩ = some (.slice A3 ys.length c3))
    (first | (with_reducible exact ⟨k0, k1, k2, k3⟩) | (with_reducible exact ⟨(sc4 hnb _ _ _ _).trans k0, (sc4 hnb _ _ _ _).trans k1, (sc4 hnb _ _ _ _).trans k2, (sc4 hnb _ _ _ _).trans k3⟩) | exact ⟨t0, t1, t2, t3⟩ | go_keep)
    (first | (go_at_call 64; refine (anyPixel_any P3 (by exact hy.2) g (304 + 300) u6.drew (by exact HR6.out) (by omega)).mono ?_; rintro e u7 ⟨A7, c7, q, rfl, hqc, hql, hq7, hR7, hG7, hA7⟩; have HT7 := Lib.hid (bx_gr (w := u6.drew) HT6.out hG7 (by omega)); obtain ⟨k0, k1, k2, k3⟩ := HT7.out.im; have HX7 := Lib.hid (bx_gr (w := u6.drew) HX6.out hG7 (by have := Hg.out; omega)); have HG67 : Hid (u6.grownBy u7 (some g)) := Lib.hid (gtrans (b := u6.drew) ⟨rfl, rfl, rfl, Nat.le_refl _, fun _ _ _ => rfl⟩ hG7); have Hq7 := Lib.hid hq7; have HA7 : Hid (∀ b : Addr, A7 = some b → u6.heap.size ≤ b.block) := Lib.hid hA7; obtain ⟨r0, r1, r2, r3⟩ := HX7.out.im; have f0 := HX7.out.fz 0; have f1 := HX7.out.fz 1; have f2 := HX7.out.fz 2; have f3 := HX7.out.fz 3; clear hR7 hG7 hq7 hA7))
  all_goals
    have HE : Hid (∀ v0 v1 v2 v3 : Value, DrawnF w (.returned (.tuple #[.agg #[.int .i64 W3, .int .i64 H3, .int .i64 P3, .slice A3 ys.length c3], .slice A6 n c6, .slice A7 q.length c7])) ((((u7.setCell ⟨w.heap.size, 0, none⟩ v0).setCell ⟨w.heap.size, 1, none⟩ v1).setCell ⟨w.heap.size, 2, none⟩ v2).setCell ⟨w.heap.size, 3, none⟩ v3)) := Lib.hid fun v0 v1 v2 v3 => by
      have hG : u4.grownBy u7 (some g) := gtrans HG6.out HG67.out
      have hB : Below w.heap.size w u7 := HB4.out.grown hG HB4.out.size (fun k hk => by injection hk with hk; have := Hg.out; omega)
      have hr : Rds .i64 u7 u7.heap.size A3 ys := (Rds.offG HY4.out (Nat.le_refl _) (lo := w.heap.size + 2) (fun a ha => HA.out a ha) hG (by have := Hg.out; omega)).more hG.size
      have hr6 : Rds .i64 u7 u7.heap.size A6 rs := (Rds.offG HQ6.out (Nat.le_refl _) (lo := w.heap.size + 2) (fun a ha => HA6.out a ha) HG67.out (by have := Hg.out; omega)).more HG67.out.size
      exact ⟨W3, H3, P3, A3, c3, ys, A6, n, c6, rs, A7, c7, q, rfl, ⟨hy.1, hn, by omega, HL6.out⟩, ⟨hyc, hc6, hqc⟩, rds_sets4 hr (fun a ha => by have := HA.out a ha; omega) v0 v1 v2 v3, rds_sets4 hr6 (fun a ha => by have := HA6.out a ha; omega) v0 v1 v2 v3, rds_sets4 Hq7.out (fun a ha => by have := HA7.out a ha; omega) v0 v1 v2 v3, bel_sets4 hB (Nat.le_refl _) v0 v1 v2 v3⟩
    clear HX6 HT6 HG6 HX7 HT7 HG67 HR6 HY4 HB4 Hq7 HA7 HQ6 HA6 t0 t1 t2 t3 k0 k1 k2 k3
    go_wp2
    exact bodyPost_ret (v := .tuple #[.agg #[.int .i64 W3, .int .i64 H3, .int .i64 P3, .slice A3 ys.length c3], .slice A6 n c6, .slice A7 q.length c7]) (by simp [results, Try.results26, go_sem, r0, r1, r2, r3]) rfl (HE.out _ _ _ _)
end Go.Proofs.Ytlmpkanlfhjijaa
