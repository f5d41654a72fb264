/- What DrawPassData draws: an image and a number. -/
import Derived.Test.YtlkacohbfgcokaaDoorDrawImg2
import Derived.Deep.RegionHeld3
import Derived.Deep.CutRange
import Derived.Deep.Cut
namespace Go.Proofs.YtlkacohbfgcokaaDoor
open Go.RowKit Go.Shelf
set_option linter.unusedSimpArgs false
set_option linter.unusedVariables false
set_option maxRecDepth 20000

theorem pas_sc4 {w : World} {r b : Nat} (h : b ≠ r) (v0 v1 v2 v3 : Value) {i : Nat} : ((((w.setCell ⟨r, 0, none⟩ v0).setCell ⟨r, 1, none⟩ v1).setCell ⟨r, 2, none⟩ v2).setCell ⟨r, 3, none⟩ v3).cell? ⟨b, i, none⟩ = w.cell? ⟨b, i, none⟩ := by
  rw [World.cell?_setCell_other _ ⟨r, 3, none⟩ ⟨b, i, none⟩ _ (fun e => by injection e with e1; exact h e1.symm), World.cell?_setCell_other _ ⟨r, 2, none⟩ ⟨b, i, none⟩ _ (fun e => by injection e with e1; exact h e1.symm), World.cell?_setCell_other _ ⟨r, 1, none⟩ ⟨b, i, none⟩ _ (fun e => by injection e with e1; exact h e1.symm), World.cell?_setCell_other _ ⟨r, 0, none⟩ ⟨b, i, none⟩ _ (fun e => by injection e with e1; exact h e1.symm)]
theorem pas_gr (u : World) (r : Nat) (v0 v1 v2 v3 : Value) : u.grownBy ((((u.setCell ⟨r, 0, none⟩ v0).setCell ⟨r, 1, none⟩ v1).setCell ⟨r, 2, none⟩ v2).setCell ⟨r, 3, none⟩ v3) (some r) :=
  gtrans (gtrans (gtrans (hset r u 0 v0) (hset r _ 1 v1)) (hset r _ 2 v2)) (hset r _ 3 v3)
/-- Drawn from a code: an image and a number. -/
def DrawnPas (w : World) (e : Ending) (w' : World) : Prop :=
  ∃ (W H P : Int) (A : Option Addr) (c : Nat) (xs : List Int) (q : Int), e = .returned (.tuple #[.agg #[.int .i64 W, .int .i64 H, .int .i64 P, .slice A xs.length c], .int .i64 q]) ∧ (xs.length ≤ 256 ∧ -1 ≤ q ∧ q ≤ 8) ∧ xs.length ≤ c ∧ Rds .i64 w' w'.heap.size A xs ∧ Below w.heap.size w w'
set_option maxHeartbeats 8000000 in
theorem drawPas_any (A : Option Addr) (c : Nat) (bs : List Int) (w : World) (hc : bs.length ≤ c) (h : Rdw .u8 w w.heap.size A bs) :
    Calls Tryd.prog 8 #[.slice A bs.length c] w (DrawnPas w) := by
  obtain ⟨u0, hu⟩ : ∃ u0, u0 = w.alloc (.cells #[.int .i64 0, .int .i64 0, .int .i64 0, .slice none 0 0] 25) := ⟨_, rfl⟩
  have hz : u0.heap.size = w.heap.size + 1 := by rw [hu]; simp
  have HX0 : Hid (Bx u0 w.heap.size 25 (imC 0 0 0 (.slice none 0 0))) := Lib.hid (by rw [hu]; exact Bx.new w _ _)
  have HB0 : Hid (Below w.heap.size w u0) := Lib.hid (by rw [hu]; exact (Below.refl _ _).alloc (Nat.le_refl _) _)
  have Hh : Hid (Rdw .u8 u0 u0.heap.size A bs) := Lib.hid ⟨(h.1.below HB0.out).more HB0.out.size, h.2⟩
  have HU := Lib.hid hu
  clear h hu
  go_enter Tryd.func8, Tryd.ntmps8
  go_wp2_with fail
  rw [← HU.out]
  clear HU
  refine (newReader_any A c bs u0 hc Hh.out).mono ?_
  rintro e u1 ⟨rfl, hr1, hb1, hs1⟩
  have HX1 := Lib.hid (HX0.out.below hb1)
  have HB1 := Lib.hid (HB0.out.trans (hb1.mono HB0.out.size))
  obtain ⟨g, hg⟩ : ∃ g, g = u0.heap.size := ⟨_, rfl⟩
  rw [← hg] at hr1 ⊢
  have hgw : g = w.heap.size + 1 := by omega
  have hsz1 : u1.heap.size = w.heap.size + 2 := by omega
  have Hg := Lib.hid hgw
  have Hs1 := Lib.hid hsz1
  clear hs1 hb1 HX0 HB0 Hh hg hgw hsz1 hz
  go_wp2_with fail
  refine (anyImage_any g 0 u1 hr1 (by omega)).mono ?_
  rintro e u3 ⟨W3, H3, P3, A3, c3, ys, rfl, hy, hyc, hr3, hR3, hG3, hA3⟩
  obtain ⟨u4, hu4⟩ : ∃ u4, u4 = u3.alloc (.cells #[.int .i64 W3, .int .i64 H3, .int .i64 P3, .slice A3 ys.length c3] 25) := ⟨_, rfl⟩
  obtain ⟨b3, hb3⟩ : ∃ b3, b3 = u3.heap.size := ⟨_, rfl⟩
  have hz3 : w.heap.size + 2 ≤ u3.heap.size := by have := hG3.size; have := Hs1.out; omega
  have HX4 : Hid (Bx u4 w.heap.size 25 (imC 0 0 0 (.slice none 0 0))) := Lib.hid (by rw [hu4]; exact (bx_gr HX1.out hG3 (by have := Hg.out; omega)).alloc _)
  have HT4 : Hid (Bx u4 b3 25 (imC W3 H3 P3 (.slice A3 ys.length c3))) := Lib.hid (by rw [hu4, hb3]; exact Bx.new u3 _ _)
  have HR4 : Hid (Rdr u4 g 304) := Lib.hid (by rw [hu4]; exact hR3.alloc _)
  have Hr4 : Hid (Rds .i64 u4 u4.heap.size A3 ys) := Lib.hid (by rw [hu4]; exact (hr3.alloc (Nat.le_refl _) _).more (by simp))
  have HB4 : Hid (Below w.heap.size w u4) := Lib.hid (by rw [hu4]; exact (HB1.out.grown hG3 HB1.out.size (fun k hk => by injection hk with hk; have := Hg.out; omega)).alloc (by omega) _)
  have HA := Lib.hid (show ∀ a : Addr, A3 = some a → w.heap.size + 2 ≤ a.block from fun a ha => by have := hA3 a ha; have := Hs1.out; omega)
  have hb3g : g < b3 := by have := Hg.out; omega
  have hnb : b3 ≠ w.heap.size := by have := Hg.out; omega
  have HU4 := Lib.hid hu4
  have HU3 := Lib.hid hb3
  clear HX1 HB1 hr1 hr3 hR3 hG3 hA3 hu4 hb3 hz3
  obtain ⟨t0, t1, t2, t3⟩ := HT4.out.im
  have htl := HT4.out.lt
  go_wp2
  (try rw [← HU3.out])
  rw [← HU4.out]
  clear HU4 HU3
  go_region_held3 (fun w' => w'.cell? ⟨b3, 0, none⟩ = some (.int .i64 W3) ∧ w'.cell? ⟨b3, 1, none⟩ = some (.int .i64 H3) ∧ w'.cell? ⟨b3, 2, none⟩ = some (.int .i64 P3) ∧ w'.cell? ⟨b3, 3, none⟩ = some (.slice A3 ys.length c3))
    (first | (with_reducible exact ⟨k0, k1, k2, k3⟩) | (with_reducible exact ⟨(pas_sc4 hnb _ _ _ _).trans k0, (pas_sc4 hnb _ _ _ _).trans k1, (pas_sc4 hnb _ _ _ _).trans k2, (pas_sc4 hnb _ _ _ _).trans k3⟩) | exact ⟨t0, t1, t2, t3⟩ | go_keep)
    (first | (go_at_call 33; refine (pick_any 9 g 304 u4.drew (by exact HR4.out) (by omega) (by omega)).mono ?_; intro e u5 hp; obtain ⟨q, rfl, hq, hR5, hG5, hs5⟩ := picked_nat hp (by omega); have hw1 : IntKind.i64.wrap ((q : Int) - 1) = (q : Int) - 1 := IntWalk.i64_in _ (by omega); have HT5 := Lib.hid (bx_gr (w := u4.drew) HT4.out hG5 (by omega)); obtain ⟨k0, k1, k2, k3⟩ := HT5.out.im; have HX5 := Lib.hid (bx_gr (w := u4.drew) HX4.out hG5 (by have := Hg.out; omega)); have HG5 := Lib.hid hG5; obtain ⟨r0, r1, r2, r3⟩ := HX5.out.im; have f0 := HX5.out.fz 0; have f1 := HX5.out.fz 1; have f2 := HX5.out.fz 2; have f3 := HX5.out.fz 3; clear hp hR5 hG5 hs5))
  all_goals
    have hG : u4.grownBy u5 (some g) := ⟨HG5.out.os, HG5.out.tape, HG5.out.output, HG5.out.size, HG5.out.block⟩
    have hB : Below w.heap.size w u5 := HB4.out.grown hG HB4.out.size (fun k hk => by injection hk with hk; have := Hg.out; omega)
    have hr : Rds .i64 u5 u5.heap.size A3 ys := (Rds.offG Hr4.out (Nat.le_refl _) (lo := w.heap.size + 2) (fun a ha => HA.out a ha) hG (by have := Hg.out; omega)).more hG.size
    have HE : Hid (∀ v0 v1 v2 v3 : Value, DrawnPas w (.returned (.tuple #[.agg #[.int .i64 W3, .int .i64 H3, .int .i64 P3, .slice A3 ys.length c3], .int .i64 ((q : Int) - 1)])) ((((u5.setCell ⟨w.heap.size, 0, none⟩ v0).setCell ⟨w.heap.size, 1, none⟩ v1).setCell ⟨w.heap.size, 2, none⟩ v2).setCell ⟨w.heap.size, 3, none⟩ v3)) := Lib.hid (fun v0 v1 v2 v3 =>
      ⟨W3, H3, P3, A3, c3, ys, (q : Int) - 1, rfl, ⟨hy.1, by omega, by omega⟩, hyc, (Rds.offG hr (Nat.le_refl _) (lo := w.heap.size + 2) (fun a ha => HA.out a ha) (pas_gr u5 w.heap.size v0 v1 v2 v3) (by omega)).more (by simp), hB.grown (pas_gr u5 w.heap.size v0 v1 v2 v3) hB.size (fun k hk => by injection hk with hk; omega)⟩)
    clear HT4 HX4 HR4 Hr4 HB4 HT5 HG5 t0 t1 t2 t3 k0 k1 k2 k3 hG hB hr
    go_wp2
    exact bodyPost_ret (v := .tuple #[.agg #[.int .i64 W3, .int .i64 H3, .int .i64 P3, .slice A3 ys.length c3], .int .i64 ((q : Int) - 1)]) (by simp [results, Tryd.results8, go_sem, r0, r1, r2, r3]) rfl (HE.out _ _ _ _)
end Go.Proofs.YtlkacohbfgcokaaDoor
