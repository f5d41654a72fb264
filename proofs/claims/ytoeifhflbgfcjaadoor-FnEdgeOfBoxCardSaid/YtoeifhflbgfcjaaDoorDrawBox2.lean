/- Contract of the drawing of BoxRegion's argument. -/
import Derived.Test.YtoeifhflbgfcjaaDoorDrawBox
namespace Go.Proofs.YtoeifhflbgfcjaaDoor.BoxDraw
open Go.RowKit
set_option linter.unusedSimpArgs false
set_option linter.unusedVariables false
set_option maxRecDepth 20000

def DrawnBx (w : World) (e : Ending) (w' : World) : Prop :=
  ∃ (bx by_ bw bh : Int), e = .returned (.agg #[.int .i64 bx, .int .i64 by_, .int .i64 bw, .int .i64 bh]) ∧ Below w.heap.size w w'
set_option maxHeartbeats 8000000 in
theorem drawBox_any (A : Option Addr) (c : Nat) (bs : List Int) (w : World) (hc : bs.length ≤ c) (h : Rdw .u8 w w.heap.size A bs) :
    Calls Tryd.prog 31 #[.slice A bs.length c] w (DrawnBx w) := by
  obtain ⟨u0, hu⟩ : ∃ u0, u0 = w.alloc (.cells #[.int .i64 0, .int .i64 0, .int .i64 0, .int .i64 0] 37) := ⟨_, rfl⟩
  have Hz : Hid (u0.heap.size = w.heap.size + 1) := Lib.hid (by rw [hu]; simp)
  have HX0 : Hid (Bx u0 w.heap.size 37 #[.int .i64 0, .int .i64 0, .int .i64 0, .int .i64 0]) := Lib.hid (by rw [hu]; exact Bx.new w _ _)
  have HB0 : Hid (Below w.heap.size w u0) := Lib.hid (by rw [hu]; exact (Below.refl _ _).alloc (Nat.le_refl _) _)
  have HW0 : Hid (Rdw .u8 u0 u0.heap.size A bs) := Lib.hid (by
    rw [hu]
    exact ⟨(h.1.alloc (Nat.le_refl _) _).more (by simp), h.2.1, h.2.2⟩)
  have HU := Lib.hid hu
  clear h hu
  go_enter Tryd.func31, Tryd.ntmps31
  go_wp2_with fail
  rw [← HU.out]
  clear HU
  refine (newReader_any A c bs u0 hc HW0.out).mono ?_
  rintro e w1 ⟨rfl, hr1, hb1, hs1⟩
  have Hs1 := Lib.hid hs1
  have HB1 := Lib.hid (HB0.out.trans (hb1.mono (by have := Hz.out; omega)))
  have HX1 := Lib.hid (HX0.out.below hb1 (by have := Hz.out; omega))
  clear hs1 hb1 HX0 HB0
  obtain ⟨g, hg⟩ : ∃ g, g = u0.heap.size := ⟨_, rfl⟩
  have Hg : Hid (g = w.heap.size + 1) := Lib.hid (by have := Hz.out; omega)
  rw [← hg] at hr1 ⊢
  clear hg Hz HW0
  go_wp2_with fail
  refine (anyBox_any g 0 w1 hr1 (by omega)).mono ?_
  rintro e w2 ⟨bx, by_, bw, bh, rfl, _, _, _, _, hr2, hg2⟩
  have HX2 := Lib.hid (bx_gr HX1.out hg2 (by have := Hg.out; omega))
  have HB2 := Lib.hid (HB1.out.grown hg2 HB1.out.size (fun k hk => by have := Option.some.inj hk; have := Hg.out; omega))
  have HR2 := Lib.hid hr2
  clear hg2 hr2 hr1 HX1 HB1
  obtain ⟨u3, hu3⟩ : ∃ u3, u3 = w2.alloc (.cells #[.int .i64 bx, .int .i64 by_, .int .i64 bw, .int .i64 bh] 37) := ⟨_, rfl⟩
  have HX3 := Lib.hid (show Bx u3 w.heap.size 37 #[.int .i64 0, .int .i64 0, .int .i64 0, .int .i64 0] by rw [hu3]; exact HX2.out.alloc _)
  have HY3 := Lib.hid (show Bx u3 w2.heap.size 37 #[.int .i64 bx, .int .i64 by_, .int .i64 bw, .int .i64 bh] by rw [hu3]; exact Bx.new w2 _ _)
  have HR3 := Lib.hid (show Rdr u3 g 4 by rw [hu3]; exact HR2.out.alloc _)
  have HB3 := Lib.hid (show Below w.heap.size w u3 by rw [hu3]; exact HB2.out.alloc HB2.out.size _)
  have Hne : Hid (g < w2.heap.size ∧ w.heap.size < w2.heap.size) := Lib.hid ⟨HR2.out.lt, HX2.out.lt⟩
  have HU3 := Lib.hid hu3
  clear hu3 HR2 HX2 HB2
  go_wp2_with fail
  rw [← HU3.out]
  clear HU3
  refine (pick_any 8 g 4 u3 HR3.out (by omega) (by omega)).mono ?_
  intro e w4 hp
  obtain ⟨k, rfl, hk, hr4, hg4, hs4⟩ := picked_nat hp (by omega)
  have HX4 := Lib.hid (bx_gr HX3.out hg4 (by have := Hg.out; omega))
  have HY4 := Lib.hid (bx_gr HY3.out hg4 (by have := Hne.out; omega))
  have HB4 := Lib.hid (HB3.out.grown hg4 HB3.out.size (fun k hk => by have := Option.some.inj hk; have := Hg.out; omega))
  have HR4 := Lib.hid hr4
  clear hp hs4 hg4 hr4 HX3 HY3 HB3 HR3
  have hnn : w2.heap.size ≠ w.heap.size := by have := Hne.out; omega
  by_cases h0 : k = 0
  · have h0' : ((k : Int) == 0) = true := by rw [h0]; rfl
    clear h0
    go_wp2_with fail
    refine (one_litB _ [0, 15, 16] 3 3 _ g (4 + 1) w4 rfl HR4.out (by omega) (by simp) (by simp) rfl rfl).mono ?_
    rintro e w5 ⟨m0, rfl, _, hr5, hg5⟩
    have HX5 := Lib.hid (bx_gr HX4.out hg5 (by have := Hg.out; omega))
    have HY5 := Lib.hid (bx_gr HY4.out hg5 (by have := Hne.out; omega))
    have HB5 := Lib.hid (HB4.out.grown hg5 HB4.out.size (fun k hk => by have := Option.some.inj hk; have := Hg.out; omega))
    have HR5 := Lib.hid hr5
    clear hg5 hr5 HX4 HY4 HB4 HR4
    go_wp2_with fail
    refine (one_litB _ [0, 15] 2 2 _ g (4 + 1 + 1) w5 rfl HR5.out (by omega) (by simp) (by simp) rfl rfl).mono ?_
    rintro e w6 ⟨m1, rfl, _, hr6, hg6⟩
    have HX6 := Lib.hid (bx_gr HX5.out hg6 (by have := Hg.out; omega))
    have HY6 := Lib.hid (bx_gr HY5.out hg6 (by have := Hne.out; omega))
    have HB6 := Lib.hid (HB5.out.grown hg6 HB5.out.size (fun k hk => by have := Option.some.inj hk; have := Hg.out; omega))
    have HR6 := Lib.hid hr6
    clear hg6 hr6 HX5 HY5 HB5 HR5
    go_wp2_with fail
    refine (one_litB _ [1, 16, 17] 3 3 _ g (4 + 1 + 1 + 1) w6 rfl HR6.out (by omega) (by simp) (by simp) rfl rfl).mono ?_
    rintro e w7 ⟨m2, rfl, _, hr7, hg7⟩
    have HX7 := Lib.hid (bx_gr HX6.out hg7 (by have := Hg.out; omega))
    have HY7 := Lib.hid (bx_gr HY6.out hg7 (by have := Hne.out; omega))
    have HB7 := Lib.hid (HB6.out.grown hg7 HB6.out.size (fun k hk => by have := Option.some.inj hk; have := Hg.out; omega))
    have HR7 := Lib.hid hr7
    clear hg7 hr7 HX6 HY6 HB6 HR6
    go_wp2_with fail
    refine (one_litB _ [1, 16] 2 2 _ g (4 + 1 + 1 + 1 + 1) w7 rfl HR7.out (by omega) (by simp) (by simp) rfl rfl).mono ?_
    rintro e w8 ⟨m3, rfl, _, hr8, hg8⟩
    have HX8 := Lib.hid (bx_gr HX7.out hg8 (by have := Hg.out; omega))
    have HY8 := Lib.hid (bx_gr HY7.out hg8 (by have := Hne.out; omega))
    have HB8 := Lib.hid (HB7.out.grown hg8 HB7.out.size (fun k hk => by have := Option.some.inj hk; have := Hg.out; omega))
    clear hg8 hr8 HX7 HY7 HB7 HR7
    obtain ⟨r0, r1, r2, r3⟩ := bx4 HX8.out
    obtain ⟨s0, s1, s2, s3⟩ := bx4 HY8.out
    have f0 := HX8.out.fz 0
    have f1 := HX8.out.fz 1
    have f2 := HX8.out.fz 2
    have f3 := HX8.out.fz 3
    have e0 := HY8.out.fz 0
    have e1 := HY8.out.fz 1
    have e2 := HY8.out.fz 2
    have e3 := HY8.out.fz 3
    have hle : w.heap.size ≤ w2.heap.size := by have := Hne.out; omega
    have t0 : ((((w8.setCell ⟨w2.heap.size, 0, none⟩ (.int .i64 m0)).setCell ⟨w2.heap.size, 1, none⟩ (.int .i64 m1)).setCell ⟨w2.heap.size, 2, none⟩ (.int .i64 m2)).setCell ⟨w2.heap.size, 3, none⟩ (.int .i64 m3)).cell? ⟨w.heap.size, 0, none⟩ = some (.int .i64 0) := by
      rw [World.cell?_setCell_other _ _ _ _ (by intro e; injection e with e1; exact hnn e1), World.cell?_setCell_other _ _ _ _ (by intro e; injection e with e1; exact hnn e1), World.cell?_setCell_other _ _ _ _ (by intro e; injection e with e1; exact hnn e1), World.cell?_setCell_other _ _ _ _ (by intro e; injection e with e1; exact hnn e1)]; exact r0
    have t1 : ((((w8.setCell ⟨w2.heap.size, 0, none⟩ (.int .i64 m0)).setCell ⟨w2.heap.size, 1, none⟩ (.int .i64 m1)).setCell ⟨w2.heap.size, 2, none⟩ (.int .i64 m2)).setCell ⟨w2.heap.size, 3, none⟩ (.int .i64 m3)).cell? ⟨w.heap.size, 1, none⟩ = some (.int .i64 0) := by
      rw [World.cell?_setCell_other _ _ _ _ (by intro e; injection e with e1; exact hnn e1), World.cell?_setCell_other _ _ _ _ (by intro e; injection e with e1; exact hnn e1), World.cell?_setCell_other _ _ _ _ (by intro e; injection e with e1; exact hnn e1), World.cell?_setCell_other _ _ _ _ (by intro e; injection e with e1; exact hnn e1)]; exact r1
    have t2 : ((((w8.setCell ⟨w2.heap.size, 0, none⟩ (.int .i64 m0)).setCell ⟨w2.heap.size, 1, none⟩ (.int .i64 m1)).setCell ⟨w2.heap.size, 2, none⟩ (.int .i64 m2)).setCell ⟨w2.heap.size, 3, none⟩ (.int .i64 m3)).cell? ⟨w.heap.size, 2, none⟩ = some (.int .i64 0) := by
      rw [World.cell?_setCell_other _ _ _ _ (by intro e; injection e with e1; exact hnn e1), World.cell?_setCell_other _ _ _ _ (by intro e; injection e with e1; exact hnn e1), World.cell?_setCell_other _ _ _ _ (by intro e; injection e with e1; exact hnn e1), World.cell?_setCell_other _ _ _ _ (by intro e; injection e with e1; exact hnn e1)]; exact r2
    have t3 : ((((w8.setCell ⟨w2.heap.size, 0, none⟩ (.int .i64 m0)).setCell ⟨w2.heap.size, 1, none⟩ (.int .i64 m1)).setCell ⟨w2.heap.size, 2, none⟩ (.int .i64 m2)).setCell ⟨w2.heap.size, 3, none⟩ (.int .i64 m3)).cell? ⟨w.heap.size, 3, none⟩ = some (.int .i64 0) := by
      rw [World.cell?_setCell_other _ _ _ _ (by intro e; injection e with e1; exact hnn e1), World.cell?_setCell_other _ _ _ _ (by intro e; injection e with e1; exact hnn e1), World.cell?_setCell_other _ _ _ _ (by intro e; injection e with e1; exact hnn e1), World.cell?_setCell_other _ _ _ _ (by intro e; injection e with e1; exact hnn e1)]; exact r3
    have HBX : Hid (Below w.heap.size w ((((w8.setCell ⟨w2.heap.size, 0, none⟩ (.int .i64 m0)).setCell ⟨w2.heap.size, 1, none⟩ (.int .i64 m1)).setCell ⟨w2.heap.size, 2, none⟩ (.int .i64 m2)).setCell ⟨w2.heap.size, 3, none⟩ (.int .i64 m3))) := Lib.hid (by (repeat' (first | (exact HB8.out) | (refine Below.setCell ?_ (by first | omega | (simp; done) | (simp; omega)) _) | (refine below_dn ?_ _) | (refine Below.drew ?_) | (refine Below.alloc ?_ (by first | omega | (simp; done) | (simp; omega)) _) | (exact Below.refl _ _))))
    go_wp2
    generalize ((((w8.setCell ⟨w2.heap.size, 0, none⟩ (.int .i64 m0)).setCell ⟨w2.heap.size, 1, none⟩ (.int .i64 m1)).setCell ⟨w2.heap.size, 2, none⟩ (.int .i64 m2)).setCell ⟨w2.heap.size, 3, none⟩ (.int .i64 m3)) = V at *
    exact bodyPost_ret (v := .agg #[.int .i64 m0, .int .i64 m1, .int .i64 m2, .int .i64 m3]) (by simp [results, Tryd.results31, go_sem, t0, t1, t2, t3]) rfl ⟨_, _, _, _, rfl, by (repeat' (first | (exact HBX.out) | (refine Below.setCell ?_ (by first | omega | (simp; done) | (simp; omega)) _) | (refine below_dn ?_ _) | (refine Below.drew ?_) | (refine Below.alloc ?_ (by first | omega | (simp; done) | (simp; omega)) _) | (exact Below.refl _ _)))⟩
  · have h0' : ((k : Int) == 0) = false := beq_eq_false_iff_ne.2 (by omega)
    clear h0
    obtain ⟨r0, r1, r2, r3⟩ := bx4 HX4.out
    obtain ⟨s0, s1, s2, s3⟩ := bx4 HY4.out
    have f0 := HX4.out.fz 0
    have f1 := HX4.out.fz 1
    have f2 := HX4.out.fz 2
    have f3 := HX4.out.fz 3
    go_wp2
    exact bodyPost_ret (v := .agg #[.int .i64 bx, .int .i64 by_, .int .i64 bw, .int .i64 bh]) (by simp [results, Tryd.results31, go_sem, r0, r1, r2, r3]) rfl ⟨_, _, _, _, rfl, by (repeat' (first | (exact HB4.out) | (refine Below.setCell ?_ (by first | omega | (simp; done) | (simp; omega)) _) | (refine below_dn ?_ _) | (refine Below.drew ?_) | (refine Below.alloc ?_ (by first | omega | (simp; done) | (simp; omega)) _) | (exact Below.refl _ _)))⟩
end Go.Proofs.YtoeifhflbgfcjaaDoor.BoxDraw
