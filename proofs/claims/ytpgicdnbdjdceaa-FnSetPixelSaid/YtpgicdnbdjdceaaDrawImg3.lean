/- Contracts of the drawing of an image with numbers beside it. -/
import Derived.Test.YtpgicdnbdjdceaaDrawImg2
import Derived.Test.YtpgicdnbdjdceaaGridF
import Derived.Test.YtpgicdnbdjdceaaDrawFill
namespace Go.Proofs.Ytpgicdnbdjdceaa
open Go.RowKit
set_option linter.unusedSimpArgs false
set_option linter.unusedVariables false

/-- Drawn from a code: an image of few numbers, and a number. -/
def DrawnImK (w : World) (e : Ending) (w' : World) : Prop :=
  ∃ (W H P : Int) (A : Option Addr) (c : Nat) (xs : List Int) (k : Int), e = .returned (.tuple #[.agg #[.int .i64 W, .int .i64 H, .int .i64 P, .slice A xs.length c], .int .i64 k]) ∧ xs.length ≤ 256 ∧ xs.length ≤ c ∧ Rds .i64 w' w'.heap.size A xs ∧ Below w.heap.size w w'
/-- Drawn from a code: an image of few numbers, and a place. -/
def DrawnImXY (w : World) (e : Ending) (w' : World) : Prop :=
  ∃ (W H P : Int) (A : Option Addr) (c : Nat) (xs : List Int) (x y : Int), e = .returned (.tuple #[.agg #[.int .i64 W, .int .i64 H, .int .i64 P, .slice A xs.length c], .int .i64 x, .int .i64 y]) ∧ xs.length ≤ 256 ∧ xs.length ≤ c ∧ Rds .i64 w' w'.heap.size A xs ∧ Below w.heap.size w w'
theorem rds_sets4 {w : World} {r : Nat} {A : Option Addr} {xs : List Int} (h : Rds .i64 w w.heap.size A xs) (hA : ∀ a : Addr, A = some a → a.block ≠ r) (v0 v1 v2 v3 : Value) :
    Rds .i64 ((((w.setCell ⟨r, 0, none⟩ v0).setCell ⟨r, 1, none⟩ v1).setCell ⟨r, 2, none⟩ v2).setCell ⟨r, 3, none⟩ v3) ((((w.setCell ⟨r, 0, none⟩ v0).setCell ⟨r, 1, none⟩ v1).setCell ⟨r, 2, none⟩ v2).setCell ⟨r, 3, none⟩ v3).heap.size A xs := by
  rcases h with h | ⟨b, off, rfl, hb, hcl⟩
  · exact .inl h
  · have hne : b ≠ r := hA _ rfl
    exact (((((Rds.setOff (.inr ⟨b, off, rfl, hb, hcl⟩ : Rds .i64 w w.heap.size (some ⟨b, off, none⟩) xs) hne v0).setOff hne v1).setOff hne v2).setOff hne v3).more (by simp [World.setCell]))
theorem bel_sets4 {W w : World} {r : Nat} (h : Below W.heap.size W w) (hr : W.heap.size ≤ r) (v0 v1 v2 v3 : Value) :
    Below W.heap.size W ((((w.setCell ⟨r, 0, none⟩ v0).setCell ⟨r, 1, none⟩ v1).setCell ⟨r, 2, none⟩ v2).setCell ⟨r, 3, none⟩ v3) := (((h.setCell (p := ⟨r, 0, none⟩) hr v0).setCell (p := ⟨r, 1, none⟩) hr v1).setCell (p := ⟨r, 2, none⟩) hr v2).setCell (p := ⟨r, 3, none⟩) hr v3
set_option maxHeartbeats 8000000 in
theorem drawTurn_any (A : Option Addr) (c : Nat) (bs : List Int) (w : World) (hc : bs.length ≤ c) (h : Rdw .u8 w w.heap.size A bs) :
    Calls Try.prog 21 #[.slice A bs.length c] w (DrawnImK w) := by
  obtain ⟨u0, hu⟩ : ∃ u0, u0 = w.alloc (.cells #[.int .i64 0, .int .i64 0, .int .i64 0, .slice none 0 0] 25) := ⟨_, rfl⟩
  have hz : u0.heap.size = w.heap.size + 1 := by rw [hu]; simp
  have HX0 : Hid (Bx u0 w.heap.size 25 (imC 0 0 0 (.slice none 0 0))) := Lib.hid (by rw [hu]; exact Bx.new w _ _)
  have HB0 : Hid (Below w.heap.size w u0) := Lib.hid (by rw [hu]; exact (Below.refl _ _).alloc (Nat.le_refl _) _)
  have Hh : Hid (Rdw .u8 u0 u0.heap.size A bs) := Lib.hid ⟨(h.1.below HB0.out).more HB0.out.size, h.2⟩
  have HU := Lib.hid hu
  clear h hu
  go_enter Try.func21, Try.ntmps21
  go_wp2_with fail
  rw [← HU.out]
  clear HU
  refine (newReader_any A c bs u0 hc Hh.out).mono ?_
  rintro e u1 ⟨rfl, hr1, hb1, hs1⟩
  have HX1 := Lib.hid (HX0.out.below hb1)
  have HB1 := Lib.hid (HB0.out.trans (hb1.mono HB0.out.size))
  obtain ⟨g, hg⟩ : ∃ g, g = u0.heap.size := ⟨_, rfl⟩
  rw [← hg] at hr1 ⊢
  have hgw : g = w.heap.size + 1 := by omega
  have hsz1 : u1.heap.size = w.heap.size + 2 := by omega
  have Hg := Lib.hid hgw
  have Hs1 := Lib.hid hsz1
  clear hs1 hb1 HX0 HB0 Hh hg hgw hsz1 hz
  go_wp2_with fail
  refine (anyImage_any g 0 u1 hr1 (by omega)).mono ?_
  rintro e u3 ⟨W3, H3, P3, A3, c3, ys, rfl, hy, hyc, hr3, hR3, hG3, hA3⟩
  obtain ⟨u4, hu4⟩ : ∃ u4, u4 = u3.alloc (.cells #[.int .i64 W3, .int .i64 H3, .int .i64 P3, .slice A3 ys.length c3] 25) := ⟨_, rfl⟩
  obtain ⟨b3, hb3⟩ : ∃ b3, b3 = u3.heap.size := ⟨_, rfl⟩
  have hz3 : w.heap.size + 2 ≤ u3.heap.size := by have := hG3.size; have := Hs1.out; omega
  have HX4 : Hid (Bx u4 w.heap.size 25 (imC 0 0 0 (.slice none 0 0))) := Lib.hid (by rw [hu4]; exact (bx_gr HX1.out hG3 (by have := Hg.out; omega)).alloc _)
  have HT4 : Hid (Bx u4 b3 25 (imC W3 H3 P3 (.slice A3 ys.length c3))) := Lib.hid (by rw [hu4, hb3]; exact Bx.new u3 _ _)
  have HR4 : Hid (Rdr u4 g 304) := Lib.hid (by rw [hu4]; exact hR3.alloc _)
  have HY4 : Hid (Rds .i64 u4 u4.heap.size A3 ys) := Lib.hid (by rw [hu4]; exact (hr3.alloc (Nat.le_refl _) _).more (by simp))
  have HB4 : Hid (Below w.heap.size w u4) := Lib.hid (by rw [hu4]; exact (HB1.out.grown hG3 HB1.out.size (fun k hk => by injection hk with hk; have := Hg.out; omega)).alloc (by omega) _)
  have hA4 : ∀ a : Addr, A3 = some a → w.heap.size + 2 ≤ a.block := fun a ha => by have := hA3 a ha; have := Hs1.out; omega
  have HA := Lib.hid hA4
  have hb3g : g < b3 := by have := Hg.out; omega
  have hnb : b3 ≠ w.heap.size := by have := Hg.out; omega
  have hz4 : w.heap.size + 2 ≤ u4.heap.size := by rw [hu4]; simp; omega
  have HU4 := Lib.hid hu4
  have HU3 := Lib.hid hb3
  clear HX1 HB1 hr1 hr3 hR3 hG3 hA3 hA4 hu4 hb3 hz3
  obtain ⟨t0, t1, t2, t3⟩ := HT4.out.im
  have htl := HT4.out.lt
  go_wp2
  (try rw [← HU3.out])
  rw [← HU4.out]
  clear HU4 HU3
  go_region_held3 (fun w' => w'.cell? ⟨b3, 0, none⟩ = some (.int .i64 W3) ∧ w'.cell? ⟨b3, 1, none⟩ = some (.int .i64 H3) ∧ w'.cell? ⟨b3, 2, none⟩ = some (.int .i64 P3) ∧ w'.cell? ⟨b3, 3, none⟩ = some (.slice A3 ys.length c3))
    (first | (with_reducible exact ⟨k0, k1, k2, k3⟩) | (with_reducible exact ⟨(sc4 hnb _ _ _ _).trans k0, (sc4 hnb _ _ _ _).trans k1, (sc4 hnb _ _ _ _).trans k2, (sc4 hnb _ _ _ _).trans k3⟩) | exact ⟨t0, t1, t2, t3⟩ | go_keep)
    (first | (go_at_call 58; refine (one_litB _ [0, 1, 2, 3, 4, -1] 6 6 _ g 304 u4.drew rfl (by exact HR4.out) (by omega) (by simp) (by simp) rfl rfl).mono ?_; rintro e u5 ⟨q, rfl, hq, hR5, hG5⟩; have HT5 := Lib.hid (bx_gr (w := u4.drew) HT4.out hG5 (by omega)); obtain ⟨k0, k1, k2, k3⟩ := HT5.out.im; have HX5 := Lib.hid (bx_gr (w := u4.drew) HX4.out hG5 (by have := Hg.out; omega)); have HG5 := Lib.hid hG5; obtain ⟨r0, r1, r2, r3⟩ := HX5.out.im; have f0 := HX5.out.fz 0; have f1 := HX5.out.fz 1; have f2 := HX5.out.fz 2; have f3 := HX5.out.fz 3; clear hq hR5 hG5))
  all_goals
    have HE : Hid (∀ v0 v1 v2 v3 : Value, DrawnImK w (.returned (.tuple #[.agg #[.int .i64 W3, .int .i64 H3, .int .i64 P3, .slice A3 ys.length c3], .int .i64 q])) ((((u5.setCell ⟨w.heap.size, 0, none⟩ v0).setCell ⟨w.heap.size, 1, none⟩ v1).setCell ⟨w.heap.size, 2, none⟩ v2).setCell ⟨w.heap.size, 3, none⟩ v3)) := Lib.hid fun v0 v1 v2 v3 => by
      have hG : u4.grownBy u5 (some g) := ⟨HG5.out.os, HG5.out.tape, HG5.out.output, HG5.out.size, HG5.out.block⟩
      have hB : Below w.heap.size w u5 := HB4.out.grown hG HB4.out.size (fun k hk => by injection hk with hk; have := Hg.out; omega)
      have hr : Rds .i64 u5 u5.heap.size A3 ys := (Rds.offG HY4.out (Nat.le_refl _) (lo := w.heap.size + 2) (fun a ha => HA.out a ha) hG (by have := Hg.out; omega)).more hG.size
      exact ⟨W3, H3, P3, A3, c3, ys, q, rfl, hy.1, hyc, rds_sets4 hr (fun a ha => by have := HA.out a ha; omega) v0 v1 v2 v3, bel_sets4 hB (Nat.le_refl _) v0 v1 v2 v3⟩
    clear HX5 HT5 HG5 HX4 HT4 HR4 HY4 HB4 t0 t1 t2 t3 k0 k1 k2 k3
    go_wp2
    exact bodyPost_ret (v := .tuple #[.agg #[.int .i64 W3, .int .i64 H3, .int .i64 P3, .slice A3 ys.length c3], .int .i64 q]) (by simp [results, Try.results21, go_sem, r0, r1, r2, r3]) rfl (HE.out _ _ _ _)
set_option maxHeartbeats 2000000 in
theorem anyPlace_any (g N : Nat) (w : World) (h : Rdr w g N) (hN : N ≤ 1000000000) :
    Calls Try.prog 76 #[.pointer (some ⟨g, 0, none⟩)] w fun e w' => ∃ k : Int, e = .returned (.int .i64 k) ∧ Rdr w' g (N + 1) ∧ w.grownBy w' (some g) := by
  go_enter Try.func76, Try.ntmps76
  go_wp2_with fail
  refine (one_lit _ [0, 1, 2, 3, 5, 7, -1, 15, 16] _ _ g N w h hN (by simp) (by simp) rfl rfl).mono ?_
  rintro e w' ⟨k, rfl, hk, hr, hg⟩
  clear hk h
  go_wp2
  go_ret
  exact ⟨k, rfl, hr, hg⟩
set_option maxHeartbeats 8000000 in
theorem drawPix_any (A : Option Addr) (c : Nat) (bs : List Int) (w : World) (hc : bs.length ≤ c) (h : Rdw .u8 w w.heap.size A bs) :
    Calls Try.prog 30 #[.slice A bs.length c] w (DrawnImXY w) := by
  obtain ⟨u0, hu⟩ : ∃ u0, u0 = w.alloc (.cells #[.int .i64 0, .int .i64 0, .int .i64 0, .slice none 0 0] 25) := ⟨_, rfl⟩
  have hz : u0.heap.size = w.heap.size + 1 := by rw [hu]; simp
  have HX0 : Hid (Bx u0 w.heap.size 25 (imC 0 0 0 (.slice none 0 0))) := Lib.hid (by rw [hu]; exact Bx.new w _ _)
  have HB0 : Hid (Below w.heap.size w u0) := Lib.hid (by rw [hu]; exact (Below.refl _ _).alloc (Nat.le_refl _) _)
  have Hh : Hid (Rdw .u8 u0 u0.heap.size A bs) := Lib.hid ⟨(h.1.below HB0.out).more HB0.out.size, h.2⟩
  have HU := Lib.hid hu
  clear h hu
  go_enter Try.func30, Try.ntmps30
  go_wp2_with fail
  rw [← HU.out]
  clear HU
  refine (newReader_any A c bs u0 hc Hh.out).mono ?_
  rintro e u1 ⟨rfl, hr1, hb1, hs1⟩
  have HX1 := Lib.hid (HX0.out.below hb1)
  have HB1 := Lib.hid (HB0.out.trans (hb1.mono HB0.out.size))
  obtain ⟨g, hg⟩ : ∃ g, g = u0.heap.size := ⟨_, rfl⟩
  rw [← hg] at hr1 ⊢
  have hgw : g = w.heap.size + 1 := by omega
  have hsz1 : u1.heap.size = w.heap.size + 2 := by omega
  have Hg := Lib.hid hgw
  have Hs1 := Lib.hid hsz1
  clear hs1 hb1 HX0 HB0 Hh hg hgw hsz1 hz
  go_wp2_with fail
  refine (anyImage_any g 0 u1 hr1 (by omega)).mono ?_
  rintro e u3 ⟨W3, H3, P3, A3, c3, ys, rfl, hy, hyc, hr3, hR3, hG3, hA3⟩
  obtain ⟨u4, hu4⟩ : ∃ u4, u4 = u3.alloc (.cells #[.int .i64 W3, .int .i64 H3, .int .i64 P3, .slice A3 ys.length c3] 25) := ⟨_, rfl⟩
  obtain ⟨b3, hb3⟩ : ∃ b3, b3 = u3.heap.size := ⟨_, rfl⟩
  have hz3 : w.heap.size + 2 ≤ u3.heap.size := by have := hG3.size; have := Hs1.out; omega
  have HX4 : Hid (Bx u4 w.heap.size 25 (imC 0 0 0 (.slice none 0 0))) := Lib.hid (by rw [hu4]; exact (bx_gr HX1.out hG3 (by have := Hg.out; omega)).alloc _)
  have HT4 : Hid (Bx u4 b3 25 (imC W3 H3 P3 (.slice A3 ys.length c3))) := Lib.hid (by rw [hu4, hb3]; exact Bx.new u3 _ _)
  have HR4 : Hid (Rdr u4 g 304) := Lib.hid (by rw [hu4]; exact hR3.alloc _)
  have HY4 : Hid (Rds .i64 u4 u4.heap.size A3 ys) := Lib.hid (by rw [hu4]; exact (hr3.alloc (Nat.le_refl _) _).more (by simp))
  have HB4 : Hid (Below w.heap.size w u4) := Lib.hid (by rw [hu4]; exact (HB1.out.grown hG3 HB1.out.size (fun k hk => by injection hk with hk; have := Hg.out; omega)).alloc (by omega) _)
  have hA4 : ∀ a : Addr, A3 = some a → w.heap.size + 2 ≤ a.block := fun a ha => by have := hA3 a ha; have := Hs1.out; omega
  have HA := Lib.hid hA4
  have hb3g : g < b3 := by have := Hg.out; omega
  have hnb : b3 ≠ w.heap.size := by have := Hg.out; omega
  have hz4 : w.heap.size + 2 ≤ u4.heap.size := by rw [hu4]; simp; omega
  have HU4 := Lib.hid hu4
  have HU3 := Lib.hid hb3
  clear HX1 HB1 hr1 hr3 hR3 hG3 hA3 hA4 hu4 hb3 hz3
  go_wp2_with fail
  (try rw [← HU3.out])
  rw [← HU4.out]
  clear HU4
  refine (anyPlace_any g 304 u4 HR4.out (by omega)).mono ?_
  rintro e u5 ⟨x, rfl, hR5, hG5⟩
  have HT5 := Lib.hid (bx_gr HT4.out hG5 (by omega))
  have HX5 := Lib.hid (bx_gr HX4.out hG5 (by have := Hg.out; omega))
  have HG5 := Lib.hid hG5
  have HR5 := Lib.hid hR5
  clear HT4 HX4 hR5 hG5 HR4
  obtain ⟨t0, t1, t2, t3⟩ := HT5.out.im
  have htl := HT5.out.lt
  go_wp2
  (try rw [← HU3.out])
  clear HU3
  go_region_held3 (fun w' => w'.cell? ⟨b3, 0, none⟩ = some (.int .i64 W3) ∧ w'.cell? ⟨b3, 1, none⟩ = some (.int .i64 H3) ∧ w'.cell? ⟨b3, 2, none⟩ = some (.int .i64 P3) ∧ w'.cell? ⟨b3, 3, none⟩ = some (.slice A3 ys.length c3))
    (first | (with_reducible exact ⟨k0, k1, k2, k3⟩) | (with_reducible exact ⟨(sc4 hnb _ _ _ _).trans k0, (sc4 hnb _ _ _ _).trans k1, (sc4 hnb _ _ _ _).trans k2, (sc4 hnb _ _ _ _).trans k3⟩) | exact ⟨t0, t1, t2, t3⟩ | go_keep)
    (first | (go_at_call 76; refine (anyPlace_any g 305 u5.drew (by exact HR5.out) (by omega)).mono ?_; rintro e u6 ⟨y, rfl, hR6, hG6⟩; have HT6 := Lib.hid (bx_gr (w := u5.drew) HT5.out hG6 (by omega)); obtain ⟨k0, k1, k2, k3⟩ := HT6.out.im; have HX6 := Lib.hid (bx_gr (w := u5.drew) HX5.out hG6 (by have := Hg.out; omega)); have HG6 : Hid (u4.grownBy u6 (some g)) := Lib.hid (gtrans (b := u5.drew) ⟨HG5.out.os, HG5.out.tape, HG5.out.output, HG5.out.size, HG5.out.block⟩ hG6); obtain ⟨r0, r1, r2, r3⟩ := HX6.out.im; have f0 := HX6.out.fz 0; have f1 := HX6.out.fz 1; have f2 := HX6.out.fz 2; have f3 := HX6.out.fz 3; clear hR6 hG6))
  all_goals
    have HE : Hid (∀ v0 v1 v2 v3 : Value, DrawnImXY w (.returned (.tuple #[.agg #[.int .i64 W3, .int .i64 H3, .int .i64 P3, .slice A3 ys.length c3], .int .i64 x, .int .i64 y])) ((((u6.setCell ⟨w.heap.size, 0, none⟩ v0).setCell ⟨w.heap.size, 1, none⟩ v1).setCell ⟨w.heap.size, 2, none⟩ v2).setCell ⟨w.heap.size, 3, none⟩ v3)) := Lib.hid fun v0 v1 v2 v3 => by
      have hG : u4.grownBy u6 (some g) := HG6.out
      have hB : Below w.heap.size w u6 := HB4.out.grown hG HB4.out.size (fun k hk => by injection hk with hk; have := Hg.out; omega)
      have hr : Rds .i64 u6 u6.heap.size A3 ys := (Rds.offG HY4.out (Nat.le_refl _) (lo := w.heap.size + 2) (fun a ha => HA.out a ha) hG (by have := Hg.out; omega)).more hG.size
      exact ⟨W3, H3, P3, A3, c3, ys, x, y, rfl, hy.1, hyc, rds_sets4 hr (fun a ha => by have := HA.out a ha; omega) v0 v1 v2 v3, bel_sets4 hB (Nat.le_refl _) v0 v1 v2 v3⟩
    clear HX5 HT5 HG5 HX6 HT6 HG6 HR5 HY4 HB4 t0 t1 t2 t3 k0 k1 k2 k3
    go_wp2
    exact bodyPost_ret (v := .tuple #[.agg #[.int .i64 W3, .int .i64 H3, .int .i64 P3, .slice A3 ys.length c3], .int .i64 x, .int .i64 y]) (by simp [results, Try.results30, go_sem, r0, r1, r2, r3]) rfl (HE.out _ _ _ _)
/-- Drawn from a code: an image, a place and a list. -/
def DrawnSet (w : World) (e : Ending) (w' : World) : Prop :=
  ∃ (W H P : Int) (A : Option Addr) (c : Nat) (xs : List Int) (x y : Int) (A' : Option Addr) (c' : Nat) (q : List Int), e = .returned (.tuple #[.agg #[.int .i64 W, .int .i64 H, .int .i64 P, .slice A xs.length c], .int .i64 x, .int .i64 y, .slice A' q.length c']) ∧ xs.length ≤ 256 ∧ xs.length ≤ c ∧ Rds .i64 w' w'.heap.size A xs ∧ q.length ≤ 256 ∧ q.length ≤ c' ∧ Rds .i64 w' w'.heap.size A' q ∧ Below w.heap.size w w'
set_option maxHeartbeats 8000000 in
theorem drawSet_any (A : Option Addr) (c : Nat) (bs : List Int) (w : World) (hc : bs.length ≤ c) (h : Rdw .u8 w w.heap.size A bs) :
    Calls Try.prog 32 #[.slice A bs.length c] w (DrawnSet w) := by
  obtain ⟨u0, hu⟩ : ∃ u0, u0 = w.alloc (.cells #[.int .i64 0, .int .i64 0, .int .i64 0, .slice none 0 0] 25) := ⟨_, rfl⟩
  have hz : u0.heap.size = w.heap.size + 1 := by rw [hu]; simp
  have HX0 : Hid (Bx u0 w.heap.size 25 (imC 0 0 0 (.slice none 0 0))) := Lib.hid (by rw [hu]; exact Bx.new w _ _)
  have HB0 : Hid (Below w.heap.size w u0) := Lib.hid (by rw [hu]; exact (Below.refl _ _).alloc (Nat.le_refl _) _)
  have Hh : Hid (Rdw .u8 u0 u0.heap.size A bs) := Lib.hid ⟨(h.1.below HB0.out).more HB0.out.size, h.2⟩
  have HU := Lib.hid hu
  clear h hu
  go_enter Try.func32, Try.ntmps32
  go_wp2_with fail
  rw [← HU.out]
  clear HU
  refine (newReader_any A c bs u0 hc Hh.out).mono ?_
  rintro e u1 ⟨rfl, hr1, hb1, hs1⟩
  have HX1 := Lib.hid (HX0.out.below hb1)
  have HB1 := Lib.hid (HB0.out.trans (hb1.mono HB0.out.size))
  obtain ⟨g, hg⟩ : ∃ g, g = u0.heap.size := ⟨_, rfl⟩
  rw [← hg] at hr1 ⊢
  have hgw : g = w.heap.size + 1 := by omega
  have hsz1 : u1.heap.size = w.heap.size + 2 := by omega
  have Hg := Lib.hid hgw
  have Hs1 := Lib.hid hsz1
  clear hs1 hb1 HX0 HB0 Hh hg hgw hsz1 hz
  go_wp2_with fail
  refine (anyImage_any g 0 u1 hr1 (by omega)).mono ?_
  rintro e u3 ⟨W3, H3, P3, A3, c3, ys, rfl, hy, hyc, hr3, hR3, hG3, hA3⟩
  obtain ⟨u4, hu4⟩ : ∃ u4, u4 = u3.alloc (.cells #[.int .i64 W3, .int .i64 H3, .int .i64 P3, .slice A3 ys.length c3] 25) := ⟨_, rfl⟩
  obtain ⟨b3, hb3⟩ : ∃ b3, b3 = u3.heap.size := ⟨_, rfl⟩
  have hz3 : w.heap.size + 2 ≤ u3.heap.size := by have := hG3.size; have := Hs1.out; omega
  have HX4 : Hid (Bx u4 w.heap.size 25 (imC 0 0 0 (.slice none 0 0))) := Lib.hid (by rw [hu4]; exact (bx_gr HX1.out hG3 (by have := Hg.out; omega)).alloc _)
  have HT4 : Hid (Bx u4 b3 25 (imC W3 H3 P3 (.slice A3 ys.length c3))) := Lib.hid (by rw [hu4, hb3]; exact Bx.new u3 _ _)
  have HR4 : Hid (Rdr u4 g 304) := Lib.hid (by rw [hu4]; exact hR3.alloc _)
  have HY4 : Hid (Rds .i64 u4 u4.heap.size A3 ys) := Lib.hid (by rw [hu4]; exact (hr3.alloc (Nat.le_refl _) _).more (by simp))
  have HB4 : Hid (Below w.heap.size w u4) := Lib.hid (by rw [hu4]; exact (HB1.out.grown hG3 HB1.out.size (fun k hk => by injection hk with hk; have := Hg.out; omega)).alloc (by omega) _)
  have hA4 : ∀ a : Addr, A3 = some a → w.heap.size + 2 ≤ a.block := fun a ha => by have := hA3 a ha; have := Hs1.out; omega
  have HA := Lib.hid hA4
  have hb3g : g < b3 := by have := Hg.out; omega
  have hnb : b3 ≠ w.heap.size := by have := Hg.out; omega
  have hz4 : w.heap.size + 2 ≤ u4.heap.size := by rw [hu4]; simp; omega
  have HU4 := Lib.hid hu4
  have HU3 := Lib.hid hb3
  clear HX1 HB1 hr1 hr3 hR3 hG3 hA3 hA4 hu4 hb3 hz3
  go_wp2_with fail
  (try rw [← HU3.out])
  rw [← HU4.out]
  clear HU4
  refine (pick_any 5 g 304 u4 HR4.out (by omega) (by omega)).mono ?_
  intro e u5 hp
  obtain ⟨x, rfl, _, hR5, hG5, _⟩ := picked_nat hp (by omega)
  have HT5 := Lib.hid (bx_gr HT4.out hG5 (by omega))
  have HX5 := Lib.hid (bx_gr HX4.out hG5 (by have := Hg.out; omega))
  have HG5 := Lib.hid hG5
  have HR5 := Lib.hid hR5
  clear hp HT4 HX4 hR5 hG5 HR4
  go_wp2_with fail
  refine (pick_any 4 g 305 u5 HR5.out (by omega) (by omega)).mono ?_
  intro e u6 hp
  obtain ⟨y, rfl, _, hR6, hG6, _⟩ := picked_nat hp (by omega)
  have HT6 := Lib.hid (bx_gr HT5.out hG6 (by omega))
  have HX6 := Lib.hid (bx_gr HX5.out hG6 (by have := Hg.out; omega))
  have HG6 := Lib.hid (gtrans HG5.out hG6)
  have HR6 := Lib.hid hR6
  clear hp HT5 HX5 HG5 hR6 hG6 HR5
  obtain ⟨t0, t1, t2, t3⟩ := HT6.out.im
  have htl := HT6.out.lt
  go_wp2
  (try rw [← HU3.out])
  clear HU3
  go_region_held3 (fun w' => w'.cell? ⟨b3, 0, none⟩ = some (.int .i64 W3) ∧ w'.cell? ⟨b3, 1, none⟩ = some (.int .i64 H3) ∧ w'.cell? ⟨b3, 2, none⟩ = some (.int .i64 P3) ∧ w'.cell? ⟨b3, 3, none⟩ = some (.slice A3 ys.length c3))
    (first | (with_reducible exact ⟨k0, k1, k2, k3⟩) | (with_reducible exact ⟨(sc4 hnb _ _ _ _).trans k0, (sc4 hnb _ _ _ _).trans k1, (sc4 hnb _ _ _ _).trans k2, (sc4 hnb _ _ _ _).trans k3⟩) | exact ⟨t0, t1, t2, t3⟩ | go_keep)
    (first | (go_at_call 68; refine (anyPixel_any P3 (by exact hy.2) g 306 u6.drew (by exact HR6.out) (by omega)).mono ?_; rintro e u7 ⟨A7, c7, q, rfl, hqc, hql, hq7, hR7, hG7, hA7⟩; have HT7 := Lib.hid (bx_gr (w := u6.drew) HT6.out hG7 (by omega)); obtain ⟨k0, k1, k2, k3⟩ := HT7.out.im; have HX7 := Lib.hid (bx_gr (w := u6.drew) HX6.out hG7 (by have := Hg.out; omega)); have HG7 : Hid (u4.grownBy u7 (some g)) := Lib.hid (gtrans (b := u6.drew) ⟨HG6.out.os, HG6.out.tape, HG6.out.output, HG6.out.size, HG6.out.block⟩ hG7); have Hq7 := Lib.hid hq7; have hz46 : u4.heap.size ≤ u6.heap.size := HG6.out.size; have HA7 : Hid (∀ b : Addr, A7 = some b → u6.heap.size ≤ b.block) := Lib.hid hA7; obtain ⟨r0, r1, r2, r3⟩ := HX7.out.im; have f0 := HX7.out.fz 0; have f1 := HX7.out.fz 1; have f2 := HX7.out.fz 2; have f3 := HX7.out.fz 3; clear hR7 hG7 hq7 hA7))
  all_goals
    have HE : Hid (∀ v0 v1 v2 v3 : Value, DrawnSet w (.returned (.tuple #[.agg #[.int .i64 W3, .int .i64 H3, .int .i64 P3, .slice A3 ys.length c3], .int .i64 (x : Int), .int .i64 (y : Int), .slice A7 q.length c7])) ((((u7.setCell ⟨w.heap.size, 0, none⟩ v0).setCell ⟨w.heap.size, 1, none⟩ v1).setCell ⟨w.heap.size, 2, none⟩ v2).setCell ⟨w.heap.size, 3, none⟩ v3)) := Lib.hid fun v0 v1 v2 v3 => by
      have hG : u4.grownBy u7 (some g) := HG7.out
      have hB : Below w.heap.size w u7 := HB4.out.grown hG HB4.out.size (fun k hk => by injection hk with hk; have := Hg.out; omega)
      have hr : Rds .i64 u7 u7.heap.size A3 ys := (Rds.offG HY4.out (Nat.le_refl _) (lo := w.heap.size + 2) (fun a ha => HA.out a ha) hG (by have := Hg.out; omega)).more hG.size
      exact ⟨W3, H3, P3, A3, c3, ys, (x : Int), (y : Int), A7, c7, q, rfl, hy.1, hyc, rds_sets4 hr (fun a ha => by have := HA.out a ha; omega) v0 v1 v2 v3, by omega, hqc, rds_sets4 Hq7.out (fun a ha => by have := HA7.out a ha; omega) v0 v1 v2 v3, bel_sets4 hB (Nat.le_refl _) v0 v1 v2 v3⟩
    clear HX6 HT6 HG6 HX7 HT7 HG7 HR6 HY4 HB4 Hq7 HA7 t0 t1 t2 t3 k0 k1 k2 k3
    go_wp2
    exact bodyPost_ret (v := .tuple #[.agg #[.int .i64 W3, .int .i64 H3, .int .i64 P3, .slice A3 ys.length c3], .int .i64 (x : Int), .int .i64 (y : Int), .slice A7 q.length c7]) (by simp [results, Try.results32, go_sem, r0, r1, r2, r3]) rfl (HE.out _ _ _ _)
end Go.Proofs.Ytpgicdnbdjdceaa
