/- Contract of the drawing of two images and a region. -/
import Derived.Test.YtklleaojhoklaaaDrawTwo
namespace Go.Proofs.Ytklleaojhoklaaa
open Go.RowKit
set_option linter.unusedSimpArgs false
set_option linter.unusedVariables false
set_option maxRecDepth 20000

/-- Drawn: two images, of a call. -/
def DrawnG (w : World) (e : Ending) (w' : World) : Prop :=
  ∃ (W H P : Int) (A : Option Addr) (c : Nat) (xs : List Int) (W' H' P' : Int) (A' : Option Addr) (c' : Nat) (ys : List Int), e = .returned (.tuple #[.agg #[.int .i64 W, .int .i64 H, .int .i64 P, .slice A xs.length c], .agg #[.int .i64 W', .int .i64 H', .int .i64 P', .slice A' ys.length c']]) ∧ (xs.length ≤ 256 ∧ ys.length ≤ 256) ∧ xs.length ≤ c ∧ ys.length ≤ c' ∧ Rds .i64 w' w'.heap.size A xs ∧ Rds .i64 w' w'.heap.size A' ys ∧ Below w.heap.size w w'
theorem drawn_two {w u : World} {b2 b3 : Nat} {W H P : Int} {A : Option Addr} {c : Nat} {xs : List Int} {W' H' P' : Int} {A' : Option Addr} {c' : Nat} {ys : List Int} (h2 : b2 = w.heap.size) (h3 : b3 = w.heap.size + 1) (hb : Below w.heap.size w u)
    (hl : xs.length ≤ 256 ∧ ys.length ≤ 256) (hc : xs.length ≤ c) (hc' : ys.length ≤ c') (ra : Rds .i64 u u.heap.size A xs) (rb : Rds .i64 u u.heap.size A' ys) (hA : ∀ a : Addr, A = some a → w.heap.size + 2 ≤ a.block) (hA' : ∀ a : Addr, A' = some a → w.heap.size + 2 ≤ a.block) (v0 v1 v2 v3 q0 q1 q2 q3 : Value) :
    DrawnG w (.returned (.tuple #[.agg #[.int .i64 W, .int .i64 H, .int .i64 P, .slice A xs.length c], .agg #[.int .i64 W', .int .i64 H', .int .i64 P', .slice A' ys.length c']])) (s4 (s4 u b2 v0 v1 v2 v3) b3 q0 q1 q2 q3) := by
  have a2 : ∀ a : Addr, A = some a → a.block ≠ b2 := fun a e => by have := hA a e; omega
  have a3 : ∀ a : Addr, A = some a → a.block ≠ b3 := fun a e => by have := hA a e; omega
  have c2 : ∀ a : Addr, A' = some a → a.block ≠ b2 := fun a e => by have := hA' a e; omega
  have c3 : ∀ a : Addr, A' = some a → a.block ≠ b3 := fun a e => by have := hA' a e; omega
  refine ⟨W, H, P, A, c, xs, W', H', P', A', c', ys, rfl, hl, hc, hc', s4_rds (s4_rds ra a2 _ _ _ _) a3 _ _ _ _, s4_rds (s4_rds rb c2 _ _ _ _) c3 _ _ _ _, ?_⟩
  exact (((((((hb.setCell (show w.heap.size ≤ b2 by omega) v0).setCell (show w.heap.size ≤ b2 by omega) v1).setCell (show w.heap.size ≤ b2 by omega) v2).setCell (show w.heap.size ≤ b2 by omega) v3).setCell (show w.heap.size ≤ b3 by omega) q0).setCell (show w.heap.size ≤ b3 by omega) q1).setCell (show w.heap.size ≤ b3 by omega) q2).setCell (show w.heap.size ≤ b3 by omega) q3
set_option maxHeartbeats 8000000 in
theorem drawGap_any (A : Option Addr) (c : Nat) (bs : List Int) (w : World) (hc : bs.length ≤ c) (h : Rdw .u8 w w.heap.size A bs) :
    Calls Try.prog 8 #[.slice A bs.length c] w (DrawnG w) := by
  obtain ⟨u0, hu⟩ : ∃ u0, u0 = (w.alloc (.cells #[.int .i64 0, .int .i64 0, .int .i64 0, .slice none 0 0] 25)).alloc (.cells #[.int .i64 0, .int .i64 0, .int .i64 0, .slice none 0 0] 25) := ⟨_, rfl⟩
  have Hz : Hid (u0.heap.size = w.heap.size + 2) := Lib.hid (by rw [hu]; simp)
  obtain ⟨b2, hb2⟩ : ∃ b2, b2 = w.heap.size := ⟨_, rfl⟩
  obtain ⟨b3, hb3⟩ : ∃ b3, b3 = w.heap.size + 1 := ⟨_, rfl⟩
  have HX2 : Hid (Bx u0 b2 25 (imC 0 0 0 (.slice none 0 0))) := Lib.hid (by rw [hu, hb2]; exact (Bx.new w _ _).alloc _)
  have HX3 : Hid (Bx u0 b3 25 (imC 0 0 0 (.slice none 0 0))) := Lib.hid (by rw [hu, hb3]; have := Bx.new (w.alloc (.cells #[.int .i64 0, .int .i64 0, .int .i64 0, .slice none 0 0] 25)) 25 (imC 0 0 0 (.slice none 0 0)); simpa [imC] using this)
  have HB0 : Hid (Below w.heap.size w u0) := Lib.hid (by rw [hu]; exact ((Below.refl _ _).alloc (Nat.le_refl _) _).alloc (by simp) _)
  have Hh : Hid (Rdw .u8 u0 u0.heap.size A bs) := Lib.hid ⟨(h.1.below HB0.out).more HB0.out.size, h.2⟩
  have HU := Lib.hid hu
  have Hb2 := Lib.hid hb2
  have Hb3 := Lib.hid hb3
  clear h hu hb2 hb3
  go_enter Try.func8, Try.ntmps8
  go_wp2_with fail
  rw [← HU.out, ← Hb3.out, ← Hb2.out]
  clear HU
  refine (newReader_any A c bs u0 hc Hh.out).mono ?_
  rintro e u1 ⟨rfl, hr1, hb1, hs1⟩
  have HX21 := Lib.hid (HX2.out.below hb1)
  have HX31 := Lib.hid (HX3.out.below hb1)
  have HB1 := Lib.hid (HB0.out.trans (hb1.mono HB0.out.size))
  have Hs := Lib.hid hs1
  clear hs1 hb1 HX2 HX3 HB0 Hh
  go_wp2_with fail
  refine (two_any u0.heap.size 0 u1 hr1 (by omega)).mono ?_
  rintro e u3 ⟨W, H, P, A1, c1, xs, W', H', P', A2, c2, ys, rfl, hl, hc1, hc2, hx, hy, hr2, hG3, hA1, hA2⟩
  have hlt1 := hr1.lt
  have X2 := bx_gr HX21.out hG3 (by have := Hz.out; have := Hb2.out; omega)
  have X3' := bx_gr HX31.out hG3 (by have := Hz.out; have := Hb3.out; omega)
  have hB3 : Below w.heap.size w u3 := HB1.out.grown (row := some u0.heap.size) hG3 HB1.out.size (fun k hk => by injection hk with hk; have := Hz.out; omega)
  have o23 : b2 ≠ b3 := by have := Hb2.out; have := Hb3.out; omega
  obtain ⟨r0, r1, r2, r3⟩ := X2.im
  have f0 := X2.fz 0
  have f1 := X2.fz 1
  have f2 := X2.fz 2
  have f3 := X2.fz 3
  have X3 := s4_bx X3' (Ne.symm o23) (.int .i64 W) (.int .i64 H) (.int .i64 P) (.slice A1 xs.length c1)
  obtain ⟨t0, t1, t2, t3⟩ := X3.im
  have g0 := X3.fz 0
  have g1 := X3.fz 1
  have g2 := X3.fz 2
  have g3 := X3.fz 3
  have F2 := s4_bx (two_box X2 (.int .i64 W) (.int .i64 H) (.int .i64 P) (.slice A1 xs.length c1)) o23 (.int .i64 W') (.int .i64 H') (.int .i64 P') (.slice A2 ys.length c2)
  have F3 := two_box X3 (.int .i64 W') (.int .i64 H') (.int .i64 P') (.slice A2 ys.length c2)
  obtain ⟨p0, p1, p2, p3⟩ := (show Bx _ b2 25 (imC W H P (.slice A1 xs.length c1)) from F2).im
  obtain ⟨q0, q1, q2, q3⟩ := (show Bx _ b3 25 (imC W' H' P' (.slice A2 ys.length c2)) from F3).im
  dsimp only [s4] at t0 t1 t2 t3 g0 g1 g2 g3 p0 p1 p2 p3 q0 q1 q2 q3
  have HF := Lib.hid (drawn_two (W := W) (H := H) (P := P) (W' := W') (H' := H') (P' := P') Hb2.out Hb3.out hB3 hl hc1 hc2 hx hy (fun a ha => by have := hA1 a ha; have := Hz.out; have := Hs.out; omega) (fun a ha => by have := hA2 a ha; have := Hz.out; have := Hs.out; omega) (.int .i64 W) (.int .i64 H) (.int .i64 P) (.slice A1 xs.length c1) (.int .i64 W') (.int .i64 H') (.int .i64 P') (.slice A2 ys.length c2))
  clear X2 X3 X3' F2 F3 HX21 HX31 HB1 hB3 hG3 hr1 hr2 hA1 hA2 hx hy hlt1
  go_wp2
  exact bodyPost_ret (v := .tuple #[.agg #[.int .i64 W, .int .i64 H, .int .i64 P, .slice A1 xs.length c1], .agg #[.int .i64 W', .int .i64 H', .int .i64 P', .slice A2 ys.length c2]]) (by simp [results, Try.results8, go_sem, p0, p1, p2, p3, q0, q1, q2, q3]) rfl HF.out
set_option maxHeartbeats 8000000 in
theorem drawChanged_any (A : Option Addr) (c : Nat) (bs : List Int) (w : World) (hc : bs.length ≤ c) (h : Rdw .u8 w w.heap.size A bs) :
    Calls Try.prog 18 #[.slice A bs.length c] w (DrawnG w) := by
  obtain ⟨u0, hu⟩ : ∃ u0, u0 = (w.alloc (.cells #[.int .i64 0, .int .i64 0, .int .i64 0, .slice none 0 0] 25)).alloc (.cells #[.int .i64 0, .int .i64 0, .int .i64 0, .slice none 0 0] 25) := ⟨_, rfl⟩
  have Hz : Hid (u0.heap.size = w.heap.size + 2) := Lib.hid (by rw [hu]; simp)
  obtain ⟨b2, hb2⟩ : ∃ b2, b2 = w.heap.size := ⟨_, rfl⟩
  obtain ⟨b3, hb3⟩ : ∃ b3, b3 = w.heap.size + 1 := ⟨_, rfl⟩
  have HX2 : Hid (Bx u0 b2 25 (imC 0 0 0 (.slice none 0 0))) := Lib.hid (by rw [hu, hb2]; exact (Bx.new w _ _).alloc _)
  have HX3 : Hid (Bx u0 b3 25 (imC 0 0 0 (.slice none 0 0))) := Lib.hid (by rw [hu, hb3]; have := Bx.new (w.alloc (.cells #[.int .i64 0, .int .i64 0, .int .i64 0, .slice none 0 0] 25)) 25 (imC 0 0 0 (.slice none 0 0)); simpa [imC] using this)
  have HB0 : Hid (Below w.heap.size w u0) := Lib.hid (by rw [hu]; exact ((Below.refl _ _).alloc (Nat.le_refl _) _).alloc (by simp) _)
  have Hh : Hid (Rdw .u8 u0 u0.heap.size A bs) := Lib.hid ⟨(h.1.below HB0.out).more HB0.out.size, h.2⟩
  have HU := Lib.hid hu
  have Hb2 := Lib.hid hb2
  have Hb3 := Lib.hid hb3
  clear h hu hb2 hb3
  go_enter Try.func18, Try.ntmps18
  go_wp2_with fail
  rw [← HU.out, ← Hb3.out, ← Hb2.out]
  clear HU
  refine (newReader_any A c bs u0 hc Hh.out).mono ?_
  rintro e u1 ⟨rfl, hr1, hb1, hs1⟩
  have HX21 := Lib.hid (HX2.out.below hb1)
  have HX31 := Lib.hid (HX3.out.below hb1)
  have HB1 := Lib.hid (HB0.out.trans (hb1.mono HB0.out.size))
  have Hs := Lib.hid hs1
  clear hs1 hb1 HX2 HX3 HB0 Hh
  go_wp2_with fail
  refine (two_any u0.heap.size 0 u1 hr1 (by omega)).mono ?_
  rintro e u3 ⟨W, H, P, A1, c1, xs, W', H', P', A2, c2, ys, rfl, hl, hc1, hc2, hx, hy, hr2, hG3, hA1, hA2⟩
  have hlt1 := hr1.lt
  have X2 := bx_gr HX21.out hG3 (by have := Hz.out; have := Hb2.out; omega)
  have X3' := bx_gr HX31.out hG3 (by have := Hz.out; have := Hb3.out; omega)
  have hB3 : Below w.heap.size w u3 := HB1.out.grown (row := some u0.heap.size) hG3 HB1.out.size (fun k hk => by injection hk with hk; have := Hz.out; omega)
  have o23 : b2 ≠ b3 := by have := Hb2.out; have := Hb3.out; omega
  obtain ⟨r0, r1, r2, r3⟩ := X2.im
  have f0 := X2.fz 0
  have f1 := X2.fz 1
  have f2 := X2.fz 2
  have f3 := X2.fz 3
  have X3 := s4_bx X3' (Ne.symm o23) (.int .i64 W) (.int .i64 H) (.int .i64 P) (.slice A1 xs.length c1)
  obtain ⟨t0, t1, t2, t3⟩ := X3.im
  have g0 := X3.fz 0
  have g1 := X3.fz 1
  have g2 := X3.fz 2
  have g3 := X3.fz 3
  have F2 := s4_bx (two_box X2 (.int .i64 W) (.int .i64 H) (.int .i64 P) (.slice A1 xs.length c1)) o23 (.int .i64 W') (.int .i64 H') (.int .i64 P') (.slice A2 ys.length c2)
  have F3 := two_box X3 (.int .i64 W') (.int .i64 H') (.int .i64 P') (.slice A2 ys.length c2)
  obtain ⟨p0, p1, p2, p3⟩ := (show Bx _ b2 25 (imC W H P (.slice A1 xs.length c1)) from F2).im
  obtain ⟨q0, q1, q2, q3⟩ := (show Bx _ b3 25 (imC W' H' P' (.slice A2 ys.length c2)) from F3).im
  dsimp only [s4] at t0 t1 t2 t3 g0 g1 g2 g3 p0 p1 p2 p3 q0 q1 q2 q3
  have HF := Lib.hid (drawn_two (W := W) (H := H) (P := P) (W' := W') (H' := H') (P' := P') Hb2.out Hb3.out hB3 hl hc1 hc2 hx hy (fun a ha => by have := hA1 a ha; have := Hz.out; have := Hs.out; omega) (fun a ha => by have := hA2 a ha; have := Hz.out; have := Hs.out; omega) (.int .i64 W) (.int .i64 H) (.int .i64 P) (.slice A1 xs.length c1) (.int .i64 W') (.int .i64 H') (.int .i64 P') (.slice A2 ys.length c2))
  clear X2 X3 X3' F2 F3 HX21 HX31 HB1 hB3 hG3 hr1 hr2 hA1 hA2 hx hy hlt1
  go_wp2
  exact bodyPost_ret (v := .tuple #[.agg #[.int .i64 W, .int .i64 H, .int .i64 P, .slice A1 xs.length c1], .agg #[.int .i64 W', .int .i64 H', .int .i64 P', .slice A2 ys.length c2]]) (by simp [results, Try.results18, go_sem, p0, p1, p2, p3, q0, q1, q2, q3]) rfl HF.out
end Go.Proofs.Ytklleaojhoklaaa
