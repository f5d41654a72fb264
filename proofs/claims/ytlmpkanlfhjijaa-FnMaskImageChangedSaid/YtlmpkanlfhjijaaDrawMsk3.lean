/- Contract of the drawing of two images and a region. -/
import Derived.Test.YtlmpkanlfhjijaaMgT
import Derived.Test.YtlmpkanlfhjijaaMgR
namespace Go.Proofs.Ytlmpkanlfhjijaa
open Go.RowKit
set_option linter.unusedSimpArgs false
set_option linter.unusedVariables false
set_option maxRecDepth 20000

/-- Drawn: two images and runs. -/
def DrawnM (w : World) (e : Ending) (w' : World) : Prop :=
  ∃ (W H P : Int) (A : Option Addr) (c : Nat) (xs : List Int) (W' H' P' : Int) (A' : Option Addr) (c' : Nat) (ys : List Int) (v : Value) (n : Nat) (rs : List Int), e = .returned (.tuple #[.agg #[.int .i64 W, .int .i64 H, .int .i64 P, .slice A xs.length c], .agg #[.int .i64 W', .int .i64 H', .int .i64 P', .slice A' ys.length c'], v]) ∧ (xs.length ≤ 256 ∧ ys.length ≤ 256 ∧ n ≤ 300) ∧ xs.length ≤ c ∧ ys.length ≤ c' ∧ Rds .i64 w' w'.heap.size A xs ∧ Rds .i64 w' w'.heap.size A' ys ∧ OwnT 82 3 w' w.heap.size v n rs ∧ Below w.heap.size w w'
theorem drawn_mask {w u : World} {b2 b3 : Nat} {W H P : Int} {A : Option Addr} {c : Nat} {xs : List Int} {W' H' P' : Int} {A' : Option Addr} {c' : Nat} {ys : List Int} {v : Value} {n : Nat} {rs : List Int} (h2 : b2 = w.heap.size) (h3 : b3 = w.heap.size + 1) (hb : Below w.heap.size w u)
    (hl : xs.length ≤ 256 ∧ ys.length ≤ 256 ∧ n ≤ 300) (hc : xs.length ≤ c) (hc' : ys.length ≤ c') (ra : Rds .i64 u u.heap.size A xs) (rb : Rds .i64 u u.heap.size A' ys) (hA : ∀ a : Addr, A = some a → w.heap.size + 2 ≤ a.block) (hA' : ∀ a : Addr, A' = some a → w.heap.size + 2 ≤ a.block)
    (hO : OwnT 82 3 u w.heap.size v n rs) (hv : v.ownBlock ≠ some b2 ∧ v.ownBlock ≠ some b3) (v0 v1 v2 v3 q0 q1 q2 q3 : Value) :
    DrawnM w (.returned (.tuple #[.agg #[.int .i64 W, .int .i64 H, .int .i64 P, .slice A xs.length c], .agg #[.int .i64 W', .int .i64 H', .int .i64 P', .slice A' ys.length c'], v])) (s4 (s4 u b2 v0 v1 v2 v3) b3 q0 q1 q2 q3) := by
  have a2 : ∀ a : Addr, A = some a → a.block ≠ b2 := fun a e => by have := hA a e; omega
  have a3 : ∀ a : Addr, A = some a → a.block ≠ b3 := fun a e => by have := hA a e; omega
  have c2 : ∀ a : Addr, A' = some a → a.block ≠ b2 := fun a e => by have := hA' a e; omega
  have c3 : ∀ a : Addr, A' = some a → a.block ≠ b3 := fun a e => by have := hA' a e; omega
  refine ⟨W, H, P, A, c, xs, W', H', P', A', c', ys, v, n, rs, rfl, hl, hc, hc', s4_rds (s4_rds ra a2 _ _ _ _) a3 _ _ _ _, s4_rds (s4_rds rb c2 _ _ _ _) c3 _ _ _ _, (hO.kept (two_set u b2 _ _ _ _) (.inr hv.1)).kept (two_set _ b3 _ _ _ _) (.inr hv.2), ?_⟩
  exact (((((((hb.setCell (show w.heap.size ≤ b2 by omega) v0).setCell (show w.heap.size ≤ b2 by omega) v1).setCell (show w.heap.size ≤ b2 by omega) v2).setCell (show w.heap.size ≤ b2 by omega) v3).setCell (show w.heap.size ≤ b3 by omega) q0).setCell (show w.heap.size ≤ b3 by omega) q1).setCell (show w.heap.size ≤ b3 by omega) q2).setCell (show w.heap.size ≤ b3 by omega) q3
theorem DrawnM.drew {w w' : World} {e : Ending} (h : DrawnM w e w') : DrawnM w e w'.drew := by
  obtain ⟨W, H, P, A, c, xs, W', H', P', A', c', ys, v, n, rs, h0, h1, h2, h3, h4, h5, h6, h7⟩ := h
  exact ⟨W, H, P, A, c, xs, W', H', P', A', c', ys, v, n, rs, h0, h1, h2, h3, h4, h5, h6, h7.drew⟩
theorem mask_post {w U w3 : World} {g b2 b3 : Nat} {W H P : Int} {A : Option Addr} {c : Nat} {xs : List Int} {W' H' P' : Int} {A' : Option Addr} {c' : Nat} {ys : List Int} {v : Value} {n : Nat} {rs : List Int} (h2 : b2 = w.heap.size) (h3 : b3 = w.heap.size + 1) (hgw : g = w.heap.size + 2) (hUw : w.heap.size + 3 ≤ U.heap.size)
    (hV : Rdr U g (0 + 1000) ∧ Below w.heap.size w U ∧ Bx U b2 25 (imC 0 0 0 (.slice none 0 0)) ∧ Bx U b3 25 (imC 0 0 0 (.slice none 0 0)) ∧ Rds .i64 U U.heap.size A xs ∧ Rds .i64 U U.heap.size A' ys) (hG : U.grownBy w3 (some g)) (hO : OwnT 82 3 w3 U.heap.size v n rs) (hn : n ≤ 300)
    (hl : xs.length ≤ 256 ∧ ys.length ≤ 256) (hc : xs.length ≤ c) (hc' : ys.length ≤ c') (hA : ∀ a : Addr, A = some a → w.heap.size + 3 ≤ a.block) (hA' : ∀ a : Addr, A' = some a → w.heap.size + 3 ≤ a.block) (v0 v1 v2 v3 q0 q1 q2 q3 : Value) :
    DrawnM w (.returned (.tuple #[.agg #[.int .i64 W, .int .i64 H, .int .i64 P, .slice A xs.length c], .agg #[.int .i64 W', .int .i64 H', .int .i64 P', .slice A' ys.length c'], v])) (s4 (s4 w3 b2 v0 v1 v2 v3) b3 q0 q1 q2 q3) := by
  obtain ⟨hR, hB, _, _, ra, rb⟩ := hV
  refine drawn_mask h2 h3 (hB.grown hG hB.size (fun k hk => by injection hk with hk; omega)) ⟨hl.1, hl.2, hn⟩ hc hc' ((Rds.offG ra (Nat.le_refl _) hA hG (by omega)).more hG.size) ((Rds.offG rb (Nat.le_refl _) hA' hG (by omega)).more hG.size) (fun a e => by have := hA a e; omega) (fun a e => by have := hA' a e; omega) (hO.base_le hB.size) ⟨fun e => ?_, fun e => ?_⟩ v0 v1 v2 v3 q0 q1 q2 q3
  · have := (hO.lt _ e).1; omega
  · have := (hO.lt _ e).1; omega
set_option maxHeartbeats 8000000 in
theorem drawMask_any (A : Option Addr) (c : Nat) (bs : List Int) (w : World) (hc : bs.length ≤ c) (h : Rdw .u8 w w.heap.size A bs) :
    Calls Try.prog 29 #[.slice A bs.length c] w (DrawnM w) := by
  obtain ⟨u0, hu⟩ : ∃ u0, u0 = (w.alloc (.cells #[.int .i64 0, .int .i64 0, .int .i64 0, .slice none 0 0] 25)).alloc (.cells #[.int .i64 0, .int .i64 0, .int .i64 0, .slice none 0 0] 25) := ⟨_, rfl⟩
  have Hz : Hid (u0.heap.size = w.heap.size + 2) := Lib.hid (by rw [hu]; simp)
  obtain ⟨b2, hb2⟩ : ∃ b2, b2 = w.heap.size := ⟨_, rfl⟩
  obtain ⟨b3, hb3⟩ : ∃ b3, b3 = w.heap.size + 1 := ⟨_, rfl⟩
  have HX2 : Hid (Bx u0 b2 25 (imC 0 0 0 (.slice none 0 0))) := Lib.hid (by rw [hu, hb2]; exact (Bx.new w _ _).alloc _)
  have HX3 : Hid (Bx u0 b3 25 (imC 0 0 0 (.slice none 0 0))) := Lib.hid (by rw [hu, hb3]; have := Bx.new (w.alloc (.cells #[.int .i64 0, .int .i64 0, .int .i64 0, .slice none 0 0] 25)) 25 (imC 0 0 0 (.slice none 0 0)); simpa [imC] using this)
  have HB0 : Hid (Below w.heap.size w u0) := Lib.hid (by rw [hu]; exact ((Below.refl _ _).alloc (Nat.le_refl _) _).alloc (by simp) _)
  have Hh : Hid (Rdw .u8 u0 u0.heap.size A bs) := Lib.hid ⟨(h.1.below HB0.out).more HB0.out.size, h.2⟩
  have HU := Lib.hid hu
  have Hb2 := Lib.hid hb2
  have Hb3 := Lib.hid hb3
  clear h hu hb2 hb3
  go_enter Try.func29, Try.ntmps29
  go_wp2_with fail
  rw [← HU.out, ← Hb3.out, ← Hb2.out]
  clear HU
  refine (newReader_any A c bs u0 hc Hh.out).mono ?_
  rintro e u1 ⟨rfl, hr1, hb1, hs1⟩
  have HX21 := Lib.hid (HX2.out.below hb1)
  have HX31 := Lib.hid (HX3.out.below hb1)
  have HB1 := Lib.hid (HB0.out.trans (hb1.mono HB0.out.size))
  have Hs := Lib.hid hs1
  obtain ⟨g, hg⟩ : ∃ g, g = u0.heap.size := ⟨_, rfl⟩
  rw [← hg] at hr1 ⊢
  have Hg := Lib.hid (show g = w.heap.size + 2 by have := Hz.out; omega)
  clear hs1 hb1 HX2 HX3 HB0 Hh hg
  go_wp2_with fail
  refine (two_any g 0 u1 hr1 (by omega)).mono ?_
  rintro e u3 ⟨W, H, P, A1, c1, xs, W', H', P', A2, c2, ys, rfl, hl, hc1, hc2, hx, hy, hr2, hG3, hA1, hA2⟩
  have hlt1 := hr1.lt
  have hgw := Hg.out
  have X2 := bx_gr HX21.out hG3 (by have := Hb2.out; omega)
  have X3 := bx_gr HX31.out hG3 (by have := Hb3.out; omega)
  have hB3 : Below w.heap.size w u3 := HB1.out.grown (row := some g) hG3 HB1.out.size (fun k hk => by injection hk with hk; omega)
  obtain ⟨U, hU⟩ : ∃ U, U = (u3.alloc (.cells #[.int .i64 W, .int .i64 H, .int .i64 P, .slice A1 xs.length c1] 25)).alloc (.cells #[.int .i64 W', .int .i64 H', .int .i64 P', .slice A2 ys.length c2] 25) := ⟨_, rfl⟩
  obtain ⟨b6, hb6⟩ : ∃ b, b = u3.heap.size := ⟨_, rfl⟩
  obtain ⟨b7, hb7⟩ : ∃ b, b = u3.heap.size + 1 := ⟨_, rfl⟩
  have hz3 := hG3.size
  have hsz0 := HB1.out.size
  have HA1 : Hid (∀ a : Addr, A1 = some a → w.heap.size + 3 ≤ a.block) := Lib.hid (fun a ha => by have := hA1 a ha; omega)
  have HA2 : Hid (∀ a : Addr, A2 = some a → w.heap.size + 3 ≤ a.block) := Lib.hid (fun a ha => by have := hA2 a ha; omega)
  have HV : Hid (Rdr U g (0 + 1000) ∧ Below w.heap.size w U ∧ Bx U b2 25 (imC 0 0 0 (.slice none 0 0)) ∧ Bx U b3 25 (imC 0 0 0 (.slice none 0 0)) ∧ Rds .i64 U U.heap.size A1 xs ∧ Rds .i64 U U.heap.size A2 ys) := Lib.hid (by
    rw [hU]
    exact ⟨(hr2.alloc _).alloc _, (hB3.alloc hB3.size _).alloc (by have := hB3.size; simp; omega) _, (X2.alloc _).alloc _, (X3.alloc _).alloc _, ((hx.alloc (Nat.le_refl _) _).alloc (by simp) _).more (by simp <;> omega), ((hy.alloc (Nat.le_refl _) _).alloc (by simp) _).more (by simp <;> omega)⟩)
  have X6 : Bx U b6 25 (imC W H P (.slice A1 xs.length c1)) := by rw [hU, hb6]; exact (Bx.new u3 _ _).alloc _
  have X7 : Bx U b7 25 (imC W' H' P' (.slice A2 ys.length c2)) := by
    rw [hU, hb7]
    have := Bx.new (u3.alloc (.cells #[.int .i64 W, .int .i64 H, .int .i64 P, .slice A1 xs.length c1] 25)) 25 (imC W' H' P' (.slice A2 ys.length c2))
    simpa [imC] using this
  have H6 := Lib.hid X6
  have H7 := Lib.hid X7
  have e62 : b6 ≠ b2 := by have := Hb2.out; omega
  have e63 : b6 ≠ b3 := by have := Hb3.out; omega
  have e72 : b7 ≠ b2 := by have := Hb2.out; omega
  have e73 : b7 ≠ b3 := by have := Hb3.out; omega
  have e6g : b6 ≠ g := by omega
  have e7g : b7 ≠ g := by omega
  have e2g : b2 ≠ g := by have := Hb2.out; omega
  have e3g : b3 ≠ g := by have := Hb3.out; omega
  have o23 : b2 ≠ b3 := by have := Hb2.out; have := Hb3.out; omega
  have hUw : w.heap.size + 3 ≤ U.heap.size := by rw [hU]; simp; omega
  obtain ⟨m0, m1, m2, m3⟩ := X6.im
  obtain ⟨n0, n1, n2, n3⟩ := X7.im
  have HUU := Lib.hid hU
  have Hb6 := Lib.hid hb6
  have Hb7 := Lib.hid hb7
  have HUw := Lib.hid hUw
  clear hgw hUw hU hb6 hb7 X2 X3 X6 X7 hB3 hx hy hr2 hG3 hA1 hA2 HX21 HX31 HB1 hr1 hz3 hsz0 hlt1
  go_upto_region 3 with fail
  rw [← HUU.out, ← Hb7.out, ← Hb6.out]
  clear HUU Hb6 Hb7
  clear e62 e63 e73
  go_region_with (go_at_call 63; go_loud (refine (anyRegion_any g (0 + 1000) U.drew (by exact HV.out.1) (by omega)).mono ?_; rintro e w3 ⟨v, n, rs, rfl, hn, hO, hr3, hg3⟩; have hG : U.grownBy w3 (some g) := ⟨hg3.os, hg3.tape, hg3.output, hg3.size, hg3.block⟩; have HF := Lib.hid (mask_post (W := W) (H := H) (P := P) (W' := W') (H' := H') (P' := P') Hb2.out Hb3.out Hg.out HUw.out HV.out hG hO hn hl hc1 hc2 HA1.out HA2.out (.int .i64 W) (.int .i64 H) (.int .i64 P) (.slice A1 xs.length c1) (.int .i64 W') (.int .i64 H') (.int .i64 P') (.slice A2 ys.length c2)); have Y6 := bx_gr H6.out hG e6g; have Y7 := bx_gr H7.out hG e7g; have Z2 := bx_gr HV.out.2.2.1 hG e2g; have Z3 := bx_gr HV.out.2.2.2.1 hG e3g; obtain ⟨y0, y1, y2, y3⟩ := Y6.im; obtain ⟨z0, z1, z2, z3⟩ := Y7.im; obtain ⟨r0, r1, r2, r3⟩ := Z2.im; have f0 := Z2.fz 0; have f1 := Z2.fz 1; have f2 := Z2.fz 2; have f3 := Z2.fz 3; have X3 := s4_bx Z3 (Ne.symm o23) (.int .i64 W) (.int .i64 H) (.int .i64 P) (.slice A1 xs.length c1); obtain ⟨t0, t1, t2, t3⟩ := X3.im; have g0 := X3.fz 0; have g1 := X3.fz 1; have g2 := X3.fz 2; have g3 := X3.fz 3; have F2 := s4_bx (two_box Z2 (.int .i64 W) (.int .i64 H) (.int .i64 P) (.slice A1 xs.length c1)) o23 (.int .i64 W') (.int .i64 H') (.int .i64 P') (.slice A2 ys.length c2); have F3 := two_box X3 (.int .i64 W') (.int .i64 H') (.int .i64 P') (.slice A2 ys.length c2); obtain ⟨p0, p1, p2, p3⟩ := (show Bx _ b2 25 (imC W H P (.slice A1 xs.length c1)) from F2).im; obtain ⟨q0, q1, q2, q3⟩ := (show Bx _ b3 25 (imC W' H' P' (.slice A2 ys.length c2)) from F3).im; have Y8 := s4_bx Y7 e72 (.int .i64 W) (.int .i64 H) (.int .i64 P) (.slice A1 xs.length c1); obtain ⟨z4, z5, z6, z7⟩ := Y8.im; dsimp only [s4] at z4 z5 z6 z7; dsimp only [s4] at t0 t1 t2 t3 g0 g1 g2 g3 p0 p1 p2 p3 q0 q1 q2 q3; clear Y8 hr3 hg3 hG hO X3 F2 F3 Y6 Y7 Z2 Z3 hn))
  all_goals
    go_wp2
    exact bodyPost_ret (v := .tuple #[.agg #[.int .i64 W, .int .i64 H, .int .i64 P, .slice A1 xs.length c1], .agg #[.int .i64 W', .int .i64 H', .int .i64 P', .slice A2 ys.length c2], v]) (by simp [results, Try.results29, go_sem, p0, p1, p2, p3, q0, q1, q2, q3]) rfl (by first | exact HF.out | exact HF.out.drew)
end Go.Proofs.Ytlmpkanlfhjijaa
