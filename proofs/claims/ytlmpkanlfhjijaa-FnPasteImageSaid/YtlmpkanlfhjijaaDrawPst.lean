/- Contract of the drawing of an image, a place and an image. -/
import Derived.Test.YtlmpkanlfhjijaaMgT
import Derived.Deep.RegionHeld3
namespace Go.Proofs.Ytlmpkanlfhjijaa
open Go.RowKit
set_option linter.unusedSimpArgs false
set_option linter.unusedVariables false
set_option maxRecDepth 20000

/-- What the drawing keeps. -/
structure PstS (w wr : World) (g M b2 b3 b4 : Nat) (W H P : Int) (A : Option Addr) (c : Nat) (xs : List Int) : Prop where
  rd : Rdr wr g M
  be : Below w.heap.size w wr
  x2 : Bx wr b2 25 (imC 0 0 0 (.slice none 0 0))
  x3 : Bx wr b3 25 (imC 0 0 0 (.slice none 0 0))
  x4 : Bx wr b4 25 (imC W H P (.slice A xs.length c))
  ra : Rds .i64 wr wr.heap.size A xs
theorem PstS.step {w wr w' : World} {g M M' b2 b3 b4 : Nat} {W H P : Int} {A : Option Addr} {c : Nat} {xs : List Int} (h : PstS w wr g M b2 b3 b4 W H P A c xs) (n2 : b2 ≠ g) (n3 : b3 ≠ g) (n4 : b4 ≠ g) (hgw : w.heap.size ≤ g) (hA : ∀ a : Addr, A = some a → g + 1 ≤ a.block) (hG : wr.grownBy w' (some g)) (hR : Rdr w' g M') : PstS w w' g M' b2 b3 b4 W H P A c xs :=
  ⟨hR, h.be.grown hG h.be.size (fun k hk => by injection hk with hk; omega), bx_gr h.x2 hG n2, bx_gr h.x3 hG n3, bx_gr h.x4 hG n4, (Rds.offG h.ra (Nat.le_refl _) hA hG (Nat.lt_succ_self g)).more hG.size⟩
theorem PstS.alloc {w wr : World} {g M b2 b3 b4 : Nat} {W H P : Int} {A : Option Addr} {c : Nat} {xs : List Int} (h : PstS w wr g M b2 b3 b4 W H P A c xs) (o : Obj) : PstS w (wr.alloc o) g M b2 b3 b4 W H P A c xs :=
  ⟨h.rd.alloc o, h.be.alloc h.be.size o, h.x2.alloc o, h.x3.alloc o, h.x4.alloc o, (h.ra.alloc (Nat.le_refl _) o).more (by simp)⟩
theorem PstS.set {w wr u5 : World} {g M b2 b3 b4 b5 : Nat} {W H P : Int} {A : Option Addr} {c : Nat} {xs : List Int} (h : PstS w wr g M b2 b3 b4 W H P A c xs) (h5 : g < b5) (n2 : b2 ≠ b5) (n3 : b3 ≠ b5) (n4 : b4 ≠ b5) (hw : w.heap.size ≤ b5) (ho : Rds .i64 u5 u5.heap.size A xs) (hz : u5.heap.size ≤ b5) (v0 v1 v2 v3 : Value) : PstS w (s4 wr b5 v0 v1 v2 v3) g M b2 b3 b4 W H P A c xs :=
  ⟨s4_rdr h.rd h5 _ _ _ _, (((h.be.setCell hw v0).setCell hw v1).setCell hw v2).setCell hw v3, s4_bx h.x2 n2 _ _ _ _, s4_bx h.x3 n3 _ _ _ _, s4_bx h.x4 n4 _ _ _ _, s4_rds2 h.ra ho hz (Nat.le_refl _) _ _ _ _⟩
/-- Drawn: an image, a place and an image. -/
def DrawnP (w : World) (e : Ending) (w' : World) : Prop :=
  ∃ (W H P : Int) (A : Option Addr) (c : Nat) (xs : List Int) (x y : Int) (W' H' P' : Int) (A' : Option Addr) (c' : Nat) (ys : List Int), e = .returned (.tuple #[.agg #[.int .i64 W, .int .i64 H, .int .i64 P, .slice A xs.length c], .int .i64 x, .int .i64 y, .agg #[.int .i64 W', .int .i64 H', .int .i64 P', .slice A' ys.length c']]) ∧ ((xs.length ≤ 256 ∧ ys.length ≤ 256) ∧ (-100 ≤ x ∧ x ≤ 100) ∧ (-100 ≤ y ∧ y ≤ 100)) ∧ xs.length ≤ c ∧ ys.length ≤ c' ∧ Rds .i64 w' w'.heap.size A xs ∧ Rds .i64 w' w'.heap.size A' ys ∧ Below w.heap.size w w'
theorem PstS.ret {w u : World} {g M b2 b3 b4 : Nat} {W H P : Int} {A : Option Addr} {c : Nat} {xs : List Int} {W' H' P' : Int} {A' : Option Addr} {c' : Nat} {ys : List Int} {x y : Int} (h : PstS w u g M b2 b3 b4 W H P A c xs) (h2 : b2 = w.heap.size) (h3 : b3 = w.heap.size + 1) (hg : g = w.heap.size + 2) (rb : Rds .i64 u u.heap.size A' ys)
    (hl : (xs.length ≤ 256 ∧ ys.length ≤ 256) ∧ (-100 ≤ x ∧ x ≤ 100) ∧ (-100 ≤ y ∧ y ≤ 100)) (hc : xs.length ≤ c) (hc' : ys.length ≤ c') (hA : ∀ a : Addr, A = some a → g + 1 ≤ a.block) (hA' : ∀ a : Addr, A' = some a → g + 1 ≤ a.block) (v0 v1 v2 v3 q0 q1 q2 q3 : Value) :
    DrawnP w (.returned (.tuple #[.agg #[.int .i64 W, .int .i64 H, .int .i64 P, .slice A xs.length c], .int .i64 x, .int .i64 y, .agg #[.int .i64 W', .int .i64 H', .int .i64 P', .slice A' ys.length c']])) (s4 (s4 u b2 v0 v1 v2 v3) b3 q0 q1 q2 q3) := by
  have a2 : ∀ a : Addr, A = some a → a.block ≠ b2 := fun a e => by have := hA a e; omega
  have a3 : ∀ a : Addr, A = some a → a.block ≠ b3 := fun a e => by have := hA a e; omega
  have c2 : ∀ a : Addr, A' = some a → a.block ≠ b2 := fun a e => by have := hA' a e; omega
  have c3 : ∀ a : Addr, A' = some a → a.block ≠ b3 := fun a e => by have := hA' a e; omega
  refine ⟨W, H, P, A, c, xs, x, y, W', H', P', A', c', ys, rfl, hl, hc, hc', s4_rds (s4_rds h.ra a2 _ _ _ _) a3 _ _ _ _, s4_rds (s4_rds rb c2 _ _ _ _) c3 _ _ _ _, ?_⟩
  exact (((((((h.be.setCell (show w.heap.size ≤ b2 by omega) v0).setCell (show w.heap.size ≤ b2 by omega) v1).setCell (show w.heap.size ≤ b2 by omega) v2).setCell (show w.heap.size ≤ b2 by omega) v3).setCell (show w.heap.size ≤ b3 by omega) q0).setCell (show w.heap.size ≤ b3 by omega) q1).setCell (show w.heap.size ≤ b3 by omega) q2).setCell (show w.heap.size ≤ b3 by omega) q3
theorem DrawnP.drew {w w' : World} {e : Ending} (h : DrawnP w e w') : DrawnP w e w'.drew := by
  obtain ⟨W, H, P, A, c, xs, x, y, W', H', P', A', c', ys, h0, h1, h2, h3, h4, h5, h6⟩ := h
  exact ⟨W, H, P, A, c, xs, x, y, W', H', P', A', c', ys, h0, h1, h2, h3, h4, h5, h6.drew⟩
theorem one_litP (cs : Array Value) (xs : List Int) (n c p : Nat) (g N : Nat) (w : World) (hp : p = w.heap.size) (h : Rdr w g N) (hN : N ≤ 1000000000) (hx : 0 < xs.length) (hl : xs.length ≤ 1000) (hn : n = xs.length) (hcs : cs.toList = xs.map (.int .i64)) :
    Calls Try.prog 34 #[.pointer (some ⟨g, 0, none⟩), .slice (some ⟨p, 0, none⟩) n c] (w.alloc (.cells cs 3)) fun e w' => ∃ k : Int, e = .returned (.int .i64 k) ∧ k ∈ xs ∧ Rdr w' g (N + 1) ∧ w.grownBy w' (some g) := by
  subst hp
  exact one_lit cs xs n c g N w h hN hx hl hn hcs
/-- A random image, of any number of planes. -/
theorem randQ (Q : Int) (hQ : 1 ≤ Q ∧ Q ≤ 4) (g N : Nat) (w : World) (h : Rdr w g N) (hN : N ≤ 10000000) :
    Calls Try.prog 35 #[.pointer (some ⟨g, 0, none⟩), .int .i64 Q] w (DrawIm g (N + 300) w) := by
  obtain ⟨p, rfl⟩ : ∃ p : Nat, Q = p := ⟨Q.toNat, by omega⟩
  refine (randomImage_any p (by omega) (by omega) g N w h hN).mono ?_
  rintro e w' ⟨W, H, gb, c, xs, rfl, w1, w8, h1, h8, hl, hO, hR, hG⟩
  have hb : xs.length ≤ 256 := by
    rw [hl]
    have := Nat.mul_le_mul (Nat.mul_le_mul w8 h8) (show p ≤ 4 by omega)
    omega
  obtain ⟨A, c', e, hc⟩ := hO.slice
  simp only [Value.slice.injEq] at e
  obtain ⟨_, _, rfl⟩ := e
  exact ⟨W, H, p, _, c, xs, rfl, ⟨hb, by omega⟩, hc, hO.rds.2, hR, hG, fun a ha => by injection ha with ha; subst ha; exact (hO.lt gb rfl).1⟩
theorem pst_x {x : Int} (h : x ∈ [0, 1, -1, 2, -2, 16, 17, -17]) : -100 ≤ x ∧ x ≤ 100 := by simp at h; omega
theorem pst_y {x : Int} (h : x ∈ [0, 1, -1, 2, -16, 17]) : -100 ≤ x ∧ x ≤ 100 := by simp at h; omega
set_option maxHeartbeats 16000000 in
theorem drawPst_any (A : Option Addr) (c : Nat) (bs : List Int) (w : World) (hc : bs.length ≤ c) (h : Rdw .u8 w w.heap.size A bs) :
    Calls Try.prog 8 #[.slice A bs.length c] w (DrawnP w) := by
  obtain ⟨u0, hu⟩ : ∃ u0, u0 = (w.alloc (.cells #[.int .i64 0, .int .i64 0, .int .i64 0, .slice none 0 0] 25)).alloc (.cells #[.int .i64 0, .int .i64 0, .int .i64 0, .slice none 0 0] 25) := ⟨_, rfl⟩
  have Hz : Hid (u0.heap.size = w.heap.size + 2) := Lib.hid (by rw [hu]; simp)
  obtain ⟨b2, hb2⟩ : ∃ b2, b2 = w.heap.size := ⟨_, rfl⟩
  obtain ⟨b3, hb3⟩ : ∃ b3, b3 = w.heap.size + 1 := ⟨_, rfl⟩
  have HX2 : Hid (Bx u0 b2 25 (imC 0 0 0 (.slice none 0 0))) := Lib.hid (by rw [hu, hb2]; exact (Bx.new w _ _).alloc _)
  have HX3 : Hid (Bx u0 b3 25 (imC 0 0 0 (.slice none 0 0))) := Lib.hid (by rw [hu, hb3]; have := Bx.new (w.alloc (.cells #[.int .i64 0, .int .i64 0, .int .i64 0, .slice none 0 0] 25)) 25 (imC 0 0 0 (.slice none 0 0)); simpa [imC] using this)
  have HB0 : Hid (Below w.heap.size w u0) := Lib.hid (by rw [hu]; exact ((Below.refl _ _).alloc (Nat.le_refl _) _).alloc (by simp) _)
  have Hh : Hid (Rdw .u8 u0 u0.heap.size A bs) := Lib.hid ⟨(h.1.below HB0.out).more HB0.out.size, h.2⟩
  have HU := Lib.hid hu
  have Hb2 := Lib.hid hb2
  have Hb3 := Lib.hid hb3
  clear h hu hb2 hb3
  go_enter Try.func8, Try.ntmps8
  go_wp2_with fail
  rw [← HU.out, ← Hb3.out, ← Hb2.out]
  clear HU
  refine (newReader_any A c bs u0 hc Hh.out).mono ?_
  rintro e u1 ⟨rfl, hr1, hb1, hs1⟩
  have HX21 := Lib.hid (HX2.out.below hb1)
  have HX31 := Lib.hid (HX3.out.below hb1)
  have HB1 := Lib.hid (HB0.out.trans (hb1.mono HB0.out.size))
  obtain ⟨g, hg⟩ : ∃ g, g = u0.heap.size := ⟨_, rfl⟩
  rw [← hg] at hr1 ⊢
  have Hg := Lib.hid (show g = w.heap.size + 2 by have := Hz.out; omega)
  have Hs := Lib.hid (show g + 1 ≤ u1.heap.size by omega)
  clear hs1 hb1 HX2 HX3 HB0 Hh hg Hz
  go_wp2_with fail
  refine (anyImage_any g 0 u1 hr1 (by omega)).mono ?_
  rintro e u2 ⟨W, H, P, A1, c1, xs, rfl, ⟨hxl, hP⟩, hxc, hr2, hR2, hG2, hA2⟩
  obtain ⟨u3, hu3⟩ : ∃ x, x = u2.alloc (.cells #[.int .i64 W, .int .i64 H, .int .i64 P, .slice A1 xs.length c1] 25) := ⟨_, rfl⟩
  obtain ⟨b4, hb4⟩ : ∃ b, b = u2.heap.size := ⟨_, rfl⟩
  have hs2 := hG2.size
  have hs1 := Hs.out
  have hbb2 := Hb2.out
  have hbb3 := Hb3.out
  have hgg := Hg.out
  have hA : ∀ a : Addr, A1 = some a → g + 1 ≤ a.block := fun a ha => by have := hA2 a ha; omega
  have HS3 : Hid (PstS w u3 g (0 + 304) b2 b3 b4 W H P A1 c1 xs) := Lib.hid (by
    rw [hu3, hb4]
    exact ⟨hR2.alloc _, (HB1.out.grown hG2 HB1.out.size (fun k hk => by injection hk with hk; omega)).alloc (by omega) _, (bx_gr HX21.out hG2 (by omega)).alloc _, (bx_gr HX31.out hG2 (by omega)).alloc _, Bx.new u2 _ _, (hr2.alloc (Nat.le_refl _) _).more (by simp)⟩)
  have HA := Lib.hid hA
  have n2 : b2 ≠ g := by omega
  have n3 : b3 ≠ g := by omega
  have n4 : b4 ≠ g := by omega
  have n42 : b4 ≠ b2 := by omega
  have n43 : b4 ≠ b3 := by omega
  have n23 : b2 ≠ b3 := by omega
  have hgw : w.heap.size ≤ g := by omega
  have h4z : b4 < u3.heap.size := by rw [hu3, hb4]; simp
  have Hz3 : Hid (b4 + 1 = u3.heap.size) := Lib.hid (by rw [hu3, hb4]; simp)
  have HU3 := Lib.hid hu3
  have HB4 := Lib.hid hb4
  clear hr1 hr2 hR2 hG2 hA2 hA hu3 hb4 hs2 hs1 hbb2 hbb3 hgg HX21 HX31 HB1 Hs
  go_wp2_with fail
  (try rw [← HB4.out])
  rw [← HU3.out]
  clear HU3
  refine (one_litP _ [0, 1, -1, 2, -2, 16, 17, -17] 8 8 _ g (0 + 304) u3 Hz3.out HS3.out.rd (by omega) (by simp) (by simp) rfl rfl).mono ?_
  rintro e u4 ⟨x, rfl, hx, hR, hG⟩
  have hxb := pst_x hx
  have HS4 := Lib.hid (HS3.out.step n2 n3 n4 hgw HA.out hG hR)
  have h4z4 : b4 < u4.heap.size := Nat.lt_of_lt_of_le h4z hG.size
  clear hx hR hG HS3 h4z
  go_wp2_with fail
  (try rw [← HB4.out])
  refine (one_litP _ [0, 1, -1, 2, -16, 17] 6 6 _ g (0 + 304 + 1) u4 rfl HS4.out.rd (by omega) (by simp) (by simp) rfl rfl).mono ?_
  rintro e u5 ⟨y, rfl, hy, hR, hG⟩
  have hyb := pst_y hy
  have HS5 := Lib.hid (HS4.out.step n2 n3 n4 hgw HA.out hG hR)
  have h4z5 : b4 < u5.heap.size := Nat.lt_of_lt_of_le h4z4 hG.size
  clear hy hR hG HS4 h4z4
  obtain ⟨m0, m1, m2, m3⟩ := HS5.out.x4.im
  go_wp2_with fail
  all_goals
    (try rw [← HB4.out])
    refine (randQ _ (by omega) g (0 + 304 + 1 + 1) u5 HS5.out.rd (by omega)).mono ?_
    rintro e u6 ⟨W', H', P', A2, c2, ys, rfl, ⟨hyl, _⟩, hyc, hr, hR, hG, hA2⟩
    obtain ⟨u7, hu7⟩ : ∃ x, x = u6.alloc (.cells #[.int .i64 W', .int .i64 H', .int .i64 P', .slice A2 ys.length c2] 25) := ⟨_, rfl⟩
    obtain ⟨b5, hb5⟩ : ∃ b, b = u6.heap.size := ⟨_, rfl⟩
    have hz6 := hG.size
    have hB4 := HB4.out
    have hB2 := Hb2.out
    have hB3 := Hb3.out
    have hGg := Hg.out
    have o5 : g < b5 ∧ b2 ≠ b5 ∧ b3 ≠ b5 ∧ b4 ≠ b5 ∧ w.heap.size ≤ b5 ∧ b5 ≠ g := by have := HS5.out.rd.lt; omega
    obtain ⟨o5g, o52, o53, o54, o5w, o5r⟩ := o5
    have HS7 : Hid (PstS w u7 g (0 + 304 + 1 + 1 + 300) b2 b3 b4 W H P A1 c1 xs) := Lib.hid (by rw [hu7]; exact (HS5.out.step n2 n3 n4 hgw HA.out hG hR).alloc _)
    have HX7 : Hid (Bx u7 b5 25 (imC W' H' P' (.slice A2 ys.length c2))) := Lib.hid (by rw [hu7, hb5]; exact Bx.new _ _ _)
    have HR7 : Hid (Rds .i64 u7 u7.heap.size A2 ys) := Lib.hid (by rw [hu7]; exact (hr.alloc (Nat.le_refl _) _).more (by simp))
    have HA2 : Hid (∀ a : Addr, A2 = some a → g + 1 ≤ a.block) := Lib.hid (fun a ha => by have := hA2 a ha; have := HS5.out.rd.lt; omega)
    have HO1 : Hid (Rds .i64 u5 u5.heap.size A1 xs) := Lib.hid HS5.out.ra
    have h5z : u5.heap.size ≤ b5 := by rw [hb5]; exact hz6
    have HU7 := Lib.hid hu7
    have HB5 := Lib.hid hb5
    clear hr hR hG hA2 hz6 hB4 hB2 hB3 hGg hu7 hb5 HS5 m0 m1 m2 m3
    go_wp2_with fail
    (try rw [← HB4.out])
    (try rw [← HB5.out])
    rw [← HU7.out]
    clear HU7
    refine (pick_any 10 g (0 + 304 + 1 + 1 + 300) u7 HS7.out.rd (by omega) (by omega)).mono ?_
    intro e u8 hp
    obtain ⟨k, rfl, _, hR, hG, _⟩ := picked_nat hp (by omega)
    have HS8 := Lib.hid (HS7.out.step n2 n3 n4 hgw HA.out hG hR)
    have HX8 := Lib.hid (bx_gr HX7.out hG o5r)
    have HR8 := Lib.hid ((Rds.offG HR7.out (Nat.le_refl _) HA2.out hG (Nat.lt_succ_self g)).more hG.size)
    clear hp hR hG HS7 HX7 HR7
    by_cases h0 : k = 0
    · have h0' : ((k : Int) == 0) = true := by rw [h0]; rfl
      clear h0
      have hb5l := HX8.out.lt
      have L5 := HX8.out
      go_wp2_with fail
      refine (anyImage_any g (0 + 304 + 1 + 1 + 300 + 1) u8 HS8.out.rd (by omega)).mono ?_
      rintro e w11 ⟨W2, H2, P2, A3, c3, zs, rfl, ⟨hz, _⟩, hzc, hrz, hRz, hGz, hAz⟩
      have HAz : Hid (∀ a : Addr, A3 = some a → g + 1 ≤ a.block) := Lib.hid (fun a ha => by have := hAz a ha; omega)
      have Y5 := bx_gr HX8.out hGz o5r
      have HE : Hid (PstS w (s4 w11 b5 (.int .i64 W2) (.int .i64 H2) (.int .i64 P2) (.slice A3 zs.length c3)) g (0 + 304 + 1 + 1 + 300 + 1 + 304) b2 b3 b4 W H P A1 c1 xs) := Lib.hid ((HS8.out.step n2 n3 n4 hgw HA.out hGz hRz).set o5g o52 o53 o54 o5w HO1.out h5z _ _ _ _)
      have HX : Hid (Bx (s4 w11 b5 (.int .i64 W2) (.int .i64 H2) (.int .i64 P2) (.slice A3 zs.length c3)) b5 25 (imC W2 H2 P2 (.slice A3 zs.length c3))) := Lib.hid (two_box Y5 _ _ _ _)
      have HRz : Hid (Rds .i64 (s4 w11 b5 (.int .i64 W2) (.int .i64 H2) (.int .i64 P2) (.slice A3 zs.length c3)) (s4 w11 b5 (.int .i64 W2) (.int .i64 H2) (.int .i64 P2) (.slice A3 zs.length c3)).heap.size A3 zs) := Lib.hid (s4_rds hrz (fun a ha => by have := hAz a ha; omega) _ _ _ _)
      obtain ⟨j0, j1, j2, j3⟩ := Y5.im
      have k0 := Y5.fz 0
      have k1 := Y5.fz 1
      have k2 := Y5.fz 2
      have k3 := Y5.fz 3
      clear hrz hRz hGz hAz Y5 L5 hb5l HS8 HX8 HR8
      go_upto_region 8 with fail
      obtain ⟨Z, hZ⟩ : ∃ Z, Z = (((w11.setCell ⟨b5, 0, none⟩ (.int .i64 W2)).setCell ⟨b5, 1, none⟩ (.int .i64 H2)).setCell ⟨b5, 2, none⟩ (.int .i64 P2)).setCell ⟨b5, 3, none⟩ (.slice A3 zs.length c3) := ⟨_, rfl⟩
      dsimp only [s4] at HE HX HRz
      rw [← hZ] at HE HX HRz ⊢
      clear hZ j0 j1 j2 j3 k0 k1 k2 k3
      obtain ⟨m0, m1, m2, m3⟩ := HE.out.x4.im
      obtain ⟨n0, n1, n2', n3'⟩ := HX.out.im
      obtain ⟨r0, r1, r2, r3⟩ := HE.out.x2.im
      have f0 := HE.out.x2.fz 0
      have f1 := HE.out.x2.fz 1
      have f2 := HE.out.x2.fz 2
      have f3 := HE.out.x2.fz 3
      have X3 := s4_bx HE.out.x3 (Ne.symm n23) (.int .i64 W) (.int .i64 H) (.int .i64 P) (.slice A1 xs.length c1)
      obtain ⟨t0, t1, t2, t3⟩ := X3.im
      have g0 := X3.fz 0
      have g1 := X3.fz 1
      have g2 := X3.fz 2
      have g3 := X3.fz 3
      have X5 := s4_bx HX.out (Ne.symm o52) (.int .i64 W) (.int .i64 H) (.int .i64 P) (.slice A1 xs.length c1)
      obtain ⟨n4', n5, n6, n7⟩ := (show Bx _ b5 25 (imC W2 H2 P2 (.slice A3 zs.length c3)) from X5).im
      dsimp only [s4] at n4' n5 n6 n7
      have F2 := s4_bx (two_box HE.out.x2 (.int .i64 W) (.int .i64 H) (.int .i64 P) (.slice A1 xs.length c1)) n23 (.int .i64 W2) (.int .i64 H2) (.int .i64 P2) (.slice A3 zs.length c3)
      have F3 := two_box X3 (.int .i64 W2) (.int .i64 H2) (.int .i64 P2) (.slice A3 zs.length c3)
      obtain ⟨p0, p1, p2, p3⟩ := (show Bx _ b2 25 (imC W H P (.slice A1 xs.length c1)) from F2).im
      obtain ⟨q0, q1, q2, q3⟩ := (show Bx _ b3 25 (imC W2 H2 P2 (.slice A3 zs.length c3)) from F3).im
      dsimp only [s4] at t0 t1 t2 t3 g0 g1 g2 g3 p0 p1 p2 p3 q0 q1 q2 q3
      have HF := Lib.hid (HE.out.ret (x := x) (y := y) (W' := W2) (H' := H2) (P' := P2) Hb2.out Hb3.out Hg.out HRz.out ⟨⟨hxl, hz⟩, hxb, hyb⟩ hxc hzc HA.out HAz.out (.int .i64 W) (.int .i64 H) (.int .i64 P) (.slice A1 xs.length c1) (.int .i64 W2) (.int .i64 H2) (.int .i64 P2) (.slice A3 zs.length c3))
      clear X3 X5 F2 F3 HE HX HRz HO1 HA HA2 n2 n3 n4 n42 n43 n23 o5g o52 o53 o54 o5w o5r h5z
      go_region
      go_wp2
      exact bodyPost_ret (v := .tuple #[.agg #[.int .i64 W, .int .i64 H, .int .i64 P, .slice A1 xs.length c1], .int .i64 x, .int .i64 y, .agg #[.int .i64 W2, .int .i64 H2, .int .i64 P2, .slice A3 zs.length c3]]) (by simp [results, Try.results8, go_sem, p0, p1, p2, p3, q0, q1, q2, q3]) rfl HF.out.drew
    · have h0' : ((k : Int) == 0) = false := beq_eq_false_iff_ne.2 (by omega)
      have HE := HS8
      have HX := HX8
      have HRz := HR8
      clear h0 HS8 HX8 HR8
      go_upto_region 8 with fail
      obtain ⟨m0, m1, m2, m3⟩ := HE.out.x4.im
      obtain ⟨n0, n1, n2', n3'⟩ := HX.out.im
      obtain ⟨r0, r1, r2, r3⟩ := HE.out.x2.im
      have f0 := HE.out.x2.fz 0
      have f1 := HE.out.x2.fz 1
      have f2 := HE.out.x2.fz 2
      have f3 := HE.out.x2.fz 3
      have X3 := s4_bx HE.out.x3 (Ne.symm n23) (.int .i64 W) (.int .i64 H) (.int .i64 P) (.slice A1 xs.length c1)
      obtain ⟨t0, t1, t2, t3⟩ := X3.im
      have g0 := X3.fz 0
      have g1 := X3.fz 1
      have g2 := X3.fz 2
      have g3 := X3.fz 3
      have X5 := s4_bx HX.out (Ne.symm o52) (.int .i64 W) (.int .i64 H) (.int .i64 P) (.slice A1 xs.length c1)
      obtain ⟨n4', n5, n6, n7⟩ := (show Bx _ b5 25 (imC W' H' P' (.slice A2 ys.length c2)) from X5).im
      dsimp only [s4] at n4' n5 n6 n7
      have F2 := s4_bx (two_box HE.out.x2 (.int .i64 W) (.int .i64 H) (.int .i64 P) (.slice A1 xs.length c1)) n23 (.int .i64 W') (.int .i64 H') (.int .i64 P') (.slice A2 ys.length c2)
      have F3 := two_box X3 (.int .i64 W') (.int .i64 H') (.int .i64 P') (.slice A2 ys.length c2)
      obtain ⟨p0, p1, p2, p3⟩ := (show Bx _ b2 25 (imC W H P (.slice A1 xs.length c1)) from F2).im
      obtain ⟨q0, q1, q2, q3⟩ := (show Bx _ b3 25 (imC W' H' P' (.slice A2 ys.length c2)) from F3).im
      dsimp only [s4] at t0 t1 t2 t3 g0 g1 g2 g3 p0 p1 p2 p3 q0 q1 q2 q3
      have HF := Lib.hid (HE.out.ret (x := x) (y := y) (W' := W') (H' := H') (P' := P') Hb2.out Hb3.out Hg.out HRz.out ⟨⟨hxl, hyl⟩, hxb, hyb⟩ hxc hyc HA.out HA2.out (.int .i64 W) (.int .i64 H) (.int .i64 P) (.slice A1 xs.length c1) (.int .i64 W') (.int .i64 H') (.int .i64 P') (.slice A2 ys.length c2))
      clear X3 X5 F2 F3 HE HX HRz HO1 HA HA2 n2 n3 n4 n42 n43 n23 o5g o52 o53 o54 o5w o5r h5z
      go_region
      go_wp2
      exact bodyPost_ret (v := .tuple #[.agg #[.int .i64 W, .int .i64 H, .int .i64 P, .slice A1 xs.length c1], .int .i64 x, .int .i64 y, .agg #[.int .i64 W', .int .i64 H', .int .i64 P', .slice A2 ys.length c2]]) (by simp [results, Try.results8, go_sem, p0, p1, p2, p3, q0, q1, q2, q3]) rfl HF.out.drew
end Go.Proofs.Ytlmpkanlfhjijaa
