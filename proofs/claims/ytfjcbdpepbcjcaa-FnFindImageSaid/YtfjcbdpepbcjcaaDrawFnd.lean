/- What DrawFindImage and DrawCountImage draw. -/
import Derived.Test.YtfjcbdpepbcjcaaGenP
import Derived.Test.YtfjcbdpepbcjcaaDrawImg2
import Derived.Test.YtfjcbdpepbcjcaaDrawCrop
import Derived.Test.YtfjcbdpepbcjcaaCropS
import Derived.Test.YtfjcbdpepbcjcaaGridF
import Derived.Deep.CutRange
import Derived.Deep.Cut
import Derived.Deep.RegionHeld3
namespace Go.Proofs.Ytfjcbdpepbcjcaa
open Go.RowKit Go.Shelf
set_option linter.unusedSimpArgs false
set_option linter.unusedVariables false
set_option maxRecDepth 20000

/-- A call that changes the reader's box alone (and what it makes): rows and boxes stay. -/
theorem GS.reader {W0 w w' : World} {L : List Rg} {Bs : List Bxg} {g : Nat} (h : GS W0 w L Bs) (hG : w.grownBy w' (some g)) (h0 : W0.heap.size ≤ g) (hL : ∀ t ∈ L, g < t.lo) (hB : ∀ b ∈ Bs, b.g ≠ g) : GS W0 w' L Bs := by
  refine ⟨h.1.grown hG h.1.size (fun k e => by injection e with e; omega), fun t ht => ?_, h.2.2.1, fun b hb => ?_, h.2.2.2.2⟩
  · obtain ⟨h1, h2, h3⟩ := h.2.1 t ht
    exact ⟨h1.keep fun k hk1 hk2 => hG.block k (by omega) (by have := hL t ht; simp; omega), h2, Nat.le_trans h3 hG.size⟩
  · obtain ⟨h1, h2, h3⟩ := h.2.2.2.1 b hb
    exact ⟨(hG.block b.g h1.lt (by have := hB b hb; simp; omega)).trans h1, h2, h3⟩
theorem GS.addG {W0 w w' : World} {L : List Rg} {Bs : List Bxg} {g : Nat} {v : Value} {xs : List Int} (h : GS W0 w L Bs) (hG : w.grownBy w' (some g)) (h0 : W0.heap.size ≤ g) (hL : ∀ t ∈ L, g < t.lo) (hB : ∀ b ∈ Bs, b.g ≠ g) (hO : Own w' w.heap.size v xs) : GS W0 w' (ri w.heap.size w'.heap.size v xs :: L) Bs := by
  have h' := h.reader hG h0 hL hB
  refine ⟨h'.1, ?_, ?_, fun b hm => ⟨(h'.2.2.2.1 b hm).1, (h'.2.2.2.1 b hm).2.1, fun t ht => ?_⟩, h.2.2.2.2⟩
  · intro t ht
    rcases List.mem_cons.1 ht with rfl | ht
    · exact ⟨⟨hO, fun g hg => (World.ownsRow.lt hO g hg).2⟩, h.1.size, Nat.le_refl _⟩
    · exact h'.2.1 t ht
  · exact .cons (fun t ht => .inl (h.2.1 t ht).2.2) h.2.2.1
  · rcases List.mem_cons.1 ht with rfl | ht
    · exact .inr (h.2.2.2.1 b hm).1.lt
    · exact (h.2.2.2.1 b hm).2.2 t ht
theorem GS.fst {W0 w : World} {t : Rg} {L : List Rg} {Bs : List Bxg} (h : GS W0 w (t :: L) Bs) : GS W0 w [t] Bs :=
  ⟨h.1, fun a ha => h.2.1 a (by simp at ha; simp [ha]), by simp, fun b hb => ⟨(h.2.2.2.1 b hb).1, (h.2.2.2.1 b hb).2.1, fun a ha => (h.2.2.2.1 b hb).2.2 a (by simp at ha; simp [ha])⟩, h.2.2.2.2⟩
/-- A random image, of any number of planes from 1 to 4. -/
theorem randF (Q : Int) (hQ : 1 ≤ Q ∧ Q ≤ 4) (g N : Nat) (w : World) (h : Rdr w g N) (hN : N ≤ 10000000) :
    Calls Try.prog 39 #[.pointer (some ⟨g, 0, none⟩), .int .i64 Q] w fun e w' => ∃ (W H P : Int) (A : Option Addr) (c : Nat) (xs : List Int), e = .returned (.agg #[.int .i64 W, .int .i64 H, .int .i64 P, .slice A xs.length c]) ∧ 0 < xs.length ∧ xs.length ≤ 256 ∧ xs.length ≤ c ∧ Own w' w.heap.size (.slice A xs.length c) xs ∧ Rdr w' g (N + 300) ∧ w.grownBy w' (some g) := by
  obtain ⟨p, rfl⟩ : ∃ p : Nat, Q = p := ⟨Q.toNat, by omega⟩
  refine (randomImage_any p (by omega) (by omega) g N w h hN).mono ?_
  rintro e w' ⟨W, H, gb, c, xs, rfl, w1, w8, h1, h8, hl, hO, hR, hG⟩
  have hb : xs.length ≤ 256 := by
    rw [hl]
    have := Nat.mul_le_mul (Nat.mul_le_mul w8 h8) (show p ≤ 4 by omega)
    omega
  have hz : 0 < xs.length := by rw [hl]; exact Nat.mul_pos (Nat.mul_pos w1 h1) (by omega)
  obtain ⟨A, c', e, hc⟩ := hO.slice
  simp only [Value.slice.injEq] at e
  obtain ⟨_, _, rfl⟩ := e
  exact ⟨W, H, p, _, c, xs, rfl, hz, hb, hc, hO, hR, hG⟩
theorem crop_bd {W H P : Int} {xs : List Int} {bx by_ bw bh : Int} : (cond (cropOk W H P xs bx by_ bw bh) (cropL W.toNat P.toNat xs bx.toNat by_.toNat bw.toNat bh.toNat) []).length ≤ 1024 ∧ (cropOk W H P xs bx by_ bw bh = true → 0 < (cond (cropOk W H P xs bx by_ bw bh) (cropL W.toNat P.toNat xs bx.toNat by_.toNat bw.toNat bh.toNat) []).length) := by
  cases h : cropOk W H P xs bx by_ bw bh
  · exact ⟨by simp, by simp⟩
  · unfold cropOk at h
    rw [Bool.and_eq_true] at h
    obtain ⟨W, H, P, rfl, rfl, rfl, a1, a2, a3, a4, a5, a6, _⟩ := vim_nat h.1
    obtain ⟨X, Y, c, d, rfl, rfl, rfl, rfl, b1, b2, b3, b4⟩ := fit_nat h.2
    have hlen : (cropL W P xs X Y c d).length = c * d * P := img_len _ _ _ _
    have h1 := Nat.mul_le_mul (Nat.mul_le_mul (show c ≤ 16 by omega) (show d ≤ 16 by omega)) a6
    have h2 := Nat.mul_pos (Nat.mul_pos b1 b2) a5
    simp only [cond_true, Int.toNat_natCast, hlen]
    exact ⟨by omega, fun _ => h2⟩
/-- Drawn from a code: two images. -/
def DrawnFnd (w : World) (e : Ending) (w' : World) : Prop :=
  ∃ (W H P : Int) (A : Option Addr) (c : Nat) (xs : List Int) (W' H' P' : Int) (A' : Option Addr) (c' : Nat) (ps : List Int), e = .returned (.tuple #[.agg #[.int .i64 W, .int .i64 H, .int .i64 P, .slice A xs.length c], .agg #[.int .i64 W', .int .i64 H', .int .i64 P', .slice A' ps.length c']]) ∧ (xs.length ≤ 256 ∧ ps.length ≤ 2000) ∧ xs.length ≤ c ∧ ps.length ≤ c' ∧ Rds .i64 w' w'.heap.size A xs ∧ Rds .i64 w' w'.heap.size A' ps ∧ Below w.heap.size w w' ∧ (∀ a : Addr, A = some a → w.heap.size ≤ a.block) ∧ (∀ a : Addr, A' = some a → w.heap.size ≤ a.block)
set_option maxHeartbeats 16000000 in
theorem drawFnd_any (A : Option Addr) (c : Nat) (bs : List Int) (w : World) (hc : bs.length ≤ c) (h : Rdw .u8 w w.heap.size A bs) :
    Calls Try.prog 17 #[.slice A bs.length c] w (DrawnFnd w) := by
  obtain ⟨u0, hu⟩ : ∃ u0, u0 = (w.alloc (.cells #[.int .i64 0, .int .i64 0, .int .i64 0, .slice none 0 0] 30)).alloc (.cells #[.int .i64 0, .int .i64 0, .int .i64 0, .slice none 0 0] 30) := ⟨_, rfl⟩
  have S0 := ((GS.start w).box' 30 #[.int .i64 0, .int .i64 0, .int .i64 0, .slice none 0 0] w.heap.size (by simp)).box' 30 #[.int .i64 0, .int .i64 0, .int .i64 0, .slice none 0 0] (w.heap.size + 1) (by simp)
  rw [← hu] at S0
  have Hh : Hid (Rdw .u8 u0 u0.heap.size A bs) := Lib.hid ⟨(h.1.below S0.below).more S0.below.size, h.2⟩
  have HS0 := Lib.hid S0
  have HU := Lib.hid hu
  have hz0 : u0.heap.size = w.heap.size + 2 := by rw [hu]; simp
  clear h hu S0
  go_enter Try.func17, Try.ntmps17
  go_wp2_with fail
  rw [← HU.out]
  clear HU
  refine (newReader_any A c bs u0 hc Hh.out).mono ?_
  rintro e u1 ⟨rfl, hr1, hb1, hs1⟩
  obtain ⟨g, hg⟩ : ∃ g, g = u0.heap.size := ⟨_, rfl⟩
  rw [← hg] at hr1 ⊢
  have HS1 := Lib.hid (HS0.out.call hb1)
  have hgw : g = w.heap.size + 2 := by omega
  have hs1' : u1.heap.size = w.heap.size + 3 := by omega
  have Hgw := Lib.hid hgw
  have Hs1 := Lib.hid hs1'
  clear hb1 HS0 Hh hg hs1 hz0 hgw hs1'
  go_wp2_with fail
  refine (anyImage_any g 0 u1 hr1 (by omega)).mono ?_
  rintro e u3 ⟨W, H, P, A3, c3, ys, rfl, hy, hyc, hr3, hR3, hG3, hA3⟩
  have hgw := Hgw.out
  have hs1' := Hs1.out
  have HS3 := Lib.hid (HS1.out.reader hG3 (by omega) (by simp) (by simp; omega))
  have hs3 := hG3.size
  obtain ⟨b5, hb5⟩ : ∃ b5, b5 = u3.heap.size := ⟨_, rfl⟩
  have HS4 := Lib.hid (HS3.out.box' 30 #[.int .i64 W, .int .i64 H, .int .i64 P, .slice A3 ys.length c3] b5 hb5)
  obtain ⟨u4, hu4⟩ : ∃ u4, u4 = u3.alloc (.cells #[.int .i64 W, .int .i64 H, .int .i64 P, .slice A3 ys.length c3] 30) := ⟨_, rfl⟩
  have HR4 : Hid (Rdr u4 g 304) := Lib.hid (by rw [hu4]; exact hR3.alloc _)
  have Hr4 : Hid (Rds .i64 u4 u3.heap.size A3 ys) := Lib.hid (by rw [hu4]; exact hr3.alloc (Nat.le_refl _) _)
  have hA4 : ∀ a : Addr, A3 = some a → w.heap.size + 3 ≤ a.block := fun a ha => by have := hA3 a ha; omega
  have HA := Lib.hid hA4
  rw [← hu4] at HS4
  have hz4 : u4.heap.size = b5 + 1 := by rw [hu4, hb5]; simp
  have hg5 : g < b5 := by omega
  have HU4 := Lib.hid hu4
  have HB5 := Lib.hid hb5
  obtain ⟨t0, t1, t2, t3⟩ := HS4.out.b0_4
  have htl := HS4.out.l0
  rw [← hb5] at Hr4
  clear HS1 hr1 hr3 hR3 hG3 hA3 HS3 hu4 hb5 hA4 hs3 hs1' hgw Hs1 hz4
  go_wp2_with fail
  (try rw [← HB5.out])
  (try rw [← HU4.out])
  clear HU4 HB5
  go_cut [6, 7] from 12 to 18 (fun s6 s7 wx => ∃ (b6 lo hi : Nat) (A6 : Option Addr) (c6 : Nat) (W' H' P' : Int) (ps : List Int) (ok : Bool), s6 = .pointer (some ⟨b6, 0, none⟩) ∧ s7 = .bool ok ∧ Hid (GS w wx [ri lo hi (.slice A6 ps.length c6) ps] [⟨b6, 30, #[.int .i64 W', .int .i64 H', .int .i64 P', .slice A6 ps.length c6]⟩, ⟨b5, 30, #[.int .i64 W, .int .i64 H, .int .i64 P, .slice A3 ys.length c3]⟩, ⟨w.heap.size + 1, 30, #[.int .i64 0, .int .i64 0, .int .i64 0, .slice none 0 0]⟩, ⟨w.heap.size, 30, #[.int .i64 0, .int .i64 0, .int .i64 0, .slice none 0 0]⟩] ∧ Rdr wx g 2000 ∧ b5 < lo ∧ b5 < b6 ∧ Rds .i64 wx b5 A3 ys ∧ ps.length ≤ c6 ∧ ps.length ≤ 1024 ∧ (ok = true → 0 < ps.length)))
  case first =>
    have HSa := Lib.hid (HS4.out.drew.box' 30 #[.int .i64 0, .int .i64 0, .int .i64 0, .slice none 0 0] u4.heap.size rfl)
    have hga : ∀ b ∈ [(⟨u4.heap.size, 30, #[.int .i64 0, .int .i64 0, .int .i64 0, .slice none 0 0]⟩ : Bxg), ⟨b5, 30, #[.int .i64 W, .int .i64 H, .int .i64 P, .slice A3 ys.length c3]⟩, ⟨w.heap.size + 1, 30, #[.int .i64 0, .int .i64 0, .int .i64 0, .slice none 0 0]⟩, ⟨w.heap.size, 30, #[.int .i64 0, .int .i64 0, .int .i64 0, .slice none 0 0]⟩], b.g ≠ g := by have := Hgw.out; simp; omega
    have hgb : ∀ b ∈ [(⟨b5, 30, #[.int .i64 W, .int .i64 H, .int .i64 P, .slice A3 ys.length c3]⟩ : Bxg), ⟨w.heap.size + 1, 30, #[.int .i64 0, .int .i64 0, .int .i64 0, .slice none 0 0]⟩, ⟨w.heap.size, 30, #[.int .i64 0, .int .i64 0, .int .i64 0, .slice none 0 0]⟩], b.g ≠ g := by have := Hgw.out; simp; omega
    have hwg : w.heap.size ≤ g ∧ g < w.heap.size + 3 := by have := Hgw.out; omega
    have HSb := Lib.hid HS4.out.drew
    have hza : u4.heap.size ≤ (u4.drew.alloc (.cells #[.int .i64 0, .int .i64 0, .int .i64 0, .slice none 0 0] 30)).heap.size := (World.grownBy_alloc u4.drew _ none).size
    have Hra : Hid (Rds .i64 (u4.drew.alloc (.cells #[.int .i64 0, .int .i64 0, .int .i64 0, .slice none 0 0] 30)) b5 A3 ys) := Lib.hid (Rds.alloc (w := u4.drew) Hr4.out (by show b5 ≤ u4.heap.size; omega) _)
    have Hrb : Hid (Rds .i64 u4.drew b5 A3 ys) := Lib.hid Hr4.out
    go_region_held3 (fun w' => w'.cell? ⟨b5, 0, none⟩ = some (.int .i64 W) ∧ w'.cell? ⟨b5, 1, none⟩ = some (.int .i64 H) ∧ w'.cell? ⟨b5, 2, none⟩ = some (.int .i64 P) ∧ w'.cell? ⟨b5, 3, none⟩ = some (.slice A3 ys.length c3))
      (first | (with_reducible exact ⟨d0, d1, d2, d3⟩) | (with_reducible exact ⟨k0, k1, k2, k3⟩) | (with_reducible exact ⟨(sc4 (by omega) _ _ _ _).trans d0, (sc4 (by omega) _ _ _ _).trans d1, (sc4 (by omega) _ _ _ _).trans d2, (sc4 (by omega) _ _ _ _).trans d3⟩) | exact ⟨t0, t1, t2, t3⟩ | go_keep)
      (first
        | (go_at_call 38; refine (anyBox_any g 304 _ (by first | exact HR4.out | exact Rdr.alloc (w := u4.drew) HR4.out _) (by omega)).mono ?_; rintro e u5 ⟨bx, by_, bw, bh, rfl, hb1, hb2, hb3', hb4, hR5, hG5⟩; (first | (have HS5 := Lib.hid (HSa.out.reader hG5 hwg.1 (by simp) hga); have HK5 : Hid (Rds .i64 u5 b5 A3 ys) := Lib.hid (Rds.offG Hra.out (by show b5 ≤ (u4.drew.alloc _).heap.size; simp; omega) HA.out hG5 hwg.2)) | (have HS5 := Lib.hid (HSb.out.reader hG5 hwg.1 (by simp) hgb); have HK5 : Hid (Rds .i64 u5 b5 A3 ys) := Lib.hid (Rds.offG Hrb.out (by show b5 ≤ u4.heap.size; omega) HA.out hG5 hwg.2))); have HR5 : Hid (Rdr u5 g 2000) := Lib.hid (hR5.more (by omega)); have hz5 : u4.heap.size ≤ u5.heap.size := (by first | exact hG5.size | exact Nat.le_trans hza hG5.size); obtain ⟨k0, k1, k2, k3⟩ := HS5.out.c4 (g := b5) (T := 30) (a0 := .int .i64 W) (a1 := .int .i64 H) (a2 := .int .i64 P) (a3 := .slice A3 ys.length c3) (by simp); clear hR5 hG5)
        | (go_at_call 37; refine (s_CropImage W H P bx by_ bw bh A3 c3 ys _ (by first | exact HK5.out.more (by omega) | exact (HK5.out.alloc (by omega) _).more (by simp; omega)) (by omega) hyc).mono ?_; rintro e u6 ⟨v6, rfl, hO6, hB6⟩; obtain ⟨A6, c6, rfl, hc6⟩ := hO6.slice; (first | (have HS6 := Lib.hid ((HS5.out.box' 30 #[.int .i64 0, .int .i64 0, .int .i64 0, .slice none 0 0] u5.heap.size rfl).add hO6 hB6); have HK6 : Hid (Rds .i64 u6 b5 A3 ys) := Lib.hid ((HK5.out.alloc (by omega) _).belowTo hB6 (by simp; omega)); have HR6 := Lib.hid ((HR5.out.alloc (.cells #[.int .i64 0, .int .i64 0, .int .i64 0, .slice none 0 0] 30)).below hB6 (by simp; omega))) | (have HS6 := Lib.hid (HS5.out.add hO6 hB6); have HK6 : Hid (Rds .i64 u6 b5 A3 ys) := Lib.hid (HK5.out.belowTo hB6 (by omega)); have HR6 := Lib.hid (HR5.out.below hB6 (by omega)))); have hz6 := hB6.size; have Hc6 := Lib.hid hc6; obtain ⟨y0, y1, y2, y3⟩ := HS6.out.b0_4; have z0 := HS6.out.f0 0; have z1 := HS6.out.f0 1; have z2 := HS6.out.f0 2; have z3 := HS6.out.f0 3; have hl6 := HS6.out.l0; obtain ⟨d0, d1, d2, d3⟩ := HS6.out.c4 (g := b5) (T := 30) (a0 := .int .i64 W) (a1 := .int .i64 H) (a2 := .int .i64 P) (a3 := .slice A3 ys.length c3) (by simp); clear hO6 hB6 hc6))
    all_goals
      obtain ⟨hq1, hq2⟩ := crop_bd (W := W) (H := H) (P := P) (xs := ys) (bx := bx) (by_ := by_) (bw := bw) (bh := bh)
      have HQ := Lib.hid (And.intro hq1 hq2)
      clear hza hga hgb hwg hq1 hq2 k0 k1 k2 k3 d0 d1 d2 d3 t0 t1 t2 t3
      go_wp2
      go_meet
      have h1 : b5 < u5.heap.size := by omega
      have h2 : b5 < u6.heap.size := by omega
      first
        | (have hh : Hid (GS w u6 _ (⟨u4.heap.size, 30, _⟩ :: _)) := HS6; clear hh; exact ⟨u4.heap.size, _, _, A6, c6, cond (cropOk W H P ys bx by_ bw bh) bw 0, cond (cropOk W H P ys bx by_ bw bh) bh 0, cond (cropOk W H P ys bx by_ bw bh) P 0, cond (cropOk W H P ys bx by_ bw bh) (cropL W.toNat P.toNat ys bx.toNat by_.toNat bw.toNat bh.toNat) [], (cropOk W H P ys bx by_ bw bh), rfl, rfl, Lib.hid ⟨GS.fill4 (g := u4.heap.size) HS6.out _ _ _ _, HR6.out.grown (grown_set4 u6 u4.heap.size _ _ _ _) (fun k hk => by injection hk with hk; omega), (by first | omega | (simp; omega)), (by omega), HK6.out.grown (grown_set4 u6 u4.heap.size _ _ _ _) (by omega) (fun k hk => by injection hk with hk; omega), Hc6.out, HQ.out.1, HQ.out.2⟩⟩)
        | (have hh : Hid (GS w u6 _ (⟨u5.heap.size, 30, _⟩ :: _)) := HS6; clear hh; exact ⟨u5.heap.size, _, _, A6, c6, cond (cropOk W H P ys bx by_ bw bh) bw 0, cond (cropOk W H P ys bx by_ bw bh) bh 0, cond (cropOk W H P ys bx by_ bw bh) P 0, cond (cropOk W H P ys bx by_ bw bh) (cropL W.toNat P.toNat ys bx.toNat by_.toNat bw.toNat bh.toNat) [], (cropOk W H P ys bx by_ bw bh), rfl, rfl, Lib.hid ⟨GS.fill4 (g := u5.heap.size) HS6.out _ _ _ _, HR6.out.grown (grown_set4 u6 u5.heap.size _ _ _ _) (fun k hk => by injection hk with hk; omega), (by first | omega | (simp; omega)), (by omega), HK6.out.grown (grown_set4 u6 u5.heap.size _ _ _ _) (by omega) (fun k hk => by injection hk with hk; omega), Hc6.out, HQ.out.1, HQ.out.2⟩⟩)
        | exact ⟨u6.heap.size, _, _, A6, c6, cond (cropOk W H P ys bx by_ bw bh) bw 0, cond (cropOk W H P ys bx by_ bw bh) bh 0, cond (cropOk W H P ys bx by_ bw bh) P 0, cond (cropOk W H P ys bx by_ bw bh) (cropL W.toNat P.toNat ys bx.toNat by_.toNat bw.toNat bh.toNat) [], (cropOk W H P ys bx by_ bw bh), rfl, rfl, Lib.hid ⟨GS.box' HS6.out _ _ u6.heap.size rfl, HR6.out.alloc _, (by first | omega | (simp; omega)), (by omega), HK6.out.alloc (by omega) _, Hc6.out, HQ.out.1, HQ.out.2⟩⟩
  case rest =>
  clear HS4 HR4 Hr4 t0 t1 t2 t3 htl
  obtain ⟨b6, lo, hi, A6, c6, W', H', P', ps, ok, rfl, rfl, HG⟩ := hcut
  obtain ⟨HS0, HR0, hlo, hb6, HY0, hc6, hp6, hok⟩ := HG.out
  clear HG
  have Hgw5 := Lib.hid (And.intro hg5 Hgw.out)
  have HS := Lib.hid HS0
  have HR := Lib.hid HR0
  have HY := Lib.hid HY0
  have Hlo := Lib.hid hlo
  have Hpp := Lib.hid (And.intro hc6 (And.intro hp6 hok))
  obtain ⟨t0, t1, t2, t3⟩ := HS0.c4 (g := b5) (T := 30) (a0 := .int .i64 W) (a1 := .int .i64 H) (a2 := .int .i64 P) (a3 := .slice A3 ys.length c3) (by simp)
  have hl6 := HS0.l0
  obtain ⟨f0, f1, f2, f3⟩ := (show _ ∧ _ ∧ _ ∧ _ from ⟨HS0.f0 0, HS0.f0 1, HS0.f0 2, HS0.f0 3⟩)
  clear HS0 HR0 HY0 hlo hc6 hp6 hok
  go_upto_if 20 with fail
  go_cut [6] from 21 to 26 (fun s6 wx => ∃ (lo hi : Nat) (A6 : Option Addr) (c6 : Nat) (W' H' P' : Int) (ps : List Int), s6 = .pointer (some ⟨b6, 0, none⟩) ∧ Hid (GS w wx [ri lo hi (.slice A6 ps.length c6) ps] [⟨b6, 30, #[.int .i64 W', .int .i64 H', .int .i64 P', .slice A6 ps.length c6]⟩, ⟨b5, 30, #[.int .i64 W, .int .i64 H, .int .i64 P, .slice A3 ys.length c3]⟩, ⟨w.heap.size + 1, 30, #[.int .i64 0, .int .i64 0, .int .i64 0, .slice none 0 0]⟩, ⟨w.heap.size, 30, #[.int .i64 0, .int .i64 0, .int .i64 0, .slice none 0 0]⟩] ∧ Rdr wx g 3000 ∧ b5 < lo ∧ Rds .i64 wx b5 A3 ys ∧ ps.length ≤ c6 ∧ ps.length ≤ 1024 ∧ 0 < ps.length))
  case first =>
    cases ok with
    | true =>
      go_wp2_with fail
      go_meet
      exact ⟨lo, hi, A6, c6, W', H', P', ps, rfl, Lib.hid ⟨HS.out, HR.out.more (by omega), Hlo.out, HY.out, Hpp.out.1, Hpp.out.2.1, (by have := Hpp.out.2.2; simpa using this)⟩⟩
    | false =>
      go_wp2_with fail
      all_goals
        refine (randF _ (by omega) g 2000 wc HR.out (by omega)).mono ?_
        rintro e u6 ⟨W2, H2, P2, A2, c2, zs, rfl, hz0, hz1, hzc, hO, hR, hG⟩
        have hgg := Hgw5.out
        have hl := Hlo.out
        have HT := Lib.hid ((HS.out.addG hG (by omega) (by simp [ri]; omega) (by simp; omega) hO).fst)
        have HYT : Hid (Rds .i64 u6 b5 A3 ys) := Lib.hid (Rds.offG HY.out (by omega) HA.out hG (by omega))
        have hl6' := HT.out.l0
        obtain ⟨e0, e1, e2, e3⟩ := (show _ ∧ _ ∧ _ ∧ _ from ⟨HT.out.f0 0, HT.out.f0 1, HT.out.f0 2, HT.out.f0 3⟩)
        have hlo2 : b5 < wc.heap.size := by omega
        have HRT := Lib.hid (hR.more (show 2000 + 300 ≤ 3000 by omega))
        obtain ⟨d0, d1, d2, d3⟩ := HT.out.b0_4
        have hwb6 : w.heap.size ≤ b6 := by omega
        clear hO hR hG f0 f1 f2 f3 t0 t1 t2 t3 hl6 hgg hl
        go_wp2
        go_meet
        exact ⟨_, _, A2, c2, W2, H2, P2, zs, rfl, Lib.hid ⟨GS.fill4 (g := b6) HT.out _ _ _ _, HRT.out.grown (grown_set4 u6 b6 _ _ _ _) (fun k hk => by injection hk with hk; have := Hgw5.out; omega), hlo2, HYT.out.grown (grown_set4 u6 b6 _ _ _ _) (by omega) (fun k hk => by injection hk with hk; omega), hzc, by omega, hz0⟩⟩
  case rest =>
  clear HS HR HY Hlo Hpp t0 t1 t2 t3 f0 f1 f2 f3 hl6
  obtain ⟨lo, hi, A6, c6, W', H', P', ps, rfl, HG⟩ := hcut
  obtain ⟨HS0, HR0, hlo, HY0, hc6, hp6, hp0⟩ := HG.out
  obtain ⟨gA, capA, e6, hgA, hgAl⟩ := (HS0.own (lo := lo) (hi := hi) (v := .slice A6 ps.length c6) (xs := ps) (by simp)).form hp0
  obtain ⟨rfl, rfl⟩ : A6 = some ⟨gA, 0, none⟩ ∧ c6 = capA := by simpa using e6
  have hne : gA ≠ b6 := by
    have h1 : hi ≤ b6 ∨ b6 < lo := (HS0.2.2.2.1 _ List.mem_cons_self).2.2 (ri lo hi (.slice (some ⟨gA, 0, none⟩) ps.length c6) ps) (by simp)
    have h2 : gA < hi := (HS0.2.1 (ri lo hi (.slice (some ⟨gA, 0, none⟩) ps.length c6) ps) (by simp)).1.2 gA rfl
    omega
  have HS := Lib.hid HS0
  have HR := Lib.hid HR0
  have HY := Lib.hid HY0
  have Hlo := Lib.hid hlo
  have Hpp := Lib.hid (And.intro hc6 (And.intro hp6 hp0))
  have HgA := Lib.hid (And.intro hgA hgAl)
  have hb5l := HS0.l1
  clear HG HS0 HR0 hlo HY0 hc6 hp6 hp0 e6 hgA hgAl
  go_wp2_with fail
  refine (pick_any 3 g 3000 wc HR.out (by omega) (by omega)).mono ?_
  intro e u8 hp
  obtain ⟨k, rfl, hk, hR8, hG8, hs8⟩ := picked_nat hp (by omega)
  have hgg := Hgw5.out
  have hl := Hlo.out
  have HS8 := Lib.hid (HS.out.reader hG8 (by omega) (by simp [ri]; omega) (by simp; omega))
  have HY8 : Hid (Rds .i64 u8 b5 A3 ys) := Lib.hid (Rds.offG HY.out (by omega) HA.out hG8 (by omega))
  have HR8 := Lib.hid hR8
  have hb58 : b5 < u8.heap.size := by omega
  have hgg0 : w.heap.size ≤ g ∧ g < w.heap.size + 3 := by omega
  clear hp hR8 hG8 hs8 hk HS HY HR hb5l hgg hl
  go_upto_if 29 with fail
  generalize ((k : Int) == 0) = kb
  go_cut [6] from 30 to 34 (fun s6 wx => ∃ qs : List Int, s6 = .pointer (some ⟨b6, 0, none⟩) ∧ qs.length = ps.length ∧ Hid (GS w wx [ri lo hi (.slice (some ⟨gA, 0, none⟩) ps.length c6) qs] [⟨b6, 30, #[.int .i64 W', .int .i64 H', .int .i64 P', .slice (some ⟨gA, 0, none⟩) ps.length c6]⟩, ⟨b5, 30, #[.int .i64 W, .int .i64 H, .int .i64 P, .slice A3 ys.length c3]⟩, ⟨w.heap.size + 1, 30, #[.int .i64 0, .int .i64 0, .int .i64 0, .slice none 0 0]⟩, ⟨w.heap.size, 30, #[.int .i64 0, .int .i64 0, .int .i64 0, .slice none 0 0]⟩] ∧ Rds .i64 wx b5 A3 ys))
  case first =>
    have z3 := (HS8.out.drew.b0_4).2.2.2
    have hgl8 : gA < u8.heap.size := (HS8.out.own (lo := lo) (hi := hi) (v := .slice (some ⟨gA, 0, none⟩) ps.length c6) (xs := ps) (by simp)).lt gA rfl |>.2
    have hps0 : 0 < ps.length := Hpp.out.2.2
    have hpsI : (0 : Int) < (ps.length : Int) := by omega
    cases kb with
    | true =>
      go_upto_region 7 with fail
      go_region_held3 (fun w' => w'.cell? ⟨b6, 3, none⟩ = some (.slice (some ⟨gA, 0, none⟩) ps.length c6))
        (first | (with_reducible exact v3) | (with_reducible exact z3) | (with_reducible exact (World.cell?_setCell_other _ ⟨gA, _, none⟩ ⟨b6, 3, none⟩ _ (fun e => by injection e with e1; exact hne e1)).trans v3) | go_keep)
        (first | (go_at_call 40; refine (pick_any 256 g (3000 + 1) u8.drew HR8.out (by omega) (by omega)).mono ?_; intro e u9 hp9; obtain ⟨vv, rfl, hvv, hR9, hG9, hs9⟩ := picked_nat hp9 (by omega); have HS9 := Lib.hid (HS8.out.drew.reader hG9 hgg0.1 (by have := Hgw5.out; have := Hlo.out; simp [ri]; omega) (by have := Hgw5.out; simp; omega)); have HY9 : Hid (Rds .i64 u9 b5 A3 ys) := Lib.hid (Rds.offG (w := u8.drew) HY8.out (by show b5 ≤ u8.heap.size; omega) HA.out hG9 hgg0.2); have v3 := (HS9.out.b0_4).2.2.2; have HO9 := Lib.hid (HS9.out.own (lo := lo) (hi := hi) (v := .slice (some ⟨gA, 0, none⟩) ps.length c6) (xs := ps) (by simp)); have hcw := HO9.out.cell rfl (j := 0) hps0; have hfw := HO9.out.frozen rfl 0; have hgl9 : gA < u9.heap.size := (HO9.out.lt gA rfl).2; clear hp9 hR9 hG9 hs9))
      all_goals
        have hput := HO9.out.put rfl 0 (vv : Int)
        have HP := Lib.hid hput
        clear hput
        go_wp2
        go_meet
        have h1 : b5 ≤ u9.heap.size := by have := HgA.out; have := Hlo.out; omega
        exact ⟨ps.set 0 (vv : Int), rfl, by simp, Lib.hid ⟨GS.mark (L1 := []) HS9.out HP.out.1 (by simp) HP.out.2, HY9.out.grown HP.out.2 h1 (fun k hk => by injection hk with hk; have := HgA.out; have := Hlo.out; omega)⟩⟩
    | false =>
      go_wp2_with fail
      go_meet
      exact ⟨ps, rfl, rfl, Lib.hid ⟨HS8.out, HY8.out⟩⟩
  case rest =>
  clear HS8 HY8 HR8
  obtain ⟨qs, rfl, hql, HG⟩ := hcut
  obtain ⟨HS0, HY0⟩ := HG.out
  have HS := Lib.hid HS0
  have HY := Lib.hid HY0
  have HB5 := Lib.hid (show b5 < wc.heap.size ∧ w.heap.size + 3 ≤ b5 from ⟨HS0.l1, by have := Hgw5.out; omega⟩)
  have HO := Lib.hid (HS0.own (lo := lo) (hi := hi) (v := .slice (some ⟨gA, 0, none⟩) ps.length c6) (xs := qs) (by simp))
  have HgL := Lib.hid (show w.heap.size + 3 ≤ gA by have := HgA.out.1; have := Hlo.out; have := Hgw5.out; omega)
  have n1 : b5 ≠ w.heap.size := by have := Hgw5.out; omega
  have n2 : b5 ≠ w.heap.size + 1 := by have := Hgw5.out; omega
  have n3 : b6 ≠ w.heap.size := by have := Hgw5.out; omega
  have n4 : b6 ≠ w.heap.size + 1 := by have := Hgw5.out; omega
  obtain ⟨t0, t1, t2, t3⟩ := HS0.c4 (g := b5) (T := 30) (a0 := .int .i64 W) (a1 := .int .i64 H) (a2 := .int .i64 P) (a3 := .slice A3 ys.length c3) (by simp)
  obtain ⟨d0, d1, d2, d3⟩ := HS0.b0_4
  obtain ⟨p0, p1, p2, p3⟩ := HS0.c4 (g := w.heap.size) (T := 30) (a0 := .int .i64 0) (a1 := .int .i64 0) (a2 := .int .i64 0) (a3 := .slice none 0 0) (by simp)
  obtain ⟨q0, q1, q2, q3⟩ := HS0.c4 (g := w.heap.size + 1) (T := 30) (a0 := .int .i64 0) (a1 := .int .i64 0) (a2 := .int .i64 0) (a3 := .slice none 0 0) (by simp)
  have f0 := HS0.fz (g := w.heap.size) (T := 30) (cs := #[.int .i64 0, .int .i64 0, .int .i64 0, .slice none 0 0]) (by simp) 0
  have f1 := HS0.fz (g := w.heap.size) (T := 30) (cs := #[.int .i64 0, .int .i64 0, .int .i64 0, .slice none 0 0]) (by simp) 1
  have f2 := HS0.fz (g := w.heap.size) (T := 30) (cs := #[.int .i64 0, .int .i64 0, .int .i64 0, .slice none 0 0]) (by simp) 2
  have f3 := HS0.fz (g := w.heap.size) (T := 30) (cs := #[.int .i64 0, .int .i64 0, .int .i64 0, .slice none 0 0]) (by simp) 3
  have e0 := HS0.fz (g := w.heap.size + 1) (T := 30) (cs := #[.int .i64 0, .int .i64 0, .int .i64 0, .slice none 0 0]) (by simp) 0
  have e1 := HS0.fz (g := w.heap.size + 1) (T := 30) (cs := #[.int .i64 0, .int .i64 0, .int .i64 0, .slice none 0 0]) (by simp) 1
  have e2 := HS0.fz (g := w.heap.size + 1) (T := 30) (cs := #[.int .i64 0, .int .i64 0, .int .i64 0, .slice none 0 0]) (by simp) 2
  have e3 := HS0.fz (g := w.heap.size + 1) (T := 30) (cs := #[.int .i64 0, .int .i64 0, .int .i64 0, .slice none 0 0]) (by simp) 3
  have HT0 : GS w wc [] [⟨w.heap.size, 30, #[.int .i64 0, .int .i64 0, .int .i64 0, .slice none 0 0]⟩, ⟨w.heap.size + 1, 30, #[.int .i64 0, .int .i64 0, .int .i64 0, .slice none 0 0]⟩] := ⟨HS0.below, by simp, .nil, by
    intro b hb
    simp only [List.mem_cons, List.not_mem_nil, or_false] at hb
    rcases hb with rfl | rfl
    · exact ⟨HS0.bx (by simp), by simp, by simp⟩
    · exact ⟨HS0.bx (by simp), by simp, by simp⟩, by simp⟩
  have HT1 := GS.fill4 (g := w.heap.size) HT0 (.int .i64 W) (.int .i64 H) (.int .i64 P) (.slice A3 ys.length c3)
  have HT1' : GS w _ [] [⟨w.heap.size + 1, 30, #[.int .i64 0, .int .i64 0, .int .i64 0, .slice none 0 0]⟩, ⟨w.heap.size, 30, #[.int .i64 W, .int .i64 H, .int .i64 P, .slice A3 ys.length c3]⟩] := ⟨HT1.1, HT1.2.1, HT1.2.2.1, fun b hb => HT1.2.2.2.1 b (by simp only [List.mem_cons, List.not_mem_nil, or_false] at hb ⊢; exact hb.symm), by simp⟩
  have HT2 := Lib.hid (GS.fill4 (g := w.heap.size + 1) HT1' (.int .i64 W') (.int .i64 H') (.int .i64 P') (.slice (some ⟨gA, 0, none⟩) ps.length c6))
  clear HT0 HT1 HT1'
  clear HG HS0 HY0 HS
  go_upto_region 8 with fail
  go_region
  all_goals
    go_wp2
    have HR1 := Lib.hid (Rds.offG (Rds.offG HY.out (by have := HB5.out.1; omega) HA.out (grown_set4 wc w.heap.size (.int .i64 W) (.int .i64 H) (.int .i64 P) (.slice A3 ys.length c3)) (by omega)) (by have := HB5.out.1; simp; omega) HA.out (grown_set4 _ (w.heap.size + 1) (.int .i64 W') (.int .i64 H') (.int .i64 P') (.slice (some ⟨gA, 0, none⟩) ps.length c6)) (by omega))
    have hgA3 : ∀ a : Addr, some (⟨gA, 0, none⟩ : Addr) = some a → w.heap.size + 3 ≤ a.block := fun a ha => by injection ha with ha; subst ha; exact HgL.out
    have HR2 := Lib.hid (Rds.offG (Rds.offG HO.out.rds.2 (Nat.le_refl _) hgA3 (grown_set4 wc w.heap.size (.int .i64 W) (.int .i64 H) (.int .i64 P) (.slice A3 ys.length c3)) (by omega)) (by simp) hgA3 (grown_set4 _ (w.heap.size + 1) (.int .i64 W') (.int .i64 H') (.int .i64 P') (.slice (some ⟨gA, 0, none⟩) ps.length c6)) (by omega))
    have hh5 := HB5.out.1
    have hpc := Hpp.out
    clear n1 n2 n3 n4 t0 t1 t2 t3 d0 d1 d2 d3 f0 f1 f2 f3 e0 e1 e2 e3 p0 p1 p2 p3 q0 q1 q2 q3
    have hzz : wc.heap.size = (((((((((wc.setCell ⟨w.heap.size, 0, none⟩ (.int .i64 W)).setCell ⟨w.heap.size, 1, none⟩ (.int .i64 H)).setCell ⟨w.heap.size, 2, none⟩ (.int .i64 P)).setCell ⟨w.heap.size, 3, none⟩ (.slice A3 ys.length c3)).setCell ⟨w.heap.size + 1, 0, none⟩ (.int .i64 W')).setCell ⟨w.heap.size + 1, 1, none⟩ (.int .i64 H')).setCell ⟨w.heap.size + 1, 2, none⟩ (.int .i64 P')).setCell ⟨w.heap.size + 1, 3, none⟩ (.slice (some ⟨gA, 0, none⟩) ps.length c6))).heap.size := by simp
    obtain ⟨Z, hZ⟩ : ∃ Z, Z = ((((((((wc.setCell ⟨w.heap.size, 0, none⟩ (.int .i64 W)).setCell ⟨w.heap.size, 1, none⟩ (.int .i64 H)).setCell ⟨w.heap.size, 2, none⟩ (.int .i64 P)).setCell ⟨w.heap.size, 3, none⟩ (.slice A3 ys.length c3)).setCell ⟨w.heap.size + 1, 0, none⟩ (.int .i64 W')).setCell ⟨w.heap.size + 1, 1, none⟩ (.int .i64 H')).setCell ⟨w.heap.size + 1, 2, none⟩ (.int .i64 P')).setCell ⟨w.heap.size + 1, 3, none⟩ (.slice (some ⟨gA, 0, none⟩) ps.length c6)) := ⟨_, rfl⟩
    rw [← hZ] at HT2 HR1 HR2 hzz ⊢
    clear hZ
    obtain ⟨q0, q1, q2, q3⟩ := HT2.out.b0_4
    obtain ⟨p0, p1, p2, p3⟩ := HT2.out.c4 (g := w.heap.size) (T := 30) (a0 := .int .i64 W) (a1 := .int .i64 H) (a2 := .int .i64 P) (a3 := .slice A3 ys.length c3) (by simp)
    refine bodyPost_ret (v := .tuple #[.agg #[.int .i64 W, .int .i64 H, .int .i64 P, .slice A3 ys.length c3], .agg #[.int .i64 W', .int .i64 H', .int .i64 P', .slice (some ⟨gA, 0, none⟩) ps.length c6]]) (by simp [results, Try.results17, go_sem, p0, p1, p2, p3, q0, q1, q2, q3]) rfl ?_
    have HBF := HT2.out.below
    have hR1 := Rds.more HR1.out (B' := Z.heap.size) (by omega)
    have hR2 := Rds.more HR2.out (B' := Z.heap.size) (by omega)
    exact ⟨W, H, P, A3, c3, ys, W', H', P', _, c6, qs, by rw [hql], ⟨hy.1, by omega⟩, hyc, by omega, hR1, hR2, HBF.drew, fun a ha => by have := HA.out a ha; omega, fun a ha => by have := hgA3 a ha; omega⟩
set_option maxHeartbeats 16000000 in
theorem drawCnt_any (A : Option Addr) (c : Nat) (bs : List Int) (w : World) (hc : bs.length ≤ c) (h : Rdw .u8 w w.heap.size A bs) :
    Calls Try.prog 20 #[.slice A bs.length c] w (DrawnFnd w) := by
  obtain ⟨u0, hu⟩ : ∃ u0, u0 = (w.alloc (.cells #[.int .i64 0, .int .i64 0, .int .i64 0, .slice none 0 0] 30)).alloc (.cells #[.int .i64 0, .int .i64 0, .int .i64 0, .slice none 0 0] 30) := ⟨_, rfl⟩
  have S0 := ((GS.start w).box' 30 #[.int .i64 0, .int .i64 0, .int .i64 0, .slice none 0 0] w.heap.size (by simp)).box' 30 #[.int .i64 0, .int .i64 0, .int .i64 0, .slice none 0 0] (w.heap.size + 1) (by simp)
  rw [← hu] at S0
  have Hh : Hid (Rdw .u8 u0 u0.heap.size A bs) := Lib.hid ⟨(h.1.below S0.below).more S0.below.size, h.2⟩
  have HS0 := Lib.hid S0
  have HU := Lib.hid hu
  have hz0 : u0.heap.size = w.heap.size + 2 := by rw [hu]; simp
  clear h hu S0
  go_enter Try.func20, Try.ntmps20
  go_wp2_with fail
  rw [← HU.out]
  clear HU
  refine (drawFnd_any A c bs u0 hc Hh.out).mono ?_
  rintro e wc ⟨W, H, P, A3, c3, ys, W', H', P', A6, c6, ps, rfl, ⟨hyl, hpl⟩, hyc, hpc, hr1, hr2, hb, hA3, hA6⟩
  have hT := HS0.out.call hb
  have hs2 := hb.size
  have HA := Lib.hid (show ∀ a : Addr, A3 = some a → w.heap.size + 2 ≤ a.block from fun a ha => by have := hA3 a ha; omega)
  have HA' := Lib.hid (show ∀ a : Addr, A6 = some a → w.heap.size + 2 ≤ a.block from fun a ha => by have := hA6 a ha; omega)
  have Hs2 := Lib.hid (show w.heap.size + 2 ≤ wc.heap.size by omega)
  have HT0 : GS w wc [] [⟨w.heap.size, 30, #[.int .i64 0, .int .i64 0, .int .i64 0, .slice none 0 0]⟩, ⟨w.heap.size + 1, 30, #[.int .i64 0, .int .i64 0, .int .i64 0, .slice none 0 0]⟩] := ⟨hT.below, by simp, .nil, by
    intro b hb
    simp only [List.mem_cons, List.not_mem_nil, or_false] at hb
    rcases hb with rfl | rfl
    · exact ⟨hT.bx (by simp), by simp, by simp⟩
    · exact ⟨hT.bx (by simp), by simp, by simp⟩, by simp⟩
  have HT1 := GS.fill4 (g := w.heap.size) HT0 (.int .i64 W) (.int .i64 H) (.int .i64 P) (.slice A3 ys.length c3)
  have HT1' : GS w _ [] [⟨w.heap.size + 1, 30, #[.int .i64 0, .int .i64 0, .int .i64 0, .slice none 0 0]⟩, ⟨w.heap.size, 30, #[.int .i64 W, .int .i64 H, .int .i64 P, .slice A3 ys.length c3]⟩] := ⟨HT1.1, HT1.2.1, HT1.2.2.1, fun b hb => HT1.2.2.2.1 b (by simp only [List.mem_cons, List.not_mem_nil, or_false] at hb ⊢; exact hb.symm), by simp⟩
  have HT2 := Lib.hid (GS.fill4 (g := w.heap.size + 1) HT1' (.int .i64 W') (.int .i64 H') (.int .i64 P') (.slice A6 ps.length c6))
  obtain ⟨p0, p1, p2, p3⟩ := HT0.b0_4
  obtain ⟨q0, q1, q2, q3⟩ := HT0.c4 (g := w.heap.size + 1) (T := 30) (a0 := .int .i64 0) (a1 := .int .i64 0) (a2 := .int .i64 0) (a3 := .slice none 0 0) (by simp)
  have f0 := HT0.f0 0
  have f1 := HT0.f0 1
  have f2 := HT0.f0 2
  have f3 := HT0.f0 3
  have e0 := HT0.f1 0
  have e1 := HT0.f1 1
  have e2 := HT0.f1 2
  have e3 := HT0.f1 3
  have HR1 := Lib.hid (Rds.offG (Rds.offG hr1 (Nat.le_refl _) HA.out (grown_set4 wc w.heap.size (.int .i64 W) (.int .i64 H) (.int .i64 P) (.slice A3 ys.length c3)) (by omega)) (by simp) HA.out (grown_set4 _ (w.heap.size + 1) (.int .i64 W') (.int .i64 H') (.int .i64 P') (.slice A6 ps.length c6)) (by omega))
  have HR2 := Lib.hid (Rds.offG (Rds.offG hr2 (Nat.le_refl _) HA'.out (grown_set4 wc w.heap.size (.int .i64 W) (.int .i64 H) (.int .i64 P) (.slice A3 ys.length c3)) (by omega)) (by simp) HA'.out (grown_set4 _ (w.heap.size + 1) (.int .i64 W') (.int .i64 H') (.int .i64 P') (.slice A6 ps.length c6)) (by omega))
  clear hT HT0 HT1 HT1' hr1 hr2 hb hA3 hA6 hs2 HS0 Hh hz0
  go_wp2
  clear p0 p1 p2 p3 q0 q1 q2 q3 f0 f1 f2 f3 e0 e1 e2 e3
  have hzz : wc.heap.size = (((((((((wc.setCell ⟨w.heap.size, 0, none⟩ (.int .i64 W)).setCell ⟨w.heap.size, 1, none⟩ (.int .i64 H)).setCell ⟨w.heap.size, 2, none⟩ (.int .i64 P)).setCell ⟨w.heap.size, 3, none⟩ (.slice A3 ys.length c3)).setCell ⟨w.heap.size + 1, 0, none⟩ (.int .i64 W')).setCell ⟨w.heap.size + 1, 1, none⟩ (.int .i64 H')).setCell ⟨w.heap.size + 1, 2, none⟩ (.int .i64 P')).setCell ⟨w.heap.size + 1, 3, none⟩ (.slice A6 ps.length c6))).heap.size := by simp
  obtain ⟨Z, hZ⟩ : ∃ Z, Z = ((((((((wc.setCell ⟨w.heap.size, 0, none⟩ (.int .i64 W)).setCell ⟨w.heap.size, 1, none⟩ (.int .i64 H)).setCell ⟨w.heap.size, 2, none⟩ (.int .i64 P)).setCell ⟨w.heap.size, 3, none⟩ (.slice A3 ys.length c3)).setCell ⟨w.heap.size + 1, 0, none⟩ (.int .i64 W')).setCell ⟨w.heap.size + 1, 1, none⟩ (.int .i64 H')).setCell ⟨w.heap.size + 1, 2, none⟩ (.int .i64 P')).setCell ⟨w.heap.size + 1, 3, none⟩ (.slice A6 ps.length c6)) := ⟨_, rfl⟩
  rw [← hZ] at HT2 HR1 HR2 hzz ⊢
  clear hZ
  obtain ⟨q0, q1, q2, q3⟩ := HT2.out.b0_4
  obtain ⟨p0, p1, p2, p3⟩ := HT2.out.c4 (g := w.heap.size) (T := 30) (a0 := .int .i64 W) (a1 := .int .i64 H) (a2 := .int .i64 P) (a3 := .slice A3 ys.length c3) (by simp)
  refine bodyPost_ret (v := .tuple #[.agg #[.int .i64 W, .int .i64 H, .int .i64 P, .slice A3 ys.length c3], .agg #[.int .i64 W', .int .i64 H', .int .i64 P', .slice A6 ps.length c6]]) (by simp [results, Try.results20, go_sem, p0, p1, p2, p3, q0, q1, q2, q3]) rfl ?_
  have hR1 := Rds.more HR1.out (B' := Z.heap.size) (by omega)
  have hR2 := Rds.more HR2.out (B' := Z.heap.size) (by omega)
  exact ⟨W, H, P, A3, c3, ys, W', H', P', _, c6, ps, rfl, ⟨hyl, hpl⟩, hyc, hpc, hR1, hR2, HT2.out.below, fun a ha => by have := HA.out a ha; omega, fun a ha => by have := HA'.out a ha; omega⟩
end Go.Proofs.Ytfjcbdpepbcjcaa
