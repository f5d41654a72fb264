/- PixelAt of the program answers what the model answers, for every image and every place; it writes into no argument, and its answer owns its memory. -/
import Derived.Test.YtpgicdnbdjdceaaRows
import Derived.WalkKit
import Derived.ProofKit
import Derived.OpenShut
import Derived.ShutString
import Derived.ChangeOld
import Derived.Below
import Derived.Lib.SmallJoins
import Derived.Test.YtpgicdnbdjdceaaISt2
namespace Go.Proofs.Ytpgicdnbdjdceaa.fnExactPixelAt
open Go.ChangeShapes Go.WideShapes Go.ChangeAt Go.RowKit
open Go.ChangeMaps (open_string shut_string)
set_option linter.unusedVariables false

theorem eqIntS_at (A A' : Option Addr) (c c' n n' : Nat) (q : List Int) (w : World) (hn : n = q.length) (hn' : n' = q.length) (hx : Rds .i64 w w.heap.size A q) (hy : Rds .i64 w w.heap.size A' q) (hl : q.length ≤ 2000000) :
    Calls Try.prog 40 #[.slice A n c, .slice A' n' c'] w fun e w' => e = .returned (.bool true) ∧ Below w.heap.size w w' := by
  subst hn hn'
  exact (eqIntS_any A A' c c' q q _ _ w hx hy (by omega) (by omega)).mono fun e w' ⟨he, n, hw⟩ => ⟨by rw [he]; simp, by subst hw; exact below_dm (Below.refl _ _) n⟩
theorem heldIntS_at (A : Option Addr) (c n : Nat) (k : Int) (w : World) (h : Rds .i64 w w.heap.size A (marks k n)) (hl : n ≤ 10000000) (hk0 : 0 ≤ k) (hk1 : k ≤ 100000000) :
    Calls Try.prog 42 #[.slice A n c, .int .i64 k] w fun e w' => e = .returned (.int .i64 (k + n)) ∧ Below w.heap.size w w' :=
  (heldIntS_any A c _ n k w h hl hk0 hk1).mono fun e w' ⟨he, hw⟩ => ⟨he, by subst hw; exact Below.refl _ _⟩
theorem pxv_bd' (W H P : Int) (xs : List Int) (x y : Int) (h : vim W H P xs = true) : (pxv W H P xs x y).length ≤ 4 := by
  obtain ⟨w, h', p, rfl, rfl, rfl, _, _, _, _, _, hp, _, _⟩ := vim_nat h
  unfold pxv
  cases (vim _ _ _ xs && onIm _ _ x y)
  · simp
  · simp [pxl_len]; omega
theorem Below.of_grown {w w' : World} (h : w.grownBy w' none) : Below w.heap.size w w' := ⟨h.os, h.tape, h.output, h.size, fun k hk => h.block k hk (by simp)⟩
set_option maxHeartbeats 16000000 in
theorem walk (w : World) (W H P : Int) (a0 : Option Addr) (cap0 : Nat) (z0 : List Int) (hc0 : z0.length ≤ cap0) (w0 : Rdw .i64 w w.heap.size a0 z0) (a1 : Int) (w1 : (Lit.int .i64 a1).wf = true) (a2 : Int) (w2 : (Lit.int .i64 a2).wf = true) :
    Calls Try.prog 12 #[.agg #[.int .i64 W, .int .i64 H, .int .i64 P, .slice a0 z0.length cap0], .int .i64 a1, .int .i64 a2] w fun e w' => e = .returned (.bool true) ∧ Below w.heap.size w w' := by
  have hm := w0.2.1
  unfold maxLen at hm
  have HR := Lib.hid w0.1
  clear w0 w1 w2
  by_cases hlen : 1048576 < z0.length
  · go_enter Try.func12, Try.ntmps12
    go_wp2_with fail
    refine (szImage_no W H P a0 cap0 z0 _ hlen (by omega)).mono ?_
    rintro e w1 ⟨rfl, hB⟩
    have HB := Lib.hid (((Below.refl w.heap.size w).alloc (Nat.le_refl _) _).trans (hB.mono (by simp <;> omega)))
    clear hB
    go_wp2
    go_ret
    exact ⟨rfl, HB.out⟩
  · have hS0 : Hid (∀ (A : Option Addr) (c : Nat) (w : World), Rds .i64 w w.heap.size A z0 → z0.length ≤ c → Calls Try.prog 31 #[.agg #[.int .i64 W, .int .i64 H, .int .i64 P, .slice A z0.length c], .int .i64 a1, .int .i64 a2] w fun e w' => ∃ v, e = .returned v ∧ Own w' w.heap.size v (pxv W H P z0 a1 a2) ∧ Below w.heap.size w w') := Lib.hid (fun A c w hx hc => s_PixelAt W H P A c z0 a1 a2 w hx (by omega) hc)
    have hI0 : Hid (∀ (A : Option Addr) (c : Nat) (w : World), Rds .i64 w w.heap.size A z0 → z0.length ≤ c → Calls Try.prog 20 #[.agg #[.int .i64 W, .int .i64 H, .int .i64 P, .slice A z0.length c], .int .i64 a1, .int .i64 a2] w fun e w' => Below w.heap.size w w' ∧ ((e = .returned (.slice none 0 0) ∧ pxv W H P z0 a1 a2 = []) ∨ ∃ (g p : Nat) (F : Nat → Int), e = .returned (.slice (some ⟨g, 0, none⟩) p p) ∧ 1 ≤ p ∧ p ≤ 4 ∧ pxv W H P z0 a1 a2 = (List.range p).map F ∧ w.heap.size ≤ g ∧ Bx w' g 69 #[.int .i64 (F 0), .int .i64 (F 1), .int .i64 (F 2), .int .i64 (F 3)])) := Lib.hid (fun A c w hx hc => i_PixelAtV W H P A c z0 a1 a2 w hx (by omega) hc)
    obtain ⟨RX, hRX⟩ : ∃ RX, RX = pxv W H P z0 a1 a2 := ⟨_, rfl⟩
    have hRle : RX.length ≤ 4 := by
      rw [hRX]
      cases hv : vim W H P z0
      · unfold pxv; rw [hv]; simp
      · exact pxv_bd' W H P z0 a1 a2 hv
    rw [← hRX] at hS0 hI0
    clear hRX
    have S0 : ISt w (w.alloc (.cells #[.int .i64 W, .int .i64 H, .int .i64 P, .slice a0 z0.length cap0] 44)) [] [⟨w.heap.size, 44, imC W H P (.slice a0 z0.length cap0)⟩] := ISt.start w 44 (imC W H P (.slice a0 z0.length cap0)) (by decide)
    by_cases hR0 : RX.length = 0
    · have HN : Hid (RX = []) := Lib.hid (List.eq_nil_of_length_eq_zero hR0)
      have HPL : Hid (0 = RX.length) := Lib.hid hR0.symm
      have HI : Hid (∀ (A : Option Addr) (c : Nat) (w : World), Rds .i64 w w.heap.size A z0 → z0.length ≤ c → Calls Try.prog 20 #[.agg #[.int .i64 W, .int .i64 H, .int .i64 P, .slice A z0.length c], .int .i64 a1, .int .i64 a2] w fun e w' => e = .returned (.slice none 0 0) ∧ Below w.heap.size w w') := Lib.hid (fun A c w hx hc => (hI0.out A c w hx hc).mono fun e w' ⟨hB, h⟩ => by
        rcases h with ⟨he, _⟩ | ⟨g, p, F, _, hp1, _, hF, _⟩
        · exact ⟨he, hB⟩
        · rw [hF] at hR0; simp at hR0; omega)
      have HS := hS0
      have hRL : RX.length ≤ 4 := by omega
      clear hI0 hS0 hR0
      go_enter Try.func12, Try.ntmps12
      go_wp2_with fail
      generalize w.alloc (.cells #[.int .i64 W, .int .i64 H, .int .i64 P, .slice a0 z0.length cap0] 44) = u0 at *
      refine (szImage_any W H P a0 cap0 z0 u0 (by omega)).mono ?_
      rintro e u1 ⟨rfl, hB1⟩
      have S1 := S0.call hB1
      clear hB1
      clear S0
      obtain ⟨b0, b1, b2, b3⟩ := S1.im (g := w.heap.size) (T := 44) (X := W) (Y := H) (Z := P) (v := .slice a0 z0.length cap0) (by simp)
      have bl := S1.lt (g := w.heap.size) (T := 44) (cs := imC W H P (.slice a0 z0.length cap0)) (by simp)
      go_wp2_with fail
      refine (toImage_any W H P a0 cap0 z0 _ (S1.1.arg HR.out) (by omega)).mono ?_
      rintro e u2 ⟨v2, rfl, hO2, hB2⟩
      obtain ⟨A2, c2, rfl, hc2⟩ := hO2.slice
      have S2 := S1.add hO2 hB2
      clear b0 b1 b2 b3 bl
      clear hO2 hB2
      clear S1
      go_wp2_with fail
      refine (HS.out A2 c2 _ (S2.1.rds (lo := u1.heap.size) (hi := u2.heap.size) (n := z0.length) (c := c2) (by simp)) hc2).mono ?_
      rintro e u3 ⟨v3, rfl, hO3, hB3⟩
      obtain ⟨A3, c3, rfl, hc3⟩ := hO3.slice
      have S3 := S2.add hO3 hB3
      clear hO3 hB3
      clear S2
      obtain ⟨b0, b1, b2, b3⟩ := S3.im (g := w.heap.size) (T := 44) (X := W) (Y := H) (Z := P) (v := .slice a0 z0.length cap0) (by simp)
      have bl := S3.lt (g := w.heap.size) (T := 44) (cs := imC W H P (.slice a0 z0.length cap0)) (by simp)
      go_wp2_with fail
      refine (toImage_any W H P a0 cap0 z0 _ (S3.1.arg HR.out) (by omega)).mono ?_
      rintro e u4 ⟨v4, rfl, hO4, hB4⟩
      obtain ⟨A4, c4, rfl, hc4⟩ := hO4.slice
      have S4 := S3.add hO4 hB4
      clear b0 b1 b2 b3 bl
      clear hO4 hB4
      clear S3
      have S5 : ISt w (u4.alloc (.cells #[.int .i64 W, .int .i64 H, .int .i64 P, .slice A4 z0.length c4] 25)) [⟨u3.heap.size, u4.heap.size, .slice A4 z0.length c4, z0⟩, ⟨u2.heap.size, u3.heap.size, .slice A3 RX.length c3, RX⟩, ⟨u1.heap.size, u2.heap.size, .slice A2 z0.length c2, z0⟩] [⟨u4.heap.size, 25, imC W H P (.slice A4 z0.length c4)⟩, ⟨w.heap.size, 44, imC W H P (.slice a0 z0.length cap0)⟩] := ISt.box S4 25 (imC W H P (.slice A4 z0.length c4)) (by decide)
      go_wp2_with fail
      clear S4
      generalize u4.alloc (.cells #[.int .i64 W, .int .i64 H, .int .i64 P, .slice A4 z0.length c4] 25) = u5 at *
      refine (HI.out A4 c4 _ (S5.1.rds (lo := u3.heap.size) (hi := u4.heap.size) (n := z0.length) (c := c4) (by simp)) hc4).mono ?_
      rintro e u6 ⟨rfl, hB6⟩
      have S6 := S5.call hB6
      clear hB6
      clear S5
      go_wp2_with fail
      refine (eqIntS_at none A3 _ _ 0 RX.length RX _ HPL.out rfl (Or.inl HN.out) (S6.1.rds (lo := u2.heap.size) (hi := u3.heap.size) (n := RX.length) (c := c3) (by simp)) (by omega)).mono ?_
      rintro e u7 ⟨rfl, hB7⟩
      have S7 := S6.call hB7
      clear hB7
      clear S6
      obtain ⟨x00, x01, x02, x03⟩ := S7.im (g := u4.heap.size) (T := 25) (X := W) (Y := H) (Z := P) (v := .slice A4 z0.length c4) (by simp)
      have x0l := S7.lt (g := u4.heap.size) (T := 25) (cs := imC W H P (.slice A4 z0.length c4)) (by simp)
      obtain ⟨b0, b1, b2, b3⟩ := S7.im (g := w.heap.size) (T := 44) (X := W) (Y := H) (Z := P) (v := .slice a0 z0.length cap0) (by simp)
      have bl := S7.lt (g := w.heap.size) (T := 44) (cs := imC W H P (.slice a0 z0.length cap0)) (by simp)
      have HS8 := Lib.hid S7
      go_wp2
      go_region_held3 (fun w' => (w'.cell? ⟨u4.heap.size, 0, none⟩ = some (.int .i64 W) ∧ w'.cell? ⟨u4.heap.size, 1, none⟩ = some (.int .i64 H) ∧ w'.cell? ⟨u4.heap.size, 2, none⟩ = some (.int .i64 P) ∧ w'.cell? ⟨u4.heap.size, 3, none⟩ = some (.slice A4 z0.length c4)) ∧ w'.cell? ⟨w.heap.size, 0, none⟩ = some (.int .i64 W) ∧ w'.cell? ⟨w.heap.size, 1, none⟩ = some (.int .i64 H) ∧ w'.cell? ⟨w.heap.size, 2, none⟩ = some (.int .i64 P) ∧ w'.cell? ⟨w.heap.size, 3, none⟩ = some (.slice a0 z0.length cap0))
        (first | (with_reducible exact ⟨⟨k0, k1, k2, k3⟩, k4, k5, k6, k7⟩) | (with_reducible exact ⟨⟨d0, d1, d2, d3⟩, d4, d5, d6, d7⟩) | exact ⟨⟨x00, x01, x02, x03⟩, b0, b1, b2, b3⟩ | go_keep)
        (first | (go_at_call 36; refine (toImage_any W H P a0 cap0 z0 _ (by exact HS8.out.drew.1.arg HR.out) (by omega)).mono ?_; rintro e u8 ⟨v8, rfl, hO8, hB8⟩; obtain ⟨A8, c8, rfl, hc8⟩ := hO8.slice; obtain ⟨d0, d1, d2, d3⟩ := im_keep hB8 (by exact x0l) x00 x01 x02 x03; obtain ⟨d4, d5, d6, d7⟩ := im_keep hB8 (by exact bl) b0 b1 b2 b3; have hz8 := hB8.size; have x0m : u4.heap.size < u8.heap.size := Nat.lt_of_lt_of_le (show _ < u7.heap.size from x0l) hz8; have bm : w.heap.size < u8.heap.size := Nat.lt_of_lt_of_le (show _ < u7.heap.size from bl) hz8; have HT8 := Lib.hid (HS8.out.drew.add hO8 hB8); clear hO8 hB8) | (go_at_call 37; refine (eqImage_same W H P A4 A8 c4 c8 _ _ z0 _ rfl rfl (by exact HT8.out.1.rds (lo := u3.heap.size) (hi := u4.heap.size) (n := z0.length) (c := c4) (by simp)) (by exact HT8.out.1.rds (lo := u7.drew.heap.size) (hi := u8.heap.size) (n := z0.length) (c := c8) (by simp)) (by omega)).mono ?_; rintro e u9 ⟨rfl, hB9⟩; obtain ⟨k0, k1, k2, k3⟩ := im_keep hB9 (by exact x0m) d0 d1 d2 d3; obtain ⟨k4, k5, k6, k7⟩ := im_keep hB9 (by exact bm) d4 d5 d6 d7; have HT9 := Lib.hid (HT8.out.call hB9); clear hB9))
      clear d0 d1 d2 d3 d4 d5 d6 d7 k0 k1 k2 k3 k4 k5 k6 k7 x0m bm hz8
      clear x00 x01 x02 x03 x0l b0 b1 b2 b3 bl
      have S9 := HT9.out
      clear HT8 HT9 HS8 S7
      obtain ⟨x00, x01, x02, x03⟩ := S9.im (g := u4.heap.size) (T := 25) (X := W) (Y := H) (Z := P) (v := .slice A4 z0.length c4) (by simp)
      have x0l := S9.lt (g := u4.heap.size) (T := 25) (cs := imC W H P (.slice A4 z0.length c4)) (by simp)
      go_wp2_with fail
      refine (markImage_any W H P (.slice A4 z0.length c4) u3.heap.size z0 (1) _ (S9.1.own ⟨u3.heap.size, u4.heap.size, .slice A4 z0.length c4, z0⟩ (by simp)) (by omega) (by omega) (by omega)).mono ?_
      rintro e u10 ⟨rfl, hO10, hG10⟩
      have S10 := ISt.mark (L1 := [⟨u7.drew.heap.size, u8.heap.size, .slice A8 z0.length c8, z0⟩]) (t := ⟨u3.heap.size, u4.heap.size, .slice A4 z0.length c4, z0⟩) (L2 := [⟨u2.heap.size, u3.heap.size, .slice A3 RX.length c3, RX⟩, ⟨u1.heap.size, u2.heap.size, .slice A2 z0.length c2, z0⟩]) S9 hO10 hG10
      clear x00 x01 x02 x03 x0l
      clear hO10 hG10
      clear S9
      go_wp2_with fail
      refine (eqIntS_at none A3 _ _ 0 RX.length RX _ HPL.out rfl (Or.inl HN.out) (S10.1.rds (lo := u2.heap.size) (hi := u3.heap.size) (n := RX.length) (c := c3) (by simp)) (by omega)).mono ?_
      rintro e u11 ⟨rfl, hB11⟩
      have S11 := S10.call hB11
      clear hB11
      clear S10
      go_wp2_with fail
      refine (markIntS_any (.slice none 0 0) 0 [] 1 _ (World.ownsRow_nil _ _ _ _) (by simp) (by omega) (by omega)).mono ?_
      rintro e u12 ⟨rfl, hO12, hG12, hZ12⟩
      have S12 := S11.call (Below.of_grown hG12)
      clear hO12 hG12 hZ12
      clear S11
      go_wp2_with fail
      refine (heldIntS_at none _ 0 1 _ (Or.inl (by simp [marks])) (by omega) (by omega) (by omega)).mono ?_
      rintro e u13 ⟨rfl, hB13⟩
      have S13 := S12.call hB13
      clear hB13
      clear S12
      obtain ⟨b0, b1, b2, b3⟩ := S13.im (g := w.heap.size) (T := 44) (X := W) (Y := H) (Z := P) (v := .slice a0 z0.length cap0) (by simp)
      have bl := S13.lt (g := w.heap.size) (T := 44) (cs := imC W H P (.slice a0 z0.length cap0)) (by simp)
      go_wp2_with fail
      refine (toImage_any W H P a0 cap0 z0 _ (S13.1.arg HR.out) (by omega)).mono ?_
      rintro e u14 ⟨v14, rfl, hO14, hB14⟩
      obtain ⟨A14, c14, rfl, hc14⟩ := hO14.slice
      have S14 := S13.add hO14 hB14
      clear b0 b1 b2 b3 bl
      clear hO14 hB14
      clear S13
      go_wp2_with fail
      refine (HI.out A14 c14 _ (S14.1.rds (lo := u13.heap.size) (hi := u14.heap.size) (n := z0.length) (c := c14) (by simp)) hc14).mono ?_
      rintro e u15 ⟨rfl, hB15⟩
      have S15 := S14.call hB15
      clear hB15
      clear S14
      go_wp2_with fail
      refine (eqIntS_at none A3 _ _ 0 RX.length RX _ HPL.out rfl (Or.inl HN.out) (S15.1.rds (lo := u2.heap.size) (hi := u3.heap.size) (n := RX.length) (c := c3) (by simp)) (by omega)).mono ?_
      rintro e u16 ⟨rfl, hB16⟩
      have S16 := S15.call hB16
      clear hB16
      clear S15
      go_wp2_with fail
      refine (heldIntS_at none _ 0 1 _ (Or.inl (by simp [marks])) (by omega) (by omega) (by omega)).mono ?_
      rintro e u17 ⟨rfl, hB17⟩
      have S17 := S16.call hB17
      clear hB17
      clear S16
      go_wp2
      go_ret
      exact ⟨rfl, S17.1.below⟩
    · obtain ⟨pp, hpp⟩ : ∃ pp, pp = RX.length := ⟨_, rfl⟩
      have hpl : RX.length ≤ 4 := hRle
      have hp4 : pp ≤ 4 := by omega
      have HPL := Lib.hid hpp
      have HI : Hid (∀ (A : Option Addr) (c : Nat) (w : World), Rds .i64 w w.heap.size A z0 → z0.length ≤ c → Calls Try.prog 20 #[.agg #[.int .i64 W, .int .i64 H, .int .i64 P, .slice A z0.length c], .int .i64 a1, .int .i64 a2] w fun e w' => Below w.heap.size w w' ∧ ∃ (g : Nat) (F : Nat → Int), e = .returned (.slice (some ⟨g, 0, none⟩) pp pp) ∧ RX = (List.range pp).map F ∧ w.heap.size ≤ g ∧ Bx w' g 69 #[.int .i64 (F 0), .int .i64 (F 1), .int .i64 (F 2), .int .i64 (F 3)]) := Lib.hid (fun A c w hx hc => (hI0.out A c w hx hc).mono fun e w' ⟨hB, h⟩ => by
        rcases h with ⟨_, h0⟩ | ⟨g, p, F, he, hp1, _, hF, hg, hX⟩
        · rw [h0] at hR0; simp at hR0
        · have : pp = p := by rw [hpp, hF]; simp
          subst this
          exact ⟨hB, g, F, he, hF, hg, hX⟩)
      have HS := hS0
      clear hI0 hS0 hR0 hpp
      go_enter Try.func12, Try.ntmps12
      go_wp2_with fail
      generalize w.alloc (.cells #[.int .i64 W, .int .i64 H, .int .i64 P, .slice a0 z0.length cap0] 44) = u0 at *
      refine (szImage_any W H P a0 cap0 z0 u0 (by omega)).mono ?_
      rintro e u1 ⟨rfl, hB1⟩
      have S1 := S0.call hB1
      clear hB1
      clear S0
      obtain ⟨b0, b1, b2, b3⟩ := S1.im (g := w.heap.size) (T := 44) (X := W) (Y := H) (Z := P) (v := .slice a0 z0.length cap0) (by simp)
      have bl := S1.lt (g := w.heap.size) (T := 44) (cs := imC W H P (.slice a0 z0.length cap0)) (by simp)
      go_wp2_with fail
      refine (toImage_any W H P a0 cap0 z0 _ (S1.1.arg HR.out) (by omega)).mono ?_
      rintro e u2 ⟨v2, rfl, hO2, hB2⟩
      obtain ⟨A2, c2, rfl, hc2⟩ := hO2.slice
      have S2 := S1.add hO2 hB2
      clear b0 b1 b2 b3 bl
      clear hO2 hB2
      clear S1
      go_wp2_with fail
      refine (HS.out A2 c2 _ (S2.1.rds (lo := u1.heap.size) (hi := u2.heap.size) (n := z0.length) (c := c2) (by simp)) hc2).mono ?_
      rintro e u3 ⟨v3, rfl, hO3, hB3⟩
      obtain ⟨A3, c3, rfl, hc3⟩ := hO3.slice
      have S3 := S2.add hO3 hB3
      clear hO3 hB3
      clear S2
      obtain ⟨b0, b1, b2, b3⟩ := S3.im (g := w.heap.size) (T := 44) (X := W) (Y := H) (Z := P) (v := .slice a0 z0.length cap0) (by simp)
      have bl := S3.lt (g := w.heap.size) (T := 44) (cs := imC W H P (.slice a0 z0.length cap0)) (by simp)
      go_wp2_with fail
      refine (toImage_any W H P a0 cap0 z0 _ (S3.1.arg HR.out) (by omega)).mono ?_
      rintro e u4 ⟨v4, rfl, hO4, hB4⟩
      obtain ⟨A4, c4, rfl, hc4⟩ := hO4.slice
      have S4 := S3.add hO4 hB4
      clear b0 b1 b2 b3 bl
      clear hO4 hB4
      clear S3
      have S5 : ISt w (u4.alloc (.cells #[.int .i64 W, .int .i64 H, .int .i64 P, .slice A4 z0.length c4] 25)) [⟨u3.heap.size, u4.heap.size, .slice A4 z0.length c4, z0⟩, ⟨u2.heap.size, u3.heap.size, .slice A3 RX.length c3, RX⟩, ⟨u1.heap.size, u2.heap.size, .slice A2 z0.length c2, z0⟩] [⟨u4.heap.size, 25, imC W H P (.slice A4 z0.length c4)⟩, ⟨w.heap.size, 44, imC W H P (.slice a0 z0.length cap0)⟩] := ISt.box S4 25 (imC W H P (.slice A4 z0.length c4)) (by decide)
      go_wp2_with fail
      clear S4
      generalize u4.alloc (.cells #[.int .i64 W, .int .i64 H, .int .i64 P, .slice A4 z0.length c4] 25) = u5 at *
      refine (HI.out A4 c4 _ (S5.1.rds (lo := u3.heap.size) (hi := u4.heap.size) (n := z0.length) (c := c4) (by simp)) hc4).mono ?_
      rintro e u6 ⟨hB6, g6, F6, rfl, hRF6, hg6, hX6⟩
      have S6 := S5.addb hB6 hX6 (by decide)
      have hbl6 : w.heap.size ≤ u5.heap.size := S5.1.below.size
      have hbs6 : ∀ b ∈ ([⟨u4.heap.size, 25, imC W H P (.slice A4 z0.length c4)⟩, ⟨w.heap.size, 44, imC W H P (.slice a0 z0.length cap0)⟩] : List Bxs), b.g < u5.heap.size := fun b hm => (S5.2 b hm).1.lt
      have HRF6 := Lib.hid hRF6
      clear hB6 hX6 hRF6
      clear S5
      go_wp2_with fail
      refine (eqIntS_at (some ⟨g6, 0, none⟩) A3 _ _ pp RX.length RX _ HPL.out rfl (by have := bx_rds hp4 (S6.bx (g := g6) (T := 69) (cs := #[.int .i64 (F6 0), .int .i64 (F6 1), .int .i64 (F6 2), .int .i64 (F6 3)]) (by simp)); rwa [← HRF6.out] at this) (S6.1.rds (lo := u2.heap.size) (hi := u3.heap.size) (n := RX.length) (c := c3) (by simp)) (by omega)).mono ?_
      rintro e u7 ⟨rfl, hB7⟩
      have S7 := S6.call hB7
      clear hB7
      clear S6
      obtain ⟨x00, x01, x02, x03⟩ := S7.im (g := u4.heap.size) (T := 25) (X := W) (Y := H) (Z := P) (v := .slice A4 z0.length c4) (by simp)
      have x0l := S7.lt (g := u4.heap.size) (T := 25) (cs := imC W H P (.slice A4 z0.length c4)) (by simp)
      obtain ⟨b0, b1, b2, b3⟩ := S7.im (g := w.heap.size) (T := 44) (X := W) (Y := H) (Z := P) (v := .slice a0 z0.length cap0) (by simp)
      have bl := S7.lt (g := w.heap.size) (T := 44) (cs := imC W H P (.slice a0 z0.length cap0)) (by simp)
      have HS8 := Lib.hid S7
      go_wp2
      go_region_held3 (fun w' => (w'.cell? ⟨u4.heap.size, 0, none⟩ = some (.int .i64 W) ∧ w'.cell? ⟨u4.heap.size, 1, none⟩ = some (.int .i64 H) ∧ w'.cell? ⟨u4.heap.size, 2, none⟩ = some (.int .i64 P) ∧ w'.cell? ⟨u4.heap.size, 3, none⟩ = some (.slice A4 z0.length c4)) ∧ w'.cell? ⟨w.heap.size, 0, none⟩ = some (.int .i64 W) ∧ w'.cell? ⟨w.heap.size, 1, none⟩ = some (.int .i64 H) ∧ w'.cell? ⟨w.heap.size, 2, none⟩ = some (.int .i64 P) ∧ w'.cell? ⟨w.heap.size, 3, none⟩ = some (.slice a0 z0.length cap0))
        (first | (with_reducible exact ⟨⟨k0, k1, k2, k3⟩, k4, k5, k6, k7⟩) | (with_reducible exact ⟨⟨d0, d1, d2, d3⟩, d4, d5, d6, d7⟩) | exact ⟨⟨x00, x01, x02, x03⟩, b0, b1, b2, b3⟩ | go_keep)
        (first | (go_at_call 36; refine (toImage_any W H P a0 cap0 z0 _ (by exact HS8.out.drew.1.arg HR.out) (by omega)).mono ?_; rintro e u8 ⟨v8, rfl, hO8, hB8⟩; obtain ⟨A8, c8, rfl, hc8⟩ := hO8.slice; obtain ⟨d0, d1, d2, d3⟩ := im_keep hB8 (by exact x0l) x00 x01 x02 x03; obtain ⟨d4, d5, d6, d7⟩ := im_keep hB8 (by exact bl) b0 b1 b2 b3; have hz8 := hB8.size; have x0m : u4.heap.size < u8.heap.size := Nat.lt_of_lt_of_le (show _ < u7.heap.size from x0l) hz8; have bm : w.heap.size < u8.heap.size := Nat.lt_of_lt_of_le (show _ < u7.heap.size from bl) hz8; have HT8 := Lib.hid (HS8.out.drew.add hO8 hB8); clear hO8 hB8) | (go_at_call 37; refine (eqImage_same W H P A4 A8 c4 c8 _ _ z0 _ rfl rfl (by exact HT8.out.1.rds (lo := u3.heap.size) (hi := u4.heap.size) (n := z0.length) (c := c4) (by simp)) (by exact HT8.out.1.rds (lo := u7.drew.heap.size) (hi := u8.heap.size) (n := z0.length) (c := c8) (by simp)) (by omega)).mono ?_; rintro e u9 ⟨rfl, hB9⟩; obtain ⟨k0, k1, k2, k3⟩ := im_keep hB9 (by exact x0m) d0 d1 d2 d3; obtain ⟨k4, k5, k6, k7⟩ := im_keep hB9 (by exact bm) d4 d5 d6 d7; have HT9 := Lib.hid (HT8.out.call hB9); clear hB9))
      clear d0 d1 d2 d3 d4 d5 d6 d7 k0 k1 k2 k3 k4 k5 k6 k7 x0m bm hz8
      clear x00 x01 x02 x03 x0l b0 b1 b2 b3 bl
      have S9 := HT9.out
      clear HT8 HT9 HS8 S7
      obtain ⟨x00, x01, x02, x03⟩ := S9.im (g := u4.heap.size) (T := 25) (X := W) (Y := H) (Z := P) (v := .slice A4 z0.length c4) (by simp)
      have x0l := S9.lt (g := u4.heap.size) (T := 25) (cs := imC W H P (.slice A4 z0.length c4)) (by simp)
      go_wp2_with fail
      refine (markImage_any W H P (.slice A4 z0.length c4) u3.heap.size z0 (1) _ (S9.1.own ⟨u3.heap.size, u4.heap.size, .slice A4 z0.length c4, z0⟩ (by simp)) (by omega) (by omega) (by omega)).mono ?_
      rintro e u10 ⟨rfl, hO10, hG10⟩
      have S10 := ISt.mark (L1 := [⟨u7.drew.heap.size, u8.heap.size, .slice A8 z0.length c8, z0⟩]) (t := ⟨u3.heap.size, u4.heap.size, .slice A4 z0.length c4, z0⟩) (L2 := [⟨u2.heap.size, u3.heap.size, .slice A3 RX.length c3, RX⟩, ⟨u1.heap.size, u2.heap.size, .slice A2 z0.length c2, z0⟩]) S9 hO10 hG10
      clear x00 x01 x02 x03 x0l
      clear hO10 hG10
      clear S9
      go_wp2_with fail
      refine (eqIntS_at (some ⟨g6, 0, none⟩) A3 _ _ pp RX.length RX _ HPL.out rfl (by have := bx_rds hp4 (S10.bx (g := g6) (T := 69) (cs := #[.int .i64 (F6 0), .int .i64 (F6 1), .int .i64 (F6 2), .int .i64 (F6 3)]) (by simp)); rwa [← HRF6.out] at this) (S10.1.rds (lo := u2.heap.size) (hi := u3.heap.size) (n := RX.length) (c := c3) (by simp)) (by omega)).mono ?_
      rintro e u11 ⟨rfl, hB11⟩
      have S11 := S10.call hB11
      clear hB11
      clear S10
      go_wp2_with fail
      refine (markC_any g6 pp hp4 69 #[.int .i64 (F6 0), .int .i64 (F6 1), .int .i64 (F6 2), .int .i64 (F6 3)] (by simp) 1 _ (S11.bx (g := g6) (T := 69) (cs := #[.int .i64 (F6 0), .int .i64 (F6 1), .int .i64 (F6 2), .int .i64 (F6 3)]) (by simp)) (by omega) (by omega)).mono ?_
      rintro e u12 ⟨rfl, hG12, ds12, hX12, hsz12, hm12⟩
      have S12 := ISt.setb (Bs1 := []) (Bs2 := [⟨u4.heap.size, 25, imC W H P (.slice A4 z0.length c4)⟩, ⟨w.heap.size, 44, imC W H P (.slice a0 z0.length cap0)⟩]) S11 (by omega) (fun b hb e => by have h1 := hbs6 b (by simpa using hb); omega) hX12 hG12
      clear hG12 hX12
      clear S11
      go_wp2_with fail
      refine (heldIntS_at (some ⟨g6, 0, none⟩) _ pp 1 _ (marks_rds (S12.bx (g := g6) (T := 69) (cs := ds12) (by simp)) hm12) (by omega) (by omega) (by omega)).mono ?_
      rintro e u13 ⟨rfl, hB13⟩
      have S13 := S12.call hB13
      clear hB13
      clear S12
      obtain ⟨b0, b1, b2, b3⟩ := S13.im (g := w.heap.size) (T := 44) (X := W) (Y := H) (Z := P) (v := .slice a0 z0.length cap0) (by simp)
      have bl := S13.lt (g := w.heap.size) (T := 44) (cs := imC W H P (.slice a0 z0.length cap0)) (by simp)
      go_wp2_with fail
      refine (toImage_any W H P a0 cap0 z0 _ (S13.1.arg HR.out) (by omega)).mono ?_
      rintro e u14 ⟨v14, rfl, hO14, hB14⟩
      obtain ⟨A14, c14, rfl, hc14⟩ := hO14.slice
      have S14 := S13.add hO14 hB14
      clear b0 b1 b2 b3 bl
      clear hO14 hB14
      clear S13
      go_wp2_with fail
      refine (HI.out A14 c14 _ (S14.1.rds (lo := u13.heap.size) (hi := u14.heap.size) (n := z0.length) (c := c14) (by simp)) hc14).mono ?_
      rintro e u15 ⟨hB15, g15, F15, rfl, hRF15, hg15, hX15⟩
      have S15 := S14.addb hB15 hX15 (by decide)
      have hbl15 : w.heap.size ≤ u14.heap.size := S14.1.below.size
      have hbs15 : ∀ b ∈ ([⟨g6, 69, ds12⟩, ⟨u4.heap.size, 25, imC W H P (.slice A4 z0.length c4)⟩, ⟨w.heap.size, 44, imC W H P (.slice a0 z0.length cap0)⟩] : List Bxs), b.g < u14.heap.size := fun b hm => (S14.2 b hm).1.lt
      have HRF15 := Lib.hid hRF15
      clear hB15 hX15 hRF15
      clear S14
      go_wp2_with fail
      refine (eqIntS_at (some ⟨g15, 0, none⟩) A3 _ _ pp RX.length RX _ HPL.out rfl (by have := bx_rds hp4 (S15.bx (g := g15) (T := 69) (cs := #[.int .i64 (F15 0), .int .i64 (F15 1), .int .i64 (F15 2), .int .i64 (F15 3)]) (by simp)); rwa [← HRF15.out] at this) (S15.1.rds (lo := u2.heap.size) (hi := u3.heap.size) (n := RX.length) (c := c3) (by simp)) (by omega)).mono ?_
      rintro e u16 ⟨rfl, hB16⟩
      have S16 := S15.call hB16
      clear hB16
      clear S15
      go_wp2_with fail
      refine (heldIntS_at (some ⟨g6, 0, none⟩) _ pp 1 _ (marks_rds (S16.bx (g := g6) (T := 69) (cs := ds12) (by simp)) hm12) (by omega) (by omega) (by omega)).mono ?_
      rintro e u17 ⟨rfl, hB17⟩
      have S17 := S16.call hB17
      clear hB17
      clear S16
      go_wp2
      go_ret
      exact ⟨rfl, S17.1.below⟩

/-! ### From the walk to the statement. -/
theorem own : ownKnob Try.prog.godebug = none := by kernel_rfl
theorem laidOut : laidOutB Try.prog = true := by kernel_rfl
set_option maxRecDepth 100000 in
theorem lifted (os : Os) (started : os.Started) (H : Type) (enc : TypeId × Value → H) :
    ReturnsInHanded {} Try.checked os 12 .any (Rows.fnExactPixelAtSpec.pre6 enc Try.prog Try.f12 Rows.fnExactPixelAtRow.domain false) (Rows.fnExactPixelAtSpec.post enc Try.prog Try.f12 false true false false) := by
  refine returnsInHanded_of_change (C := Try.checked) own started (by kernel_rfl) Try.func12
    (ChangeSpec.witness6 (enc := enc) (C := Try.checked) false ⟨#[], #[.agg #[.int .i64 0, .int .i64 0, .int .i64 0, .slice none 0 0], .int .i64 0, .int .i64 0], []⟩ 8 (by kernel_rfl) (by kernel_rfl) (by kernel_rfl) (by kernel_rfl)) ?_
  intro W base args ds gs before hval0 hW hcnd _
  have hval : ∀ (j : Nat) t v, Try.f12.params[j]? = some t → args[j]? = some v → Value.okWide Try.prog W .any base t v := hval0
  have hW' := hW
  obtain ⟨p, q, hA0, hV, rfl, hfz, hnd⟩ := hW
  have hA : DataW.TrodAll enc Try.prog W 0 (fun _ => true) true Try.f12.params.toList args.toList ds p := hA0
  rw [Try.params12] at hA hval
  obtain ⟨v0, vs0, d0, ds0, p0, q0, hargs, rfl, rfl, h0, r0⟩ := trodAll_cons hA
  obtain ⟨v1, vs1, d1, ds1, p1, q1, rfl, rfl, rfl, h1, r1⟩ := trodAll_cons r0
  obtain ⟨v2, vs2, d2, ds2, p2, q2, rfl, rfl, rfl, h2, r2⟩ := trodAll_cons r1
  obtain ⟨rfl, rfl, rfl⟩ := trodAll_nil r2
  obtain rfl : args = #[v0, v1, v2] := by cases args; simp_all
  obtain ⟨rfl, rfl⟩ := trodVars_none hV
  have k0 := h0
  have lt0 : ∀ x ∈ p0, x.block < W.heap.size := by obtain ⟨m, hm⟩ := k0; exact DataW.trod_lt m _ _ _ hm
  obtain ⟨x0a, x0b, x0c, x0d, y0a, y0b, y0c, y0d, m0, rfl, rfl, rfl, g0a, g0b, g0c, g0d⟩ := Joins.open_agg4 Try.underlying44 (by kernel_rfl) (by kernel_rfl) (hval 0 44 v0 rfl rfl) h0
  obtain ⟨n0a, e0a, rfl, f0a⟩ := DataW.trod_int Try.underlying3 g0a
  simp at e0a
  subst e0a
  obtain ⟨n0b, e0b, rfl, f0b⟩ := DataW.trod_int Try.underlying3 g0b
  simp at e0b
  subst e0b
  obtain ⟨n0c, e0c, rfl, f0c⟩ := DataW.trod_int Try.underlying3 g0c
  simp at e0c
  subst e0c
  obtain ⟨a0, cap0, z0, hv0, hc0, w0⟩ : ∃ (A : Option Addr) (c : Nat) (zs : List Int), x0d = .slice A zs.length c ∧ zs.length ≤ c ∧ Rdw .i64 W W.heap.size A zs := by
    rcases open_ints Try.underlying23 Try.underlying3 (by kernel_rfl) g0d with ⟨hcs, _⟩ | ⟨x, l, c, zs, hcs, _, hl, hm, hz, _, hcell, hwz⟩
    · simp at hcs
      exact ⟨none, 0, [], hcs, Nat.le_refl _, Rdw.nil⟩
    · simp at hcs
      have hzl : (zs.take l).length = l := by simp at hz ⊢; omega
      exact ⟨some x, c, zs.take l, by rw [hzl]; exact hcs, by rw [hzl]; exact hl, Rdw.of_row hl hm (by simpa using hz) hcell hwz⟩
  subst hv0
  obtain ⟨a1, rfl, rfl, rfl, w1⟩ := open_int Try.underlying3 (hval 1 3 v1 rfl rfl) h1
  obtain ⟨a2, rfl, rfl, rfl, w2⟩ := open_int Try.underlying3 (hval 2 3 v2 rfl rfl) h2
  clear hA0 hval0
  refine (walk W n0a n0b n0c a0 cap0 z0 hc0 w0 a1 w1 a2 w2).mono fun e W' ⟨he, bel⟩ => ?_
  subst he
  exact ⟨_, rfl, _, _, _, [], _, [], hW', trodAll_mk1 (shut_bool Try.underlying4 _), (trodAll_cons_mk (Below.trod laidOut (by kernel_rfl) (of_decide_eq_true (by kernel_rfl)) k0 bel lt0) (trodAll_cons_mk (shut_int Try.underlying3 w1) (trodAll_cons_mk (shut_int Try.underlying3 w2) trodAll_mk0))), rfl, bel.frame _, fun h => by cases h⟩

theorem over : Rows.fnExactPixelAtRow.holds Try.pinned (OpenSpec.ofChange Rows.fnExactPixelAtSpec) :=
  OpenClaim.holds_of_wide 12 Try.f12 rfl rfl rfl rfl rfl rfl rfl ⟨rfl, rfl, rfl, rfl, rfl⟩ rfl rfl rfl rfl rfl (by kernel_rfl) Try.func12 (by kernel_rfl)
    (of_decide_eq_true (by kernel_rfl)) (by unfold Func.isWrapper; first | (rw [if_pos (by decide +kernel)]; kernel_rfl) | (rw [if_neg (by decide +kernel)]; exact ⟨rfl, rfl⟩))
    (fun os started H enc _ => lifted os started H enc)

theorem proved : Rows.FnExactPixelAtSaid := over
end Go.Proofs.Ytpgicdnbdjdceaa.fnExactPixelAt
