/- SetPixel of the program answers what the model answers, for every image, every place and every list; it writes into no argument, and its answer owns its memory. -/
import Derived.Test.YtpgicdnbdjdceaaRows
import Derived.WalkKit
import Derived.ProofKit
import Derived.OpenShut
import Derived.ShutString
import Derived.ChangeOld
import Derived.Below
import Derived.Lib.SmallJoins
import Derived.Test.YtpgicdnbdjdceaaImgS
import Derived.Test.YtpgicdnbdjdceaaSetI
namespace Go.Proofs.Ytpgicdnbdjdceaa.fnExactSetPixel
open Go.ChangeShapes Go.WideShapes Go.ChangeAt Go.RowKit
open Go.ChangeMaps (open_string shut_string)
set_option linter.unusedVariables false

def SetX (f : FuncId) (W H P : Int) (xs : List Int) (x y : Int) (q : List Int) (X Y Z : Int) (ys : List Int) (ok : Bool) : Prop :=
  ∀ (A : Option Addr) (c : Nat) (A' : Option Addr) (c' : Nat) (w : World), Rds .i64 w w.heap.size A xs → xs.length ≤ c → Rds .i64 w w.heap.size A' q → q.length ≤ c' →
    Calls Try.prog f #[.agg #[.int .i64 W, .int .i64 H, .int .i64 P, .slice A xs.length c], .int .i64 x, .int .i64 y, .slice A' q.length c'] w fun e w' => ∃ v, e = .returned (.tuple #[.agg #[.int .i64 X, .int .i64 Y, .int .i64 Z, v], .bool ok]) ∧ Own w' w.heap.size v ys ∧ Below w.heap.size w w'
theorem set_len (W H P : Int) (xs : List Int) (x y : Int) (q : List Int) : (cond (setOk W H P xs x y q) (setL W.toNat H.toNat P.toNat xs x.toNat y.toNat q) []).length ≤ 2000000 := by
  cases h : setOk W H P xs x y q
  · simp
  · have h' : (vim W H P xs && (onIm W H x y && (decide ((q.length : Int) = P) && allB 0 255 q))) = true := h
    rw [Bool.and_eq_true] at h'
    obtain ⟨W, H, P, rfl, rfl, rfl, _, hW, _, hH, _, hP, _⟩ := vim_nat h'.1
    have := img_bd (setF (pxc W P xs) x.toNat y.toNat q) hW hH hP
    show (setL W H P xs x.toNat y.toNat q).length ≤ 2000000
    unfold setL; omega
set_option maxHeartbeats 16000000 in
theorem walk (w : World) (W H P : Int) (a0 : Option Addr) (cap0 : Nat) (z0 : List Int) (hc0 : z0.length ≤ cap0) (w0 : Rdw .i64 w w.heap.size a0 z0) (a1 : Int) (w1 : (Lit.int .i64 a1).wf = true) (a2 : Int) (w2 : (Lit.int .i64 a2).wf = true) (a3 : Option Addr) (cap3 : Nat) (z3 : List Int) (hc3 : z3.length ≤ cap3) (w3 : Rdw .i64 w w.heap.size a3 z3) :
    Calls Try.prog 13 #[.agg #[.int .i64 W, .int .i64 H, .int .i64 P, .slice a0 z0.length cap0], .int .i64 a1, .int .i64 a2, .slice a3 z3.length cap3] w fun e w' => e = .returned (.bool true) ∧ Below w.heap.size w w' := by
  have hm := w0.2.1
  unfold maxLen at hm
  have HR := Lib.hid w0.1
  have hml := w3.2.1
  unfold maxLen at hml
  have HRL := Lib.hid w3.1
  clear w0 w1 w2 w3
  by_cases hll : 1048576 < z3.length
  · go_enter Try.func13, Try.ntmps13
    go_wp2
    go_ret
    exact ⟨rfl, (Below.refl _ _).alloc (Nat.le_refl _) _⟩
  by_cases hlen : 1048576 < z0.length
  · go_enter Try.func13, Try.ntmps13
    go_wp2_with fail
    refine (szImage_no W H P a0 cap0 z0 _ hlen (by omega)).mono ?_
    rintro e w1 ⟨rfl, hB⟩
    have HB := Lib.hid (((Below.refl w.heap.size w).alloc (Nat.le_refl _) _).trans (hB.mono (by simp <;> omega)))
    clear hB
    go_wp2
    go_ret
    exact ⟨rfl, HB.out⟩
  · obtain ⟨R1, R2, R3, RX, ok, hRX, HI, HS⟩ : ∃ (R1 R2 R3 : Int) (RX : List Int) (ok : Bool), RX.length ≤ 2000000 ∧ Hid (SetX 33 W H P z0 a1 a2 z3 R1 R2 R3 RX ok) ∧ Hid (SetX 34 W H P z0 a1 a2 z3 R1 R2 R3 RX ok) :=
      ⟨_, _, _, _, _, set_len W H P z0 a1 a2 z3, Lib.hid (fun A c A' c' w hx hc hq hc' => i_SetPixel W H P a1 a2 A c z0 A' c' z3 w hx (by omega) hc hq (by omega)), Lib.hid (fun A c A' c' w hx hc hq hc' => s_SetPixel W H P a1 a2 A c z0 A' c' z3 w hx (by omega) hc hq (by omega))⟩
    have S0 : ISt w (w.alloc (.cells #[.int .i64 W, .int .i64 H, .int .i64 P, .slice a0 z0.length cap0] 44)) [] [⟨w.heap.size, 44, imC W H P (.slice a0 z0.length cap0)⟩] := ISt.start w 44 (imC W H P (.slice a0 z0.length cap0)) (by decide)
    go_enter Try.func13, Try.ntmps13
    go_wp2_with fail
    generalize w.alloc (.cells #[.int .i64 W, .int .i64 H, .int .i64 P, .slice a0 z0.length cap0] 44) = u0 at *
    refine (szImage_any W H P a0 cap0 z0 u0 (by omega)).mono ?_
    rintro e u1 ⟨rfl, hB1⟩
    have S1 := S0.call hB1
    clear hB1
    clear S0
    obtain ⟨b0, b1, b2, b3⟩ := S1.im (g := w.heap.size) (T := 44) (X := W) (Y := H) (Z := P) (v := .slice a0 z0.length cap0) (by simp)
    have bl := S1.lt (g := w.heap.size) (T := 44) (cs := imC W H P (.slice a0 z0.length cap0)) (by simp)
    go_wp2_with fail
    refine (toImage_any W H P a0 cap0 z0 _ (S1.1.arg HR.out) (by omega)).mono ?_
    rintro e u2 ⟨v2, rfl, hO2, hB2⟩
    obtain ⟨A2, c2, rfl, hc2⟩ := hO2.slice
    have S2 := S1.add hO2 hB2
    clear b0 b1 b2 b3 bl
    clear hO2 hB2
    clear S1
    go_wp2_with fail
    refine (toIntS_any a3 cap3 z3 _ (S2.1.arg HRL.out) (by omega)).mono ?_
    rintro e u3 ⟨v3, rfl, hO3, hB3⟩
    obtain ⟨A3, c3, rfl, hc3⟩ := hO3.slice
    have S3 := S2.add hO3 hB3
    clear hO3 hB3
    clear S2
    go_wp2_with fail
    refine (HS.out A2 c2 A3 c3 _ (S3.1.rds (lo := u1.heap.size) (hi := u2.heap.size) (n := z0.length) (c := c2) (by simp)) hc2 (S3.1.rds (lo := u2.heap.size) (hi := u3.heap.size) (n := z3.length) (c := c3) (by simp)) hc3).mono ?_
    rintro e u4 ⟨v4, rfl, hO4, hB4⟩
    obtain ⟨A4, c4, rfl, hc4⟩ := hO4.slice
    have S4 := S3.add hO4 hB4
    clear hO4 hB4
    clear S3
    obtain ⟨b0, b1, b2, b3⟩ := S4.im (g := w.heap.size) (T := 44) (X := W) (Y := H) (Z := P) (v := .slice a0 z0.length cap0) (by simp)
    have bl := S4.lt (g := w.heap.size) (T := 44) (cs := imC W H P (.slice a0 z0.length cap0)) (by simp)
    have S5 : ISt w (u4.alloc (.cells #[.int .i64 R1, .int .i64 R2, .int .i64 R3, .slice A4 RX.length c4] 25)) [⟨u3.heap.size, u4.heap.size, .slice A4 RX.length c4, RX⟩, ⟨u2.heap.size, u3.heap.size, .slice A3 z3.length c3, z3⟩, ⟨u1.heap.size, u2.heap.size, .slice A2 z0.length c2, z0⟩] [⟨u4.heap.size, 25, imC R1 R2 R3 (.slice A4 RX.length c4)⟩, ⟨w.heap.size, 44, imC W H P (.slice a0 z0.length cap0)⟩] := ISt.box S4 25 (imC R1 R2 R3 (.slice A4 RX.length c4)) (by decide)
    go_wp2_with fail
    clear b0 b1 b2 b3 bl
    clear S4
    generalize u4.alloc (.cells #[.int .i64 R1, .int .i64 R2, .int .i64 R3, .slice A4 RX.length c4] 25) = u5 at *
    refine (toImage_any W H P a0 cap0 z0 _ (S5.1.arg HR.out) (by omega)).mono ?_
    rintro e u6 ⟨v6, rfl, hO6, hB6⟩
    obtain ⟨A6, c6, rfl, hc6⟩ := hO6.slice
    have S6 := S5.add hO6 hB6
    clear hO6 hB6
    clear S5
    have S7 : ISt w (u6.alloc (.cells #[.int .i64 W, .int .i64 H, .int .i64 P, .slice A6 z0.length c6] 25)) [⟨u5.heap.size, u6.heap.size, .slice A6 z0.length c6, z0⟩, ⟨u3.heap.size, u4.heap.size, .slice A4 RX.length c4, RX⟩, ⟨u2.heap.size, u3.heap.size, .slice A3 z3.length c3, z3⟩, ⟨u1.heap.size, u2.heap.size, .slice A2 z0.length c2, z0⟩] [⟨u6.heap.size, 25, imC W H P (.slice A6 z0.length c6)⟩, ⟨u4.heap.size, 25, imC R1 R2 R3 (.slice A4 RX.length c4)⟩, ⟨w.heap.size, 44, imC W H P (.slice a0 z0.length cap0)⟩] := ISt.box S6 25 (imC W H P (.slice A6 z0.length c6)) (by decide)
    go_wp2_with fail
    clear S6
    generalize u6.alloc (.cells #[.int .i64 W, .int .i64 H, .int .i64 P, .slice A6 z0.length c6] 25) = u7 at *
    refine (toIntS_any a3 cap3 z3 _ (S7.1.arg HRL.out) (by omega)).mono ?_
    rintro e u8 ⟨v8, rfl, hO8, hB8⟩
    obtain ⟨A8, c8, rfl, hc8⟩ := hO8.slice
    have S8 := S7.add hO8 hB8
    clear hO8 hB8
    clear S7
    obtain ⟨x00, x01, x02, x03⟩ := S8.im (g := u6.heap.size) (T := 25) (X := W) (Y := H) (Z := P) (v := .slice A6 z0.length c6) (by simp)
    have x0l := S8.lt (g := u6.heap.size) (T := 25) (cs := imC W H P (.slice A6 z0.length c6)) (by simp)
    go_wp2_with fail
    refine (HI.out A6 c6 A8 c8 _ (S8.1.rds (lo := u5.heap.size) (hi := u6.heap.size) (n := z0.length) (c := c6) (by simp)) hc6 (S8.1.rds (lo := u7.heap.size) (hi := u8.heap.size) (n := z3.length) (c := c8) (by simp)) hc8).mono ?_
    rintro e u9 ⟨v9, rfl, hO9, hB9⟩
    obtain ⟨A9, c9, rfl, hc9⟩ := hO9.slice
    have S9 := S8.add hO9 hB9
    clear x00 x01 x02 x03 x0l
    clear hO9 hB9
    clear S8
    obtain ⟨w00, w01, w02, w03⟩ := S9.im (g := u4.heap.size) (T := 25) (X := R1) (Y := R2) (Z := R3) (v := .slice A4 RX.length c4) (by simp)
    have w0l := S9.lt (g := u4.heap.size) (T := 25) (cs := imC R1 R2 R3 (.slice A4 RX.length c4)) (by simp)
    have S10 : ISt w (u9.alloc (.cells #[.int .i64 R1, .int .i64 R2, .int .i64 R3, .slice A9 RX.length c9] 25)) [⟨u8.heap.size, u9.heap.size, .slice A9 RX.length c9, RX⟩, ⟨u7.heap.size, u8.heap.size, .slice A8 z3.length c8, z3⟩, ⟨u5.heap.size, u6.heap.size, .slice A6 z0.length c6, z0⟩, ⟨u3.heap.size, u4.heap.size, .slice A4 RX.length c4, RX⟩, ⟨u2.heap.size, u3.heap.size, .slice A3 z3.length c3, z3⟩, ⟨u1.heap.size, u2.heap.size, .slice A2 z0.length c2, z0⟩] [⟨u9.heap.size, 25, imC R1 R2 R3 (.slice A9 RX.length c9)⟩, ⟨u6.heap.size, 25, imC W H P (.slice A6 z0.length c6)⟩, ⟨u4.heap.size, 25, imC R1 R2 R3 (.slice A4 RX.length c4)⟩, ⟨w.heap.size, 44, imC W H P (.slice a0 z0.length cap0)⟩] := ISt.box S9 25 (imC R1 R2 R3 (.slice A9 RX.length c9)) (by decide)
    go_wp2_with fail
    clear w00 w01 w02 w03 w0l
    clear S9
    generalize u9.alloc (.cells #[.int .i64 R1, .int .i64 R2, .int .i64 R3, .slice A9 RX.length c9] 25) = u10 at *
    refine (eqImage_same R1 R2 R3 A9 A4 c9 c4 _ _ RX _ rfl rfl (S10.1.rds (lo := u8.heap.size) (hi := u9.heap.size) (n := RX.length) (c := c9) (by simp)) (S10.1.rds (lo := u3.heap.size) (hi := u4.heap.size) (n := RX.length) (c := c4) (by simp)) (by omega)).mono ?_
    rintro e u11 ⟨rfl, hB11⟩
    have S11 := S10.call hB11
    clear hB11
    clear S10
    obtain ⟨x00, x01, x02, x03⟩ := S11.im (g := u6.heap.size) (T := 25) (X := W) (Y := H) (Z := P) (v := .slice A6 z0.length c6) (by simp)
    have x0l := S11.lt (g := u6.heap.size) (T := 25) (cs := imC W H P (.slice A6 z0.length c6)) (by simp)
    obtain ⟨b0, b1, b2, b3⟩ := S11.im (g := w.heap.size) (T := 44) (X := W) (Y := H) (Z := P) (v := .slice a0 z0.length cap0) (by simp)
    have bl := S11.lt (g := w.heap.size) (T := 44) (cs := imC W H P (.slice a0 z0.length cap0)) (by simp)
    have HS12 := Lib.hid S11
    go_wp2
    go_region_held3 (fun w' => (w'.cell? ⟨u6.heap.size, 0, none⟩ = some (.int .i64 W) ∧ w'.cell? ⟨u6.heap.size, 1, none⟩ = some (.int .i64 H) ∧ w'.cell? ⟨u6.heap.size, 2, none⟩ = some (.int .i64 P) ∧ w'.cell? ⟨u6.heap.size, 3, none⟩ = some (.slice A6 z0.length c6)) ∧ w'.cell? ⟨w.heap.size, 0, none⟩ = some (.int .i64 W) ∧ w'.cell? ⟨w.heap.size, 1, none⟩ = some (.int .i64 H) ∧ w'.cell? ⟨w.heap.size, 2, none⟩ = some (.int .i64 P) ∧ w'.cell? ⟨w.heap.size, 3, none⟩ = some (.slice a0 z0.length cap0))
      (first | (with_reducible exact ⟨⟨k0, k1, k2, k3⟩, k4, k5, k6, k7⟩) | (with_reducible exact ⟨⟨d0, d1, d2, d3⟩, d4, d5, d6, d7⟩) | exact ⟨⟨x00, x01, x02, x03⟩, b0, b1, b2, b3⟩ | go_keep)
      (first | (go_at_call 36; refine (toImage_any W H P a0 cap0 z0 _ (by exact HS12.out.drew.1.arg HR.out) (by omega)).mono ?_; rintro e u12 ⟨v12, rfl, hO12, hB12⟩; obtain ⟨A12, c12, rfl, hc12⟩ := hO12.slice; obtain ⟨d0, d1, d2, d3⟩ := im_keep hB12 (by exact x0l) x00 x01 x02 x03; obtain ⟨d4, d5, d6, d7⟩ := im_keep hB12 (by exact bl) b0 b1 b2 b3; have hz12 := hB12.size; have x0m : u6.heap.size < u12.heap.size := Nat.lt_of_lt_of_le (show _ < u11.heap.size from x0l) hz12; have bm : w.heap.size < u12.heap.size := Nat.lt_of_lt_of_le (show _ < u11.heap.size from bl) hz12; have HT12 := Lib.hid (HS12.out.drew.add hO12 hB12); clear hO12 hB12) | (go_at_call 37; refine (eqImage_same W H P A6 A12 c6 c12 _ _ z0 _ rfl rfl (by exact HT12.out.1.rds (lo := u5.heap.size) (hi := u6.heap.size) (n := z0.length) (c := c6) (by simp)) (by exact HT12.out.1.rds (lo := u11.drew.heap.size) (hi := u12.heap.size) (n := z0.length) (c := c12) (by simp)) (by omega)).mono ?_; rintro e u13 ⟨rfl, hB13⟩; obtain ⟨k0, k1, k2, k3⟩ := im_keep hB13 (by exact x0m) d0 d1 d2 d3; obtain ⟨k4, k5, k6, k7⟩ := im_keep hB13 (by exact bm) d4 d5 d6 d7; have HT13 := Lib.hid (HT12.out.call hB13); clear hB13))
    clear d0 d1 d2 d3 d4 d5 d6 d7 k0 k1 k2 k3 k4 k5 k6 k7 x0m bm hz12
    clear x00 x01 x02 x03 x0l b0 b1 b2 b3 bl
    have S13 := HT13.out
    clear HT12 HT13 HS12 S11
    go_wp2_with fail
    refine (toIntS_any a3 cap3 z3 _ (S13.1.arg HRL.out) (by omega)).mono ?_
    rintro e u14 ⟨v14, rfl, hO14, hB14⟩
    obtain ⟨A14, c14, rfl, hc14⟩ := hO14.slice
    have S14 := S13.add hO14 hB14
    clear hO14 hB14
    clear S13
    go_wp2_with fail
    refine (eqIntS_any A8 A14 c8 c14 z3 z3 _ _ _ (S14.1.rds (lo := u7.heap.size) (hi := u8.heap.size) (n := z3.length) (c := c8) (by simp)) (S14.1.rds (lo := u13.heap.size) (hi := u14.heap.size) (n := z3.length) (c := c14) (by simp)) (by omega) (by omega)).mono ?_
    rintro e u15 ⟨rfl, n15, rfl⟩
    have S15 := S14.drewN n15
    clear S14
    generalize hw15 : u14.drewN n15 = u15 at *
    clear hw15
    obtain ⟨x00, x01, x02, x03⟩ := S15.im (g := u6.heap.size) (T := 25) (X := W) (Y := H) (Z := P) (v := .slice A6 z0.length c6) (by simp)
    have x0l := S15.lt (g := u6.heap.size) (T := 25) (cs := imC W H P (.slice A6 z0.length c6)) (by simp)
    go_wp2_with fail
    refine (markImage_any W H P (.slice A6 z0.length c6) u5.heap.size (z0) 1 _ (S15.1.own ⟨u5.heap.size, u6.heap.size, .slice A6 z0.length c6, z0⟩ (by simp)) (by omega) (by omega) (by omega)).mono ?_
    rintro e u16 ⟨rfl, hO16, hG16⟩
    have S16 := ISt.mark (L1 := [⟨u13.heap.size, u14.heap.size, .slice A14 z3.length c14, z3⟩, ⟨u11.drew.heap.size, u12.heap.size, .slice A12 z0.length c12, z0⟩, ⟨u8.heap.size, u9.heap.size, .slice A9 RX.length c9, RX⟩, ⟨u7.heap.size, u8.heap.size, .slice A8 z3.length c8, z3⟩]) (t := ⟨u5.heap.size, u6.heap.size, .slice A6 z0.length c6, z0⟩) (L2 := [⟨u3.heap.size, u4.heap.size, .slice A4 RX.length c4, RX⟩, ⟨u2.heap.size, u3.heap.size, .slice A3 z3.length c3, z3⟩, ⟨u1.heap.size, u2.heap.size, .slice A2 z0.length c2, z0⟩]) S15 hO16 hG16
    clear x00 x01 x02 x03 x0l
    clear hO16 hG16
    clear S15
    go_wp2_with fail
    refine (markIntS_any (.slice A8 z3.length c8) u7.heap.size z3 (1 + (z0.length : Int)) _ (S16.1.own ⟨u7.heap.size, u8.heap.size, .slice A8 z3.length c8, z3⟩ (by simp)) (by omega) (by omega) (by omega)).mono ?_
    rintro e u17 ⟨rfl, hO17, hG17, hZ17⟩
    have S17 := ISt.mark (L1 := [⟨u13.heap.size, u14.heap.size, .slice A14 z3.length c14, z3⟩, ⟨u11.drew.heap.size, u12.heap.size, .slice A12 z0.length c12, z0⟩, ⟨u8.heap.size, u9.heap.size, .slice A9 RX.length c9, RX⟩]) (t := ⟨u7.heap.size, u8.heap.size, .slice A8 z3.length c8, z3⟩) (L2 := [⟨u5.heap.size, u6.heap.size, .slice A6 z0.length c6, marks 1 z0.length⟩, ⟨u3.heap.size, u4.heap.size, .slice A4 RX.length c4, RX⟩, ⟨u2.heap.size, u3.heap.size, .slice A3 z3.length c3, z3⟩, ⟨u1.heap.size, u2.heap.size, .slice A2 z0.length c2, z0⟩]) S16 hO17 hG17
    clear hO17 hG17 hZ17
    clear S16
    obtain ⟨g00, g01, g02, g03⟩ := S17.im (g := u9.heap.size) (T := 25) (X := R1) (Y := R2) (Z := R3) (v := .slice A9 RX.length c9) (by simp)
    have g0l := S17.lt (g := u9.heap.size) (T := 25) (cs := imC R1 R2 R3 (.slice A9 RX.length c9)) (by simp)
    obtain ⟨w00, w01, w02, w03⟩ := S17.im (g := u4.heap.size) (T := 25) (X := R1) (Y := R2) (Z := R3) (v := .slice A4 RX.length c4) (by simp)
    have w0l := S17.lt (g := u4.heap.size) (T := 25) (cs := imC R1 R2 R3 (.slice A4 RX.length c4)) (by simp)
    go_wp2_with fail
    refine (eqImage_same R1 R2 R3 A9 A4 c9 c4 _ _ RX _ rfl rfl (S17.1.rds (lo := u8.heap.size) (hi := u9.heap.size) (n := RX.length) (c := c9) (by simp)) (S17.1.rds (lo := u3.heap.size) (hi := u4.heap.size) (n := RX.length) (c := c4) (by simp)) (by omega)).mono ?_
    rintro e u18 ⟨rfl, hB18⟩
    have S18 := S17.call hB18
    clear g00 g01 g02 g03 g0l w00 w01 w02 w03 w0l
    clear hB18
    clear S17
    obtain ⟨g00, g01, g02, g03⟩ := S18.im (g := u9.heap.size) (T := 25) (X := R1) (Y := R2) (Z := R3) (v := .slice A9 RX.length c9) (by simp)
    have g0l := S18.lt (g := u9.heap.size) (T := 25) (cs := imC R1 R2 R3 (.slice A9 RX.length c9)) (by simp)
    go_wp2_with fail
    refine (markImage_any R1 R2 R3 (.slice A9 RX.length c9) u8.heap.size (RX) 1 _ (S18.1.own ⟨u8.heap.size, u9.heap.size, .slice A9 RX.length c9, RX⟩ (by simp)) (by omega) (by omega) (by omega)).mono ?_
    rintro e u19 ⟨rfl, hO19, hG19⟩
    have S19 := ISt.mark (L1 := [⟨u13.heap.size, u14.heap.size, .slice A14 z3.length c14, z3⟩, ⟨u11.drew.heap.size, u12.heap.size, .slice A12 z0.length c12, z0⟩]) (t := ⟨u8.heap.size, u9.heap.size, .slice A9 RX.length c9, RX⟩) (L2 := [⟨u7.heap.size, u8.heap.size, .slice A8 z3.length c8, marks (1 + (z0.length : Int)) z3.length⟩, ⟨u5.heap.size, u6.heap.size, .slice A6 z0.length c6, marks 1 z0.length⟩, ⟨u3.heap.size, u4.heap.size, .slice A4 RX.length c4, RX⟩, ⟨u2.heap.size, u3.heap.size, .slice A3 z3.length c3, z3⟩, ⟨u1.heap.size, u2.heap.size, .slice A2 z0.length c2, z0⟩]) S18 hO19 hG19
    clear g00 g01 g02 g03 g0l
    clear hO19 hG19
    clear S18
    obtain ⟨g00, g01, g02, g03⟩ := S19.im (g := u9.heap.size) (T := 25) (X := R1) (Y := R2) (Z := R3) (v := .slice A9 RX.length c9) (by simp)
    have g0l := S19.lt (g := u9.heap.size) (T := 25) (cs := imC R1 R2 R3 (.slice A9 RX.length c9)) (by simp)
    go_wp2_with fail
    refine (heldImage_any R1 R2 R3 A9 c9 RX.length 1 _ (S19.1.rds (lo := u8.heap.size) (hi := u9.heap.size) (n := RX.length) (c := c9) (by simp)) (by omega) (by omega) (by omega)).mono ?_
    rintro e u20 ⟨rfl, hB20⟩
    have S20 := S19.call hB20
    clear g00 g01 g02 g03 g0l
    clear hB20
    clear S19
    obtain ⟨b0, b1, b2, b3⟩ := S20.im (g := w.heap.size) (T := 44) (X := W) (Y := H) (Z := P) (v := .slice a0 z0.length cap0) (by simp)
    have bl := S20.lt (g := w.heap.size) (T := 44) (cs := imC W H P (.slice a0 z0.length cap0)) (by simp)
    go_wp2_with fail
    refine (toImage_any W H P a0 cap0 z0 _ (S20.1.arg HR.out) (by omega)).mono ?_
    rintro e u21 ⟨v21, rfl, hO21, hB21⟩
    obtain ⟨A21, c21, rfl, hc21⟩ := hO21.slice
    have S21 := S20.add hO21 hB21
    clear b0 b1 b2 b3 bl
    clear hO21 hB21
    clear S20
    go_wp2_with fail
    refine (toIntS_any a3 cap3 z3 _ (S21.1.arg HRL.out) (by omega)).mono ?_
    rintro e u22 ⟨v22, rfl, hO22, hB22⟩
    obtain ⟨A22, c22, rfl, hc22⟩ := hO22.slice
    have S22 := S21.add hO22 hB22
    clear hO22 hB22
    clear S21
    go_wp2_with fail
    refine (HI.out A21 c21 A22 c22 _ (S22.1.rds (lo := u20.heap.size) (hi := u21.heap.size) (n := z0.length) (c := c21) (by simp)) hc21 (S22.1.rds (lo := u21.heap.size) (hi := u22.heap.size) (n := z3.length) (c := c22) (by simp)) hc22).mono ?_
    rintro e u23 ⟨v23, rfl, hO23, hB23⟩
    obtain ⟨A23, c23, rfl, hc23⟩ := hO23.slice
    have S23 := S22.add hO23 hB23
    clear hO23 hB23
    clear S22
    obtain ⟨w00, w01, w02, w03⟩ := S23.im (g := u4.heap.size) (T := 25) (X := R1) (Y := R2) (Z := R3) (v := .slice A4 RX.length c4) (by simp)
    have w0l := S23.lt (g := u4.heap.size) (T := 25) (cs := imC R1 R2 R3 (.slice A4 RX.length c4)) (by simp)
    have S24 : ISt w (u23.alloc (.cells #[.int .i64 R1, .int .i64 R2, .int .i64 R3, .slice A23 RX.length c23] 25)) [⟨u22.heap.size, u23.heap.size, .slice A23 RX.length c23, RX⟩, ⟨u21.heap.size, u22.heap.size, .slice A22 z3.length c22, z3⟩, ⟨u20.heap.size, u21.heap.size, .slice A21 z0.length c21, z0⟩, ⟨u13.heap.size, u14.heap.size, .slice A14 z3.length c14, z3⟩, ⟨u11.drew.heap.size, u12.heap.size, .slice A12 z0.length c12, z0⟩, ⟨u8.heap.size, u9.heap.size, .slice A9 RX.length c9, marks 1 RX.length⟩, ⟨u7.heap.size, u8.heap.size, .slice A8 z3.length c8, marks (1 + (z0.length : Int)) z3.length⟩, ⟨u5.heap.size, u6.heap.size, .slice A6 z0.length c6, marks 1 z0.length⟩, ⟨u3.heap.size, u4.heap.size, .slice A4 RX.length c4, RX⟩, ⟨u2.heap.size, u3.heap.size, .slice A3 z3.length c3, z3⟩, ⟨u1.heap.size, u2.heap.size, .slice A2 z0.length c2, z0⟩] [⟨u23.heap.size, 25, imC R1 R2 R3 (.slice A23 RX.length c23)⟩, ⟨u9.heap.size, 25, imC R1 R2 R3 (.slice A9 RX.length c9)⟩, ⟨u6.heap.size, 25, imC W H P (.slice A6 z0.length c6)⟩, ⟨u4.heap.size, 25, imC R1 R2 R3 (.slice A4 RX.length c4)⟩, ⟨w.heap.size, 44, imC W H P (.slice a0 z0.length cap0)⟩] := ISt.box S23 25 (imC R1 R2 R3 (.slice A23 RX.length c23)) (by decide)
    go_wp2_with fail
    clear w00 w01 w02 w03 w0l
    clear S23
    generalize u23.alloc (.cells #[.int .i64 R1, .int .i64 R2, .int .i64 R3, .slice A23 RX.length c23] 25) = u24 at *
    refine (eqImage_same R1 R2 R3 A23 A4 c23 c4 _ _ RX _ rfl rfl (S24.1.rds (lo := u22.heap.size) (hi := u23.heap.size) (n := RX.length) (c := c23) (by simp)) (S24.1.rds (lo := u3.heap.size) (hi := u4.heap.size) (n := RX.length) (c := c4) (by simp)) (by omega)).mono ?_
    rintro e u25 ⟨rfl, hB25⟩
    have S25 := S24.call hB25
    clear hB25
    clear S24
    obtain ⟨g00, g01, g02, g03⟩ := S25.im (g := u9.heap.size) (T := 25) (X := R1) (Y := R2) (Z := R3) (v := .slice A9 RX.length c9) (by simp)
    have g0l := S25.lt (g := u9.heap.size) (T := 25) (cs := imC R1 R2 R3 (.slice A9 RX.length c9)) (by simp)
    go_wp2_with fail
    refine (heldImage_any R1 R2 R3 A9 c9 RX.length 1 _ (S25.1.rds (lo := u8.heap.size) (hi := u9.heap.size) (n := RX.length) (c := c9) (by simp)) (by omega) (by omega) (by omega)).mono ?_
    rintro e u26 ⟨rfl, hB26⟩
    have S26 := S25.call hB26
    clear g00 g01 g02 g03 g0l
    clear hB26
    clear S25
    go_wp2
    go_ret
    exact ⟨rfl, S26.1.below⟩

/-! ### From the walk to the statement. -/
theorem own : ownKnob Try.prog.godebug = none := by kernel_rfl
theorem laidOut : laidOutB Try.prog = true := by kernel_rfl
set_option maxRecDepth 100000 in
theorem lifted (os : Os) (started : os.Started) (H : Type) (enc : TypeId × Value → H) :
    ReturnsInHanded {} Try.checked os 13 .any (Rows.fnExactSetPixelSpec.pre6 enc Try.prog Try.f13 Rows.fnExactSetPixelRow.domain false) (Rows.fnExactSetPixelSpec.post enc Try.prog Try.f13 false true false false) := by
  refine returnsInHanded_of_change (C := Try.checked) own started (by kernel_rfl) Try.func13
    (ChangeSpec.witness6 (enc := enc) (C := Try.checked) false ⟨#[], #[.agg #[.int .i64 0, .int .i64 0, .int .i64 0, .slice none 0 0], .int .i64 0, .int .i64 0, .slice none 0 0], []⟩ 8 (by kernel_rfl) (by kernel_rfl) (by kernel_rfl) (by kernel_rfl)) ?_
  intro W base args ds gs before hval0 hW hcnd _
  have hval : ∀ (j : Nat) t v, Try.f13.params[j]? = some t → args[j]? = some v → Value.okWide Try.prog W .any base t v := hval0
  have hW' := hW
  obtain ⟨p, q, hA0, hV, rfl, hfz, hnd⟩ := hW
  have hA : DataW.TrodAll enc Try.prog W 0 (fun _ => true) true Try.f13.params.toList args.toList ds p := hA0
  rw [Try.params13] at hA hval
  obtain ⟨v0, vs0, d0, ds0, p0, q0, hargs, rfl, rfl, h0, r0⟩ := trodAll_cons hA
  obtain ⟨v1, vs1, d1, ds1, p1, q1, rfl, rfl, rfl, h1, r1⟩ := trodAll_cons r0
  obtain ⟨v2, vs2, d2, ds2, p2, q2, rfl, rfl, rfl, h2, r2⟩ := trodAll_cons r1
  obtain ⟨v3, vs3, d3, ds3, p3, q3, rfl, rfl, rfl, h3, r3⟩ := trodAll_cons r2
  obtain ⟨rfl, rfl, rfl⟩ := trodAll_nil r3
  obtain rfl : args = #[v0, v1, v2, v3] := by cases args; simp_all
  obtain ⟨rfl, rfl⟩ := trodVars_none hV
  have k0 := h0
  have lt0 : ∀ x ∈ p0, x.block < W.heap.size := by obtain ⟨m, hm⟩ := k0; exact DataW.trod_lt m _ _ _ hm
  obtain ⟨x0a, x0b, x0c, x0d, y0a, y0b, y0c, y0d, m0, rfl, rfl, rfl, g0a, g0b, g0c, g0d⟩ := Joins.open_agg4 Try.underlying44 (by kernel_rfl) (by kernel_rfl) (hval 0 44 v0 rfl rfl) h0
  obtain ⟨n0a, e0a, rfl, f0a⟩ := DataW.trod_int Try.underlying3 g0a
  simp at e0a
  subst e0a
  obtain ⟨n0b, e0b, rfl, f0b⟩ := DataW.trod_int Try.underlying3 g0b
  simp at e0b
  subst e0b
  obtain ⟨n0c, e0c, rfl, f0c⟩ := DataW.trod_int Try.underlying3 g0c
  simp at e0c
  subst e0c
  obtain ⟨a0, cap0, z0, hv0, hc0, w0⟩ : ∃ (A : Option Addr) (c : Nat) (zs : List Int), x0d = .slice A zs.length c ∧ zs.length ≤ c ∧ Rdw .i64 W W.heap.size A zs := by
    rcases open_ints Try.underlying23 Try.underlying3 (by kernel_rfl) g0d with ⟨hcs, _⟩ | ⟨x, l, c, zs, hcs, _, hl, hm, hz, _, hcell, hwz⟩
    · simp at hcs
      exact ⟨none, 0, [], hcs, Nat.le_refl _, Rdw.nil⟩
    · simp at hcs
      have hzl : (zs.take l).length = l := by simp at hz ⊢; omega
      exact ⟨some x, c, zs.take l, by rw [hzl]; exact hcs, by rw [hzl]; exact hl, Rdw.of_row hl hm (by simpa using hz) hcell hwz⟩
  subst hv0
  obtain ⟨a1, rfl, rfl, rfl, w1⟩ := open_int Try.underlying3 (hval 1 3 v1 rfl rfl) h1
  obtain ⟨a2, rfl, rfl, rfl, w2⟩ := open_int Try.underlying3 (hval 2 3 v2 rfl rfl) h2
  obtain ⟨a3, len3, cap3, rfl⟩ := okWide_slice Try.underlying23 (hval 3 23 v3 rfl rfl)
  have k3 := h3
  have lt3 : ∀ x ∈ p3, x.block < W.heap.size := by obtain ⟨m, hm⟩ := k3; exact DataW.trod_lt m _ _ _ hm
  obtain ⟨z3, hl3, hc3, w3⟩ : ∃ zs : List Int, len3 = zs.length ∧ zs.length ≤ cap3 ∧ Rdw .i64 W W.heap.size a3 zs := by
    obtain ⟨fuel, hf⟩ := h3
    rcases open_ints Try.underlying23 Try.underlying3 (by kernel_rfl) hf with ⟨hcs, _⟩ | ⟨x, l, c, zs, hcs, _, hl, hm, hz, _, hcell, hwz⟩
    · simp [Value.cells] at hcs
      obtain ⟨rfl, rfl, rfl⟩ := hcs
      exact ⟨[], rfl, Nat.le_refl _, Rdw.nil⟩
    · simp [Value.cells] at hcs
      obtain ⟨rfl, rfl, rfl⟩ := hcs
      exact ⟨zs.take len3, by simp at hz ⊢; omega, by simp at hz ⊢; omega, Rdw.of_row hl hm (by simpa using hz) hcell hwz⟩
  subst hl3
  clear hA0 hval0
  refine (walk W n0a n0b n0c a0 cap0 z0 hc0 w0 a1 w1 a2 w2 a3 cap3 z3 hc3 w3).mono fun e W' ⟨he, bel⟩ => ?_
  subst he
  exact ⟨_, rfl, _, _, _, [], _, [], hW', trodAll_mk1 (shut_bool Try.underlying4 _), (trodAll_cons_mk (Below.trod laidOut (by kernel_rfl) (of_decide_eq_true (by kernel_rfl)) k0 bel lt0) (trodAll_cons_mk (shut_int Try.underlying3 w1) (trodAll_cons_mk (shut_int Try.underlying3 w2) (trodAll_cons_mk (Below.trod laidOut (by kernel_rfl) (of_decide_eq_true (by kernel_rfl)) k3 bel lt3) trodAll_mk0)))), rfl, bel.frame _, fun h => by cases h⟩

theorem over : Rows.fnExactSetPixelRow.holds Try.pinned (OpenSpec.ofChange Rows.fnExactSetPixelSpec) :=
  OpenClaim.holds_of_wide 13 Try.f13 rfl rfl rfl rfl rfl rfl rfl ⟨rfl, rfl, rfl, rfl, rfl⟩ rfl rfl rfl rfl rfl (by kernel_rfl) Try.func13 (by kernel_rfl)
    (of_decide_eq_true (by kernel_rfl)) (by unfold Func.isWrapper; first | (rw [if_pos (by decide +kernel)]; kernel_rfl) | (rw [if_neg (by decide +kernel)]; exact ⟨rfl, rfl⟩))
    (fun os started H enc _ => lifted os started H enc)

theorem proved : Rows.FnExactSetPixelSaid := over
end Go.Proofs.Ytpgicdnbdjdceaa.fnExactSetPixel
