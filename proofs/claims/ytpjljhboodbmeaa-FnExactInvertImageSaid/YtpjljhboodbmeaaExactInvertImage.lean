/- InvertImage of the program answers what the model answers, for every image; it writes into no argument, and its answer owns its memory. -/
import Derived.Test.YtpjljhboodbmeaaRows
import Derived.WalkKit
import Derived.ProofKit
import Derived.OpenShut
import Derived.ShutString
import Derived.ChangeOld
import Derived.Below
import Derived.Lib.SmallJoins
import Derived.Test.YtpjljhboodbmeaaImgS
import Derived.Test.YtpjljhboodbmeaaInvS
import Derived.Test.YtpjljhboodbmeaaMapI
namespace Go.Proofs.Ytpjljhboodbmeaa.fnExactInvertImage
open Go.ChangeShapes Go.WideShapes Go.ChangeAt Go.RowKit
open Go.ChangeMaps (open_string shut_string)
set_option linter.unusedVariables false

set_option maxHeartbeats 16000000 in
theorem walk (w : World) (W H P : Int) (a0 : Option Addr) (cap0 : Nat) (z0 : List Int) (hc0 : z0.length ≤ cap0) (w0 : Rdw .i64 w w.heap.size a0 z0) :
    Calls Try.prog 4 #[.agg #[.int .i64 W, .int .i64 H, .int .i64 P, .slice a0 z0.length cap0]] w fun e w' => e = .returned (.bool true) ∧ Below w.heap.size w w' := by
  have hm := w0.2.1
  unfold maxLen at hm
  have HR := Lib.hid w0.1
  clear w0
  by_cases hlen : 1048576 < z0.length
  · go_enter Try.func4, Try.ntmps4
    go_wp2_with fail
    refine (szImage_no W H P a0 cap0 z0 _ hlen (by omega)).mono ?_
    rintro e w1 ⟨rfl, hB⟩
    have HB := Lib.hid (((Below.refl w.heap.size w).alloc (Nat.le_refl _) _).trans (hB.mono (by simp <;> omega)))
    clear hB
    go_wp2
    go_ret
    exact ⟨rfl, HB.out⟩
  · obtain ⟨R1, R2, R3, RX, hRX, HI, HS⟩ : ∃ (R1 R2 R3 : Int) (RX : List Int), RX.length ≤ 2000000 ∧ Hid (ImFn 26 W H P z0 R1 R2 R3 RX) ∧ Hid (ImFn 25 W H P z0 R1 R2 R3 RX) :=
      ⟨_, _, _, _, by cases vim W H P z0 <;> simp [inv_len] <;> omega, Lib.hid (fun A c w hx _ => i_Invert W H P A c z0 w hx (by omega)), Lib.hid (fun A c w hx _ => s_Invert W H P A c z0 w hx (by omega))⟩
    have S0 : ISt w (w.alloc (.cells #[.int .i64 W, .int .i64 H, .int .i64 P, .slice a0 z0.length cap0] 24)) [] [⟨w.heap.size, 24, imC W H P (.slice a0 z0.length cap0)⟩] := ISt.start w 24 (imC W H P (.slice a0 z0.length cap0)) (by decide)
    go_enter Try.func4, Try.ntmps4
    go_wp2_with fail
    generalize w.alloc (.cells #[.int .i64 W, .int .i64 H, .int .i64 P, .slice a0 z0.length cap0] 24) = u0 at *
    refine (szImage_any W H P a0 cap0 z0 u0 (by omega)).mono ?_
    rintro e u1 ⟨rfl, hB1⟩
    have S1 := S0.call hB1
    clear hB1
    clear S0
    obtain ⟨b0, b1, b2, b3⟩ := S1.im (g := w.heap.size) (T := 24) (X := W) (Y := H) (Z := P) (v := .slice a0 z0.length cap0) (by simp)
    have bl := S1.lt (g := w.heap.size) (T := 24) (cs := imC W H P (.slice a0 z0.length cap0)) (by simp)
    go_wp2_with fail
    refine (toImage_any W H P a0 cap0 z0 _ (S1.1.arg HR.out) (by omega)).mono ?_
    rintro e u2 ⟨v2, rfl, hO2, hB2⟩
    obtain ⟨A2, c2, rfl, hc2⟩ := hO2.slice
    have S2 := S1.add hO2 hB2
    clear b0 b1 b2 b3 bl
    clear hO2 hB2
    clear S1
    go_wp2_with fail
    refine (HS.out A2 c2 _ (S2.1.rds (lo := u1.heap.size) (hi := u2.heap.size) (n := z0.length) (c := c2) (by simp)) hc2).mono ?_
    rintro e u3 ⟨v3, rfl, hO3, hB3⟩
    obtain ⟨A3, c3, rfl, hc3⟩ := hO3.slice
    have S3 := S2.add hO3 hB3
    clear hO3 hB3
    clear S2
    obtain ⟨b0, b1, b2, b3⟩ := S3.im (g := w.heap.size) (T := 24) (X := W) (Y := H) (Z := P) (v := .slice a0 z0.length cap0) (by simp)
    have bl := S3.lt (g := w.heap.size) (T := 24) (cs := imC W H P (.slice a0 z0.length cap0)) (by simp)
    have S4 : ISt w (u3.alloc (.cells #[.int .i64 R1, .int .i64 R2, .int .i64 R3, .slice A3 RX.length c3] 26)) [⟨u2.heap.size, u3.heap.size, .slice A3 RX.length c3, RX⟩, ⟨u1.heap.size, u2.heap.size, .slice A2 z0.length c2, z0⟩] [⟨u3.heap.size, 26, imC R1 R2 R3 (.slice A3 RX.length c3)⟩, ⟨w.heap.size, 24, imC W H P (.slice a0 z0.length cap0)⟩] := ISt.box S3 26 (imC R1 R2 R3 (.slice A3 RX.length c3)) (by decide)
    go_wp2_with fail
    clear b0 b1 b2 b3 bl
    clear S3
    generalize u3.alloc (.cells #[.int .i64 R1, .int .i64 R2, .int .i64 R3, .slice A3 RX.length c3] 26) = u4 at *
    refine (toImage_any W H P a0 cap0 z0 _ (S4.1.arg HR.out) (by omega)).mono ?_
    rintro e u5 ⟨v5, rfl, hO5, hB5⟩
    obtain ⟨A5, c5, rfl, hc5⟩ := hO5.slice
    have S5 := S4.add hO5 hB5
    clear hO5 hB5
    clear S4
    have S6 : ISt w (u5.alloc (.cells #[.int .i64 W, .int .i64 H, .int .i64 P, .slice A5 z0.length c5] 26)) [⟨u4.heap.size, u5.heap.size, .slice A5 z0.length c5, z0⟩, ⟨u2.heap.size, u3.heap.size, .slice A3 RX.length c3, RX⟩, ⟨u1.heap.size, u2.heap.size, .slice A2 z0.length c2, z0⟩] [⟨u5.heap.size, 26, imC W H P (.slice A5 z0.length c5)⟩, ⟨u3.heap.size, 26, imC R1 R2 R3 (.slice A3 RX.length c3)⟩, ⟨w.heap.size, 24, imC W H P (.slice a0 z0.length cap0)⟩] := ISt.box S5 26 (imC W H P (.slice A5 z0.length c5)) (by decide)
    go_wp2_with fail
    clear S5
    generalize u5.alloc (.cells #[.int .i64 W, .int .i64 H, .int .i64 P, .slice A5 z0.length c5] 26) = u6 at *
    refine (HI.out A5 c5 _ (S6.1.rds (lo := u4.heap.size) (hi := u5.heap.size) (n := z0.length) (c := c5) (by simp)) hc5).mono ?_
    rintro e u7 ⟨v7, rfl, hO7, hB7⟩
    obtain ⟨A7, c7, rfl, hc7⟩ := hO7.slice
    have S7 := S6.add hO7 hB7
    clear hO7 hB7
    clear S6
    obtain ⟨w00, w01, w02, w03⟩ := S7.im (g := u3.heap.size) (T := 26) (X := R1) (Y := R2) (Z := R3) (v := .slice A3 RX.length c3) (by simp)
    have w0l := S7.lt (g := u3.heap.size) (T := 26) (cs := imC R1 R2 R3 (.slice A3 RX.length c3)) (by simp)
    have S8 : ISt w (u7.alloc (.cells #[.int .i64 R1, .int .i64 R2, .int .i64 R3, .slice A7 RX.length c7] 26)) [⟨u6.heap.size, u7.heap.size, .slice A7 RX.length c7, RX⟩, ⟨u4.heap.size, u5.heap.size, .slice A5 z0.length c5, z0⟩, ⟨u2.heap.size, u3.heap.size, .slice A3 RX.length c3, RX⟩, ⟨u1.heap.size, u2.heap.size, .slice A2 z0.length c2, z0⟩] [⟨u7.heap.size, 26, imC R1 R2 R3 (.slice A7 RX.length c7)⟩, ⟨u5.heap.size, 26, imC W H P (.slice A5 z0.length c5)⟩, ⟨u3.heap.size, 26, imC R1 R2 R3 (.slice A3 RX.length c3)⟩, ⟨w.heap.size, 24, imC W H P (.slice a0 z0.length cap0)⟩] := ISt.box S7 26 (imC R1 R2 R3 (.slice A7 RX.length c7)) (by decide)
    go_wp2_with fail
    clear w00 w01 w02 w03 w0l
    clear S7
    generalize u7.alloc (.cells #[.int .i64 R1, .int .i64 R2, .int .i64 R3, .slice A7 RX.length c7] 26) = u8 at *
    refine (eqImage_same R1 R2 R3 A7 A3 c7 c3 _ _ RX _ rfl rfl (S8.1.rds (lo := u6.heap.size) (hi := u7.heap.size) (n := RX.length) (c := c7) (by simp)) (S8.1.rds (lo := u2.heap.size) (hi := u3.heap.size) (n := RX.length) (c := c3) (by simp)) (by omega)).mono ?_
    rintro e u9 ⟨rfl, hB9⟩
    have S9 := S8.call hB9
    clear hB9
    clear S8
    obtain ⟨x00, x01, x02, x03⟩ := S9.im (g := u5.heap.size) (T := 26) (X := W) (Y := H) (Z := P) (v := .slice A5 z0.length c5) (by simp)
    have x0l := S9.lt (g := u5.heap.size) (T := 26) (cs := imC W H P (.slice A5 z0.length c5)) (by simp)
    obtain ⟨b0, b1, b2, b3⟩ := S9.im (g := w.heap.size) (T := 24) (X := W) (Y := H) (Z := P) (v := .slice a0 z0.length cap0) (by simp)
    have bl := S9.lt (g := w.heap.size) (T := 24) (cs := imC W H P (.slice a0 z0.length cap0)) (by simp)
    have HS10 := Lib.hid S9
    go_wp2
    go_region_held3 (fun w' => (w'.cell? ⟨u5.heap.size, 0, none⟩ = some (.int .i64 W) ∧ w'.cell? ⟨u5.heap.size, 1, none⟩ = some (.int .i64 H) ∧ w'.cell? ⟨u5.heap.size, 2, none⟩ = some (.int .i64 P) ∧ w'.cell? ⟨u5.heap.size, 3, none⟩ = some (.slice A5 z0.length c5)) ∧ w'.cell? ⟨w.heap.size, 0, none⟩ = some (.int .i64 W) ∧ w'.cell? ⟨w.heap.size, 1, none⟩ = some (.int .i64 H) ∧ w'.cell? ⟨w.heap.size, 2, none⟩ = some (.int .i64 P) ∧ w'.cell? ⟨w.heap.size, 3, none⟩ = some (.slice a0 z0.length cap0))
      (first | (with_reducible exact ⟨⟨k0, k1, k2, k3⟩, k4, k5, k6, k7⟩) | (with_reducible exact ⟨⟨d0, d1, d2, d3⟩, d4, d5, d6, d7⟩) | exact ⟨⟨x00, x01, x02, x03⟩, b0, b1, b2, b3⟩ | go_keep)
      (first | (go_at_call 17; refine (toImage_any W H P a0 cap0 z0 _ (by exact HS10.out.drew.1.arg HR.out) (by omega)).mono ?_; rintro e u10 ⟨v10, rfl, hO10, hB10⟩; obtain ⟨A10, c10, rfl, hc10⟩ := hO10.slice; obtain ⟨d0, d1, d2, d3⟩ := im_keep hB10 (by exact x0l) x00 x01 x02 x03; obtain ⟨d4, d5, d6, d7⟩ := im_keep hB10 (by exact bl) b0 b1 b2 b3; have hz10 := hB10.size; have x0m : u5.heap.size < u10.heap.size := Nat.lt_of_lt_of_le (show _ < u9.heap.size from x0l) hz10; have bm : w.heap.size < u10.heap.size := Nat.lt_of_lt_of_le (show _ < u9.heap.size from bl) hz10; have HT10 := Lib.hid (HS10.out.drew.add hO10 hB10); clear hO10 hB10) | (go_at_call 20; refine (eqImage_same W H P A5 A10 c5 c10 _ _ z0 _ rfl rfl (by exact HT10.out.1.rds (lo := u4.heap.size) (hi := u5.heap.size) (n := z0.length) (c := c5) (by simp)) (by exact HT10.out.1.rds (lo := u9.drew.heap.size) (hi := u10.heap.size) (n := z0.length) (c := c10) (by simp)) (by omega)).mono ?_; rintro e u11 ⟨rfl, hB11⟩; obtain ⟨k0, k1, k2, k3⟩ := im_keep hB11 (by exact x0m) d0 d1 d2 d3; obtain ⟨k4, k5, k6, k7⟩ := im_keep hB11 (by exact bm) d4 d5 d6 d7; have HT11 := Lib.hid (HT10.out.call hB11); clear hB11))
    clear d0 d1 d2 d3 d4 d5 d6 d7 k0 k1 k2 k3 k4 k5 k6 k7 x0m bm hz10
    clear x00 x01 x02 x03 x0l b0 b1 b2 b3 bl
    have S11 := HT11.out
    clear HT10 HT11 HS10 S9
    obtain ⟨x00, x01, x02, x03⟩ := S11.im (g := u5.heap.size) (T := 26) (X := W) (Y := H) (Z := P) (v := .slice A5 z0.length c5) (by simp)
    have x0l := S11.lt (g := u5.heap.size) (T := 26) (cs := imC W H P (.slice A5 z0.length c5)) (by simp)
    go_wp2_with fail
    refine (markImage_any W H P (.slice A5 z0.length c5) u4.heap.size (z0) 1 _ (S11.1.own ⟨u4.heap.size, u5.heap.size, .slice A5 z0.length c5, z0⟩ (by simp)) (by omega) (by omega) (by omega)).mono ?_
    rintro e u12 ⟨rfl, hO12, hG12⟩
    have S12 := ISt.mark (L1 := [⟨u9.drew.heap.size, u10.heap.size, .slice A10 z0.length c10, z0⟩, ⟨u6.heap.size, u7.heap.size, .slice A7 RX.length c7, RX⟩]) (t := ⟨u4.heap.size, u5.heap.size, .slice A5 z0.length c5, z0⟩) (L2 := [⟨u2.heap.size, u3.heap.size, .slice A3 RX.length c3, RX⟩, ⟨u1.heap.size, u2.heap.size, .slice A2 z0.length c2, z0⟩]) S11 hO12 hG12
    clear x00 x01 x02 x03 x0l
    clear hO12 hG12
    clear S11
    obtain ⟨g00, g01, g02, g03⟩ := S12.im (g := u7.heap.size) (T := 26) (X := R1) (Y := R2) (Z := R3) (v := .slice A7 RX.length c7) (by simp)
    have g0l := S12.lt (g := u7.heap.size) (T := 26) (cs := imC R1 R2 R3 (.slice A7 RX.length c7)) (by simp)
    obtain ⟨w00, w01, w02, w03⟩ := S12.im (g := u3.heap.size) (T := 26) (X := R1) (Y := R2) (Z := R3) (v := .slice A3 RX.length c3) (by simp)
    have w0l := S12.lt (g := u3.heap.size) (T := 26) (cs := imC R1 R2 R3 (.slice A3 RX.length c3)) (by simp)
    go_wp2_with fail
    refine (eqImage_same R1 R2 R3 A7 A3 c7 c3 _ _ RX _ rfl rfl (S12.1.rds (lo := u6.heap.size) (hi := u7.heap.size) (n := RX.length) (c := c7) (by simp)) (S12.1.rds (lo := u2.heap.size) (hi := u3.heap.size) (n := RX.length) (c := c3) (by simp)) (by omega)).mono ?_
    rintro e u13 ⟨rfl, hB13⟩
    have S13 := S12.call hB13
    clear hB13
    clear S12
    clear g00 g01 g02 g03 g0l w00 w01 w02 w03 w0l
    obtain ⟨g00, g01, g02, g03⟩ := S13.im (g := u7.heap.size) (T := 26) (X := R1) (Y := R2) (Z := R3) (v := .slice A7 RX.length c7) (by simp)
    have g0l := S13.lt (g := u7.heap.size) (T := 26) (cs := imC R1 R2 R3 (.slice A7 RX.length c7)) (by simp)
    go_wp2_with fail
    refine (markImage_any R1 R2 R3 (.slice A7 RX.length c7) u6.heap.size (RX) 1 _ (S13.1.own ⟨u6.heap.size, u7.heap.size, .slice A7 RX.length c7, RX⟩ (by simp)) (by omega) (by omega) (by omega)).mono ?_
    rintro e u14 ⟨rfl, hO14, hG14⟩
    have S14 := ISt.mark (L1 := [⟨u9.drew.heap.size, u10.heap.size, .slice A10 z0.length c10, z0⟩]) (t := ⟨u6.heap.size, u7.heap.size, .slice A7 RX.length c7, RX⟩) (L2 := [⟨u4.heap.size, u5.heap.size, .slice A5 z0.length c5, marks 1 z0.length⟩, ⟨u2.heap.size, u3.heap.size, .slice A3 RX.length c3, RX⟩, ⟨u1.heap.size, u2.heap.size, .slice A2 z0.length c2, z0⟩]) S13 hO14 hG14
    clear g00 g01 g02 g03 g0l
    clear hO14 hG14
    clear S13
    obtain ⟨g00, g01, g02, g03⟩ := S14.im (g := u7.heap.size) (T := 26) (X := R1) (Y := R2) (Z := R3) (v := .slice A7 RX.length c7) (by simp)
    have g0l := S14.lt (g := u7.heap.size) (T := 26) (cs := imC R1 R2 R3 (.slice A7 RX.length c7)) (by simp)
    go_wp2_with fail
    refine (heldImage_any R1 R2 R3 A7 c7 RX.length 1 _ (S14.1.rds (lo := u6.heap.size) (hi := u7.heap.size) (n := RX.length) (c := c7) (by simp)) (by omega) (by omega) (by omega)).mono ?_
    rintro e u15 ⟨rfl, hB15⟩
    have S15 := S14.call hB15
    clear g00 g01 g02 g03 g0l
    clear hB15
    clear S14
    obtain ⟨b0, b1, b2, b3⟩ := S15.im (g := w.heap.size) (T := 24) (X := W) (Y := H) (Z := P) (v := .slice a0 z0.length cap0) (by simp)
    have bl := S15.lt (g := w.heap.size) (T := 24) (cs := imC W H P (.slice a0 z0.length cap0)) (by simp)
    go_wp2_with fail
    refine (toImage_any W H P a0 cap0 z0 _ (S15.1.arg HR.out) (by omega)).mono ?_
    rintro e u16 ⟨v16, rfl, hO16, hB16⟩
    obtain ⟨A16, c16, rfl, hc16⟩ := hO16.slice
    have S16 := S15.add hO16 hB16
    clear b0 b1 b2 b3 bl
    clear hO16 hB16
    clear S15
    go_wp2_with fail
    refine (HI.out A16 c16 _ (S16.1.rds (lo := u15.heap.size) (hi := u16.heap.size) (n := z0.length) (c := c16) (by simp)) hc16).mono ?_
    rintro e u17 ⟨v17, rfl, hO17, hB17⟩
    obtain ⟨A17, c17, rfl, hc17⟩ := hO17.slice
    have S17 := S16.add hO17 hB17
    clear hO17 hB17
    clear S16
    obtain ⟨w00, w01, w02, w03⟩ := S17.im (g := u3.heap.size) (T := 26) (X := R1) (Y := R2) (Z := R3) (v := .slice A3 RX.length c3) (by simp)
    have w0l := S17.lt (g := u3.heap.size) (T := 26) (cs := imC R1 R2 R3 (.slice A3 RX.length c3)) (by simp)
    have S18 : ISt w (u17.alloc (.cells #[.int .i64 R1, .int .i64 R2, .int .i64 R3, .slice A17 RX.length c17] 26)) [⟨u16.heap.size, u17.heap.size, .slice A17 RX.length c17, RX⟩, ⟨u15.heap.size, u16.heap.size, .slice A16 z0.length c16, z0⟩, ⟨u9.drew.heap.size, u10.heap.size, .slice A10 z0.length c10, z0⟩, ⟨u6.heap.size, u7.heap.size, .slice A7 RX.length c7, marks 1 RX.length⟩, ⟨u4.heap.size, u5.heap.size, .slice A5 z0.length c5, marks 1 z0.length⟩, ⟨u2.heap.size, u3.heap.size, .slice A3 RX.length c3, RX⟩, ⟨u1.heap.size, u2.heap.size, .slice A2 z0.length c2, z0⟩] [⟨u17.heap.size, 26, imC R1 R2 R3 (.slice A17 RX.length c17)⟩, ⟨u7.heap.size, 26, imC R1 R2 R3 (.slice A7 RX.length c7)⟩, ⟨u5.heap.size, 26, imC W H P (.slice A5 z0.length c5)⟩, ⟨u3.heap.size, 26, imC R1 R2 R3 (.slice A3 RX.length c3)⟩, ⟨w.heap.size, 24, imC W H P (.slice a0 z0.length cap0)⟩] := ISt.box S17 26 (imC R1 R2 R3 (.slice A17 RX.length c17)) (by decide)
    go_wp2_with fail
    clear w00 w01 w02 w03 w0l
    clear S17
    generalize u17.alloc (.cells #[.int .i64 R1, .int .i64 R2, .int .i64 R3, .slice A17 RX.length c17] 26) = u18 at *
    refine (eqImage_same R1 R2 R3 A17 A3 c17 c3 _ _ RX _ rfl rfl (S18.1.rds (lo := u16.heap.size) (hi := u17.heap.size) (n := RX.length) (c := c17) (by simp)) (S18.1.rds (lo := u2.heap.size) (hi := u3.heap.size) (n := RX.length) (c := c3) (by simp)) (by omega)).mono ?_
    rintro e u19 ⟨rfl, hB19⟩
    have S19 := S18.call hB19
    clear hB19
    clear S18
    obtain ⟨g00, g01, g02, g03⟩ := S19.im (g := u7.heap.size) (T := 26) (X := R1) (Y := R2) (Z := R3) (v := .slice A7 RX.length c7) (by simp)
    have g0l := S19.lt (g := u7.heap.size) (T := 26) (cs := imC R1 R2 R3 (.slice A7 RX.length c7)) (by simp)
    go_wp2_with fail
    refine (heldImage_any R1 R2 R3 A7 c7 RX.length 1 _ (S19.1.rds (lo := u6.heap.size) (hi := u7.heap.size) (n := RX.length) (c := c7) (by simp)) (by omega) (by omega) (by omega)).mono ?_
    rintro e u20 ⟨rfl, hB20⟩
    have S20 := S19.call hB20
    clear g00 g01 g02 g03 g0l
    clear hB20
    clear S19
    go_wp2
    go_ret
    exact ⟨rfl, S20.1.below⟩

/-! ### From the walk to the statement. -/
theorem own : ownKnob Try.prog.godebug = none := by kernel_rfl
theorem laidOut : laidOutB Try.prog = true := by kernel_rfl
set_option maxRecDepth 100000 in
theorem lifted (os : Os) (started : os.Started) (H : Type) (enc : TypeId × Value → H) :
    ReturnsInHanded {} Try.checked os 4 .any (Rows.fnExactInvertImageSpec.pre6 enc Try.prog Try.f4 Rows.fnExactInvertImageRow.domain false) (Rows.fnExactInvertImageSpec.post enc Try.prog Try.f4 false true false false) := by
  refine returnsInHanded_of_change (C := Try.checked) own started (by kernel_rfl) Try.func4
    (ChangeSpec.witness6 (enc := enc) (C := Try.checked) false ⟨#[], #[.agg #[.int .i64 0, .int .i64 0, .int .i64 0, .slice none 0 0]], []⟩ 8 (by kernel_rfl) (by kernel_rfl) (by kernel_rfl) (by kernel_rfl)) ?_
  intro W base args ds gs before hval0 hW hcnd _
  have hval : ∀ (j : Nat) t v, Try.f4.params[j]? = some t → args[j]? = some v → Value.okWide Try.prog W .any base t v := hval0
  have hW' := hW
  obtain ⟨p, q, hA0, hV, rfl, hfz, hnd⟩ := hW
  have hA : DataW.TrodAll enc Try.prog W 0 (fun _ => true) true Try.f4.params.toList args.toList ds p := hA0
  rw [Try.params4] at hA hval
  obtain ⟨v0, vs0, d0, ds0, p0, q0, hargs, rfl, rfl, h0, r0⟩ := trodAll_cons hA
  obtain ⟨rfl, rfl, rfl⟩ := trodAll_nil r0
  obtain rfl : args = #[v0] := by cases args; simp_all
  obtain ⟨rfl, rfl⟩ := trodVars_none hV
  have k0 := h0
  have lt0 : ∀ x ∈ p0, x.block < W.heap.size := by obtain ⟨m, hm⟩ := k0; exact DataW.trod_lt m _ _ _ hm
  obtain ⟨x0a, x0b, x0c, x0d, y0a, y0b, y0c, y0d, m0, rfl, rfl, rfl, g0a, g0b, g0c, g0d⟩ := Joins.open_agg4 Try.underlying24 (by kernel_rfl) (by kernel_rfl) (hval 0 24 v0 rfl rfl) h0
  obtain ⟨n0a, e0a, rfl, f0a⟩ := DataW.trod_int Try.underlying3 g0a
  simp at e0a
  subst e0a
  obtain ⟨n0b, e0b, rfl, f0b⟩ := DataW.trod_int Try.underlying3 g0b
  simp at e0b
  subst e0b
  obtain ⟨n0c, e0c, rfl, f0c⟩ := DataW.trod_int Try.underlying3 g0c
  simp at e0c
  subst e0c
  obtain ⟨a0, cap0, z0, hv0, hc0, w0⟩ : ∃ (A : Option Addr) (c : Nat) (zs : List Int), x0d = .slice A zs.length c ∧ zs.length ≤ c ∧ Rdw .i64 W W.heap.size A zs := by
    rcases open_ints Try.underlying22 Try.underlying3 (by kernel_rfl) g0d with ⟨hcs, _⟩ | ⟨x, l, c, zs, hcs, _, hl, hm, hz, _, hcell, hwz⟩
    · simp at hcs
      exact ⟨none, 0, [], hcs, Nat.le_refl _, Rdw.nil⟩
    · simp at hcs
      have hzl : (zs.take l).length = l := by simp at hz ⊢; omega
      exact ⟨some x, c, zs.take l, by rw [hzl]; exact hcs, by rw [hzl]; exact hl, Rdw.of_row hl hm (by simpa using hz) hcell hwz⟩
  subst hv0
  clear hA0 hval0
  refine (walk W n0a n0b n0c a0 cap0 z0 hc0 w0).mono fun e W' ⟨he, bel⟩ => ?_
  subst he
  exact ⟨_, rfl, _, _, _, [], _, [], hW', trodAll_mk1 (shut_bool Try.underlying4 _), (trodAll_cons_mk (Below.trod laidOut (by kernel_rfl) (of_decide_eq_true (by kernel_rfl)) k0 bel lt0) trodAll_mk0), rfl, bel.frame _, fun h => by cases h⟩

theorem over : Rows.fnExactInvertImageRow.holds Try.pinned (OpenSpec.ofChange Rows.fnExactInvertImageSpec) :=
  OpenClaim.holds_of_wide 4 Try.f4 rfl rfl rfl rfl rfl rfl rfl ⟨rfl, rfl, rfl, rfl, rfl⟩ rfl rfl rfl rfl rfl (by kernel_rfl) Try.func4 (by kernel_rfl)
    (of_decide_eq_true (by kernel_rfl)) (by unfold Func.isWrapper; first | (rw [if_pos (by decide +kernel)]; kernel_rfl) | (rw [if_neg (by decide +kernel)]; exact ⟨rfl, rfl⟩))
    (fun os started H enc _ => lifted os started H enc)

theorem proved : Rows.FnExactInvertImageSaid := over
end Go.Proofs.Ytpjljhboodbmeaa.fnExactInvertImage
