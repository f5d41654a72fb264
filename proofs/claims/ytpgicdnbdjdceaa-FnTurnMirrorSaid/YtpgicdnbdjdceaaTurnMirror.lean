/- Whatever the code: TurnImage of the drawn image answers what the model answers, and where there is an answer, a mirrored turn is undone by a mirrored turn. -/
import Derived.Test.YtpgicdnbdjdceaaRows
import Derived.WalkKit
import Derived.ProofKit
import Derived.OpenShut
import Derived.ShutString
import Derived.ChangeOld
import Derived.Below
import Derived.Test.YtpgicdnbdjdceaaImgL
import Derived.Test.YtpgicdnbdjdceaaDrawImg3
import Derived.Deep.QuietTactic
import Derived.BigQuiet
namespace Go.Proofs.Ytpgicdnbdjdceaa.fnTurnMirror
open Go.ChangeShapes Go.WideShapes Go.ChangeAt Go.RowKit
open Go.ChangeMaps (open_string shut_string)
set_option linter.unusedVariables false

set_option maxHeartbeats 16000000 in
theorem walk (w : World) (a0 : Option Addr) (cap0 : Nat) (z0 : List Int) (hc0 : z0.length ≤ cap0) (w0 : Rdw .u8 w w.heap.size a0 z0) :
    Calls Try.prog 5 #[.slice a0 z0.length cap0] w fun e w' => e = .returned (.bool true) ∧ Below w.heap.size w w' := by
  have hm := w0.2.1
  unfold maxLen at hm
  by_cases hlen : 1048576 < z0.length
  · go_enter Try.func5, Try.ntmps5
    go_wp2
    go_ret
    exact ⟨rfl, Below.refl _ _⟩
  · go_enter Try.func5, Try.ntmps5
    go_wp2_with fail
    refine (drawTurn_any a0 cap0 z0 w hc0 w0).mono ?_
    rintro e u1 ⟨W, H, P, A, c, xs, k, rfl, hx, hxc, hr, hbel⟩
    have S1 : LSt w u1 [(A, xs)] [] := (LSt.start hbel).add hr
    obtain ⟨X, Y, Z, ys, hys, HI, HQ, hor⟩ := tum_law W H P k xs hx
    clear w0 hr hbel hm
    have S2 : LSt w (u1.alloc (.cells #[.int .i64 W, .int .i64 H, .int .i64 P, .slice A xs.length c] 25)) [(A, xs)] [⟨u1.heap.size, 25, imC W H P (.slice A xs.length c)⟩] := S1.box 25 (imC W H P (.slice A xs.length c))
    clear S1
    go_wp2_with fail
    generalize u1.alloc (.cells #[.int .i64 W, .int .i64 H, .int .i64 P, .slice A xs.length c] 25) = u2 at *
    refine (HI.out A c _ ((S2).rds (A := A) (xs := xs) (by simp)) hxc).mono ?_
    rintro e u3 ⟨A3, c3, rfl, hc3, hr3, hB3⟩
    have S3 := (S2.call hB3).add hr3
    clear hr3 hB3 S2
    have S4 : LSt w (u3.alloc (.cells #[.int .i64 X, .int .i64 Y, .int .i64 Z, .slice A3 ys.length c3] 25)) [(A3, ys), (A, xs)] [⟨u3.heap.size, 25, imC X Y Z (.slice A3 ys.length c3)⟩, ⟨u1.heap.size, 25, imC W H P (.slice A xs.length c)⟩] := S3.box 25 (imC X Y Z (.slice A3 ys.length c3))
    clear S3
    go_wp2
    generalize u3.alloc (.cells #[.int .i64 X, .int .i64 Y, .int .i64 Z, .slice A3 ys.length c3] 25) = u4 at *
    rcases hor with hX | ⟨hX, X1, Y1, Z1, X2, Y2, Z2, X3, Y3, Z3, al, bl, cl, hal, hbl, hcl, HM, HT, HM2, HT2⟩
    · have hX0 : (X == 0) = true := by simp [hX]
      clear hX
      obtain ⟨o0, o1, o2, o3⟩ := S4.im (g := u3.heap.size) (T := 25) (X := X) (Y := Y) (Z := Z) (v := .slice A3 ys.length c3) (by simp)
      have ol := S4.lt (g := u3.heap.size) (T := 25) (cs := imC X Y Z (.slice A3 ys.length c3)) (by simp)
      obtain ⟨m0, m1, m2, m3⟩ := S4.im (g := u1.heap.size) (T := 25) (X := W) (Y := H) (Z := P) (v := .slice A xs.length c) (by simp)
      have ml := S4.lt (g := u1.heap.size) (T := 25) (cs := imC W H P (.slice A xs.length c)) (by simp)
      have HS := Lib.hid S4
      clear S4
      skip
      go_region_held3 (fun w' => (w'.cell? ⟨u3.heap.size, 0, none⟩ = some (.int .i64 X) ∧ w'.cell? ⟨u3.heap.size, 1, none⟩ = some (.int .i64 Y) ∧ w'.cell? ⟨u3.heap.size, 2, none⟩ = some (.int .i64 Z) ∧ w'.cell? ⟨u3.heap.size, 3, none⟩ = some (.slice A3 ys.length c3)) ∧ (w'.cell? ⟨u1.heap.size, 0, none⟩ = some (.int .i64 W) ∧ w'.cell? ⟨u1.heap.size, 1, none⟩ = some (.int .i64 H) ∧ w'.cell? ⟨u1.heap.size, 2, none⟩ = some (.int .i64 P) ∧ w'.cell? ⟨u1.heap.size, 3, none⟩ = some (.slice A xs.length c))) (first | (with_reducible exact ⟨⟨k1o0, k1o1, k1o2, k1o3⟩, ⟨k1m0, k1m1, k1m2, k1m3⟩⟩) | (with_reducible exact ⟨⟨k0o0, k0o1, k0o2, k0o3⟩, ⟨k0m0, k0m1, k0m2, k0m3⟩⟩) | exact ⟨⟨o0, o1, o2, o3⟩, ⟨m0, m1, m2, m3⟩⟩ | go_keep) (first | (go_at_call 23; ((with_reducible refine (ImC1.use HQ A c _ (by exact ((HS.out.drew).rds (A := A) (xs := xs) (by simp))) hxc).mono ?_); rintro e u5 ⟨A5, c5, rfl, hc5, hr5, hB5⟩); obtain ⟨k0o0, k0o1, k0o2, k0o3⟩ := im_keep hB5 (by exact ol) o0 o1 o2 o3; have l0o : u3.heap.size < u5.heap.size := Nat.lt_of_lt_of_le (by exact ol) hB5.size; obtain ⟨k0m0, k0m1, k0m2, k0m3⟩ := im_keep hB5 (by exact ml) m0 m1 m2 m3; have l0m : u1.heap.size < u5.heap.size := Nat.lt_of_lt_of_le (by exact ml) hB5.size; have HT5 := Lib.hid (((HS.out.drew).call hB5).add hr5); clear hr5 hB5) | (go_at_call 17; ((with_reducible refine (lEqIm X Y Z ys A3 A5 c3 c5 _ (by exact ((HT5.out).rds (A := A3) (xs := ys) (by simp))) (by exact ((HT5.out).rds (A := A5) (xs := ys) (by simp))) (by first | omega | assumption)).mono ?_); rintro e u6 ⟨rfl, hB6⟩); obtain ⟨k1o0, k1o1, k1o2, k1o3⟩ := im_keep hB6 (by exact l0o) k0o0 k0o1 k0o2 k0o3; have l1o : u3.heap.size < u6.heap.size := Nat.lt_of_lt_of_le (by exact l0o) hB6.size; obtain ⟨k1m0, k1m1, k1m2, k1m3⟩ := im_keep hB6 (by exact l0m) k0m0 k0m1 k0m2 k0m3; have l1m : u1.heap.size < u6.heap.size := Nat.lt_of_lt_of_le (by exact l0m) hB6.size; have HT6 := Lib.hid ((HT5.out).call hB6); clear hB6))
      all_goals
        clear o0 o1 o2 o3 ol m0 m1 m2 m3 ml k0o0 k0o1 k0o2 k0o3 k0m0 k0m1 k0m2 k0m3 k1o0 k1o1 k1o2 k1o3 k1m0 k1m1 k1m2 k1m3 l0o l0m l1o l1m HS
        have S6 := HT6.out
        clear HT5 HT6
        go_wp2
        obtain ⟨o0, o1, o2, o3⟩ := S6.im (g := u3.heap.size) (T := 25) (X := X) (Y := Y) (Z := Z) (v := .slice A3 ys.length c3) (by simp)
        have ol := S6.lt (g := u3.heap.size) (T := 25) (cs := imC X Y Z (.slice A3 ys.length c3)) (by simp)
        obtain ⟨m0, m1, m2, m3⟩ := S6.im (g := u1.heap.size) (T := 25) (X := W) (Y := H) (Z := P) (v := .slice A xs.length c) (by simp)
        have ml := S6.lt (g := u1.heap.size) (T := 25) (cs := imC W H P (.slice A xs.length c)) (by simp)
        have HS := Lib.hid S6
        clear S6
        skip
        go_region_held3 (fun w' => (w'.cell? ⟨u3.heap.size, 0, none⟩ = some (.int .i64 X) ∧ w'.cell? ⟨u3.heap.size, 1, none⟩ = some (.int .i64 Y) ∧ w'.cell? ⟨u3.heap.size, 2, none⟩ = some (.int .i64 Z) ∧ w'.cell? ⟨u3.heap.size, 3, none⟩ = some (.slice A3 ys.length c3)) ∧ (w'.cell? ⟨u1.heap.size, 0, none⟩ = some (.int .i64 W) ∧ w'.cell? ⟨u1.heap.size, 1, none⟩ = some (.int .i64 H) ∧ w'.cell? ⟨u1.heap.size, 2, none⟩ = some (.int .i64 P) ∧ w'.cell? ⟨u1.heap.size, 3, none⟩ = some (.slice A xs.length c))) (first | (with_reducible exact ⟨⟨k1o0, k1o1, k1o2, k1o3⟩, ⟨k1m0, k1m1, k1m2, k1m3⟩⟩) | (with_reducible exact ⟨⟨k0o0, k0o1, k0o2, k0o3⟩, ⟨k0m0, k0m1, k0m2, k0m3⟩⟩) | exact ⟨⟨o0, o1, o2, o3⟩, ⟨m0, m1, m2, m3⟩⟩ | go_keep) (first | (go_at_call 23; ((with_reducible refine (ImC1.use HQ A c _ (by exact ((HS.out.drew).rds (A := A) (xs := xs) (by simp))) hxc).mono ?_); rintro e u7 ⟨A7, c7, rfl, hc7, hr7, hB7⟩); obtain ⟨k0o0, k0o1, k0o2, k0o3⟩ := im_keep hB7 (by exact ol) o0 o1 o2 o3; have l0o : u3.heap.size < u7.heap.size := Nat.lt_of_lt_of_le (by exact ol) hB7.size; obtain ⟨k0m0, k0m1, k0m2, k0m3⟩ := im_keep hB7 (by exact ml) m0 m1 m2 m3; have l0m : u1.heap.size < u7.heap.size := Nat.lt_of_lt_of_le (by exact ml) hB7.size; have HT7 := Lib.hid (((HS.out.drew).call hB7).add hr7); clear hr7 hB7) | (go_at_call 17; ((with_reducible refine (lEqIm X Y Z ys A3 A7 c3 c7 _ (by exact ((HT7.out).rds (A := A3) (xs := ys) (by simp))) (by exact ((HT7.out).rds (A := A7) (xs := ys) (by simp))) (by first | omega | assumption)).mono ?_); rintro e u8 ⟨rfl, hB8⟩); obtain ⟨k1o0, k1o1, k1o2, k1o3⟩ := im_keep hB8 (by exact l0o) k0o0 k0o1 k0o2 k0o3; have l1o : u3.heap.size < u8.heap.size := Nat.lt_of_lt_of_le (by exact l0o) hB8.size; obtain ⟨k1m0, k1m1, k1m2, k1m3⟩ := im_keep hB8 (by exact l0m) k0m0 k0m1 k0m2 k0m3; have l1m : u1.heap.size < u8.heap.size := Nat.lt_of_lt_of_le (by exact l0m) hB8.size; have HT8 := Lib.hid ((HT7.out).call hB8); clear hB8))
        all_goals
          clear o0 o1 o2 o3 ol m0 m1 m2 m3 ml k0o0 k0o1 k0o2 k0o3 k0m0 k0m1 k0m2 k0m3 k1o0 k1o1 k1o2 k1o3 k1m0 k1m1 k1m2 k1m3 l0o l0m l1o l1m HS
          have S8 := HT8.out
          clear HT7 HT8
          go_wp2
          go_ret
          exact ⟨rfl, S8.1⟩
    · have hX0 : (X == 0) = false := beq_eq_false_iff_ne.2 hX
      clear hX
      obtain ⟨o0, o1, o2, o3⟩ := S4.im (g := u3.heap.size) (T := 25) (X := X) (Y := Y) (Z := Z) (v := .slice A3 ys.length c3) (by simp)
      have ol := S4.lt (g := u3.heap.size) (T := 25) (cs := imC X Y Z (.slice A3 ys.length c3)) (by simp)
      obtain ⟨m0, m1, m2, m3⟩ := S4.im (g := u1.heap.size) (T := 25) (X := W) (Y := H) (Z := P) (v := .slice A xs.length c) (by simp)
      have ml := S4.lt (g := u1.heap.size) (T := 25) (cs := imC W H P (.slice A xs.length c)) (by simp)
      have HS := Lib.hid S4
      clear S4
      skip
      go_region_held3 (fun w' => (w'.cell? ⟨u3.heap.size, 0, none⟩ = some (.int .i64 X) ∧ w'.cell? ⟨u3.heap.size, 1, none⟩ = some (.int .i64 Y) ∧ w'.cell? ⟨u3.heap.size, 2, none⟩ = some (.int .i64 Z) ∧ w'.cell? ⟨u3.heap.size, 3, none⟩ = some (.slice A3 ys.length c3)) ∧ (w'.cell? ⟨u1.heap.size, 0, none⟩ = some (.int .i64 W) ∧ w'.cell? ⟨u1.heap.size, 1, none⟩ = some (.int .i64 H) ∧ w'.cell? ⟨u1.heap.size, 2, none⟩ = some (.int .i64 P) ∧ w'.cell? ⟨u1.heap.size, 3, none⟩ = some (.slice A xs.length c))) (first | (with_reducible exact ⟨⟨k1o0, k1o1, k1o2, k1o3⟩, ⟨k1m0, k1m1, k1m2, k1m3⟩⟩) | (with_reducible exact ⟨⟨k0o0, k0o1, k0o2, k0o3⟩, ⟨k0m0, k0m1, k0m2, k0m3⟩⟩) | exact ⟨⟨o0, o1, o2, o3⟩, ⟨m0, m1, m2, m3⟩⟩ | go_keep) (first | (go_at_call 23; ((with_reducible refine (ImC1.use HQ A c _ (by exact ((HS.out.drew).rds (A := A) (xs := xs) (by simp))) hxc).mono ?_); rintro e u5 ⟨A5, c5, rfl, hc5, hr5, hB5⟩); obtain ⟨k0o0, k0o1, k0o2, k0o3⟩ := im_keep hB5 (by exact ol) o0 o1 o2 o3; have l0o : u3.heap.size < u5.heap.size := Nat.lt_of_lt_of_le (by exact ol) hB5.size; obtain ⟨k0m0, k0m1, k0m2, k0m3⟩ := im_keep hB5 (by exact ml) m0 m1 m2 m3; have l0m : u1.heap.size < u5.heap.size := Nat.lt_of_lt_of_le (by exact ml) hB5.size; have HT5 := Lib.hid (((HS.out.drew).call hB5).add hr5); clear hr5 hB5) | (go_at_call 17; ((with_reducible refine (lEqIm X Y Z ys A3 A5 c3 c5 _ (by exact ((HT5.out).rds (A := A3) (xs := ys) (by simp))) (by exact ((HT5.out).rds (A := A5) (xs := ys) (by simp))) (by first | omega | assumption)).mono ?_); rintro e u6 ⟨rfl, hB6⟩); obtain ⟨k1o0, k1o1, k1o2, k1o3⟩ := im_keep hB6 (by exact l0o) k0o0 k0o1 k0o2 k0o3; have l1o : u3.heap.size < u6.heap.size := Nat.lt_of_lt_of_le (by exact l0o) hB6.size; obtain ⟨k1m0, k1m1, k1m2, k1m3⟩ := im_keep hB6 (by exact l0m) k0m0 k0m1 k0m2 k0m3; have l1m : u1.heap.size < u6.heap.size := Nat.lt_of_lt_of_le (by exact l0m) hB6.size; have HT6 := Lib.hid ((HT5.out).call hB6); clear hB6))
      all_goals
        clear o0 o1 o2 o3 ol m0 m1 m2 m3 ml k0o0 k0o1 k0o2 k0o3 k0m0 k0m1 k0m2 k0m3 k1o0 k1o1 k1o2 k1o3 k1m0 k1m1 k1m2 k1m3 l0o l0m l1o l1m HS
        have S6 := HT6.out
        clear HT5 HT6
        go_wp2_with fail
        obtain ⟨m0, m1, m2, m3⟩ := S6.im (g := u1.heap.size) (T := 25) (X := W) (Y := H) (Z := P) (v := .slice A xs.length c) (by simp)
        have ml := S6.lt (g := u1.heap.size) (T := 25) (cs := imC W H P (.slice A xs.length c)) (by simp)
        refine (HM.out A c _ ((S6).rds (A := A) (xs := xs) (by simp)) hxc).mono ?_
        rintro e u7 ⟨A7, c7, rfl, hc7, hr7, hB7⟩
        have S7 := (S6.call hB7).add hr7
        clear m0 m1 m2 m3 ml
        clear hr7 hB7 S6
        go_wp2_with fail
        refine (HT.out A7 c7 _ ((S7).rds (A := A7) (xs := al) (by simp)) hc7).mono ?_
        rintro e u8 ⟨A8, c8, rfl, hc8, hr8, hB8⟩
        have S8 := (S7.call hB8).add hr8
        clear hr8 hB8 S7
        have S9 : LSt w (u8.alloc (.cells #[.int .i64 X2, .int .i64 Y2, .int .i64 Z2, .slice A8 bl.length c8] 25)) [(A8, bl), (A7, al), (A5, ys), (A3, ys), (A, xs)] [⟨u8.heap.size, 25, imC X2 Y2 Z2 (.slice A8 bl.length c8)⟩, ⟨u3.heap.size, 25, imC X Y Z (.slice A3 ys.length c3)⟩, ⟨u1.heap.size, 25, imC W H P (.slice A xs.length c)⟩] := S8.box 25 (imC X2 Y2 Z2 (.slice A8 bl.length c8))
        clear S8
        go_wp2
        generalize u8.alloc (.cells #[.int .i64 X2, .int .i64 Y2, .int .i64 Z2, .slice A8 bl.length c8] 25) = u9 at *
        obtain ⟨j0, j1, j2, j3⟩ := S9.im (g := u8.heap.size) (T := 25) (X := X2) (Y := Y2) (Z := Z2) (v := .slice A8 bl.length c8) (by simp)
        have jl := S9.lt (g := u8.heap.size) (T := 25) (cs := imC X2 Y2 Z2 (.slice A8 bl.length c8)) (by simp)
        obtain ⟨m0, m1, m2, m3⟩ := S9.im (g := u1.heap.size) (T := 25) (X := W) (Y := H) (Z := P) (v := .slice A xs.length c) (by simp)
        have ml := S9.lt (g := u1.heap.size) (T := 25) (cs := imC W H P (.slice A xs.length c)) (by simp)
        have HS := Lib.hid S9
        clear S9
        skip
        go_region_held3 (fun w' => (w'.cell? ⟨u8.heap.size, 0, none⟩ = some (.int .i64 X2) ∧ w'.cell? ⟨u8.heap.size, 1, none⟩ = some (.int .i64 Y2) ∧ w'.cell? ⟨u8.heap.size, 2, none⟩ = some (.int .i64 Z2) ∧ w'.cell? ⟨u8.heap.size, 3, none⟩ = some (.slice A8 bl.length c8)) ∧ (w'.cell? ⟨u1.heap.size, 0, none⟩ = some (.int .i64 W) ∧ w'.cell? ⟨u1.heap.size, 1, none⟩ = some (.int .i64 H) ∧ w'.cell? ⟨u1.heap.size, 2, none⟩ = some (.int .i64 P) ∧ w'.cell? ⟨u1.heap.size, 3, none⟩ = some (.slice A xs.length c))) (first | (with_reducible exact ⟨⟨k2j0, k2j1, k2j2, k2j3⟩, ⟨k2m0, k2m1, k2m2, k2m3⟩⟩) | (with_reducible exact ⟨⟨k1j0, k1j1, k1j2, k1j3⟩, ⟨k1m0, k1m1, k1m2, k1m3⟩⟩) | (with_reducible exact ⟨⟨k0j0, k0j1, k0j2, k0j3⟩, ⟨k0m0, k0m1, k0m2, k0m3⟩⟩) | exact ⟨⟨j0, j1, j2, j3⟩, ⟨m0, m1, m2, m3⟩⟩ | go_keep) (first | (go_at_call 16; ((with_reducible refine (ImC0.use HM2 A8 c8 _ (by exact ((HS.out.drew).rds (A := A8) (xs := bl) (by simp))) hc8).mono ?_); rintro e u10 ⟨A10, c10, rfl, hc10, hr10, hB10⟩); obtain ⟨k0j0, k0j1, k0j2, k0j3⟩ := im_keep hB10 (by exact jl) j0 j1 j2 j3; have l0j : u8.heap.size < u10.heap.size := Nat.lt_of_lt_of_le (by exact jl) hB10.size; obtain ⟨k0m0, k0m1, k0m2, k0m3⟩ := im_keep hB10 (by exact ml) m0 m1 m2 m3; have l0m : u1.heap.size < u10.heap.size := Nat.lt_of_lt_of_le (by exact ml) hB10.size; have HT10 := Lib.hid (((HS.out.drew).call hB10).add hr10); clear hr10 hB10) | (go_at_call 22; ((with_reducible refine (ImC1.use HT2 A10 c10 _ (by exact ((HT10.out).rds (A := A10) (xs := cl) (by simp))) hc10).mono ?_); rintro e u11 ⟨A11, c11, rfl, hc11, hr11, hB11⟩); obtain ⟨k1j0, k1j1, k1j2, k1j3⟩ := im_keep hB11 (by exact l0j) k0j0 k0j1 k0j2 k0j3; have l1j : u8.heap.size < u11.heap.size := Nat.lt_of_lt_of_le (by exact l0j) hB11.size; obtain ⟨k1m0, k1m1, k1m2, k1m3⟩ := im_keep hB11 (by exact l0m) k0m0 k0m1 k0m2 k0m3; have l1m : u1.heap.size < u11.heap.size := Nat.lt_of_lt_of_le (by exact l0m) hB11.size; have HT11 := Lib.hid (((HT10.out).call hB11).add hr11); clear hr11 hB11) | (go_at_call 17; ((with_reducible refine (lEqIm W H P xs A11 A c11 c _ (by exact ((HT11.out).rds (A := A11) (xs := xs) (by simp))) (by exact ((HT11.out).rds (A := A) (xs := xs) (by simp))) (by first | omega | assumption)).mono ?_); rintro e u12 ⟨rfl, hB12⟩); obtain ⟨k2j0, k2j1, k2j2, k2j3⟩ := im_keep hB12 (by exact l1j) k1j0 k1j1 k1j2 k1j3; have l2j : u8.heap.size < u12.heap.size := Nat.lt_of_lt_of_le (by exact l1j) hB12.size; obtain ⟨k2m0, k2m1, k2m2, k2m3⟩ := im_keep hB12 (by exact l1m) k1m0 k1m1 k1m2 k1m3; have l2m : u1.heap.size < u12.heap.size := Nat.lt_of_lt_of_le (by exact l1m) hB12.size; have HT12 := Lib.hid ((HT11.out).call hB12); clear hB12))
        all_goals
          clear j0 j1 j2 j3 jl m0 m1 m2 m3 ml k0j0 k0j1 k0j2 k0j3 k0m0 k0m1 k0m2 k0m3 k1j0 k1j1 k1j2 k1j3 k1m0 k1m1 k1m2 k1m3 k2j0 k2j1 k2j2 k2j3 k2m0 k2m1 k2m2 k2m3 l0j l0m l1j l1m l2j l2m HS
          have S12 := HT12.out
          clear HT10 HT11 HT12
          go_wp2
          go_ret
          exact ⟨rfl, S12.1⟩

/-! ### From the walk to the statement. -/
theorem own : ownKnob Try.prog.godebug = none := by kernel_rfl
theorem laidOut : laidOutB Try.prog = true := by kernel_rfl
set_option maxRecDepth 100000 in
theorem lifted (os : Os) (started : os.Started) (H : Type) (enc : TypeId × Value → H) :
    ReturnsInHanded {} Try.checked os 5 .any (Rows.fnTurnMirrorSpec.pre6 enc Try.prog Try.f5 Rows.fnTurnMirrorRow.domain false) (Rows.fnTurnMirrorSpec.post enc Try.prog Try.f5 false true false false) := by
  refine returnsInHanded_of_change (C := Try.checked) own started (by kernel_rfl) Try.func5
    (ChangeSpec.witness6 (enc := enc) (C := Try.checked) false ⟨#[], #[.slice none 0 0], []⟩ 8 (by kernel_rfl) (by kernel_rfl) (by kernel_rfl) (by kernel_rfl)) ?_
  intro W base args ds gs before hval0 hW hcnd _
  have hval : ∀ (j : Nat) t v, Try.f5.params[j]? = some t → args[j]? = some v → Value.okWide Try.prog W .any base t v := hval0
  have hW' := hW
  obtain ⟨p, q, hA0, hV, rfl, hfz, hnd⟩ := hW
  have hA : DataW.TrodAll enc Try.prog W 0 (fun _ => true) true Try.f5.params.toList args.toList ds p := hA0
  rw [Try.params5] at hA hval
  obtain ⟨v0, vs0, d0, ds0, p0, q0, hargs, rfl, rfl, h0, r0⟩ := trodAll_cons hA
  obtain ⟨rfl, rfl, rfl⟩ := trodAll_nil r0
  obtain rfl : args = #[v0] := by cases args; simp_all
  obtain ⟨rfl, rfl⟩ := trodVars_none hV
  obtain ⟨a0, len0, cap0, rfl⟩ := okWide_slice Try.underlying22 (hval 0 22 v0 rfl rfl)
  have k0 := h0
  have lt0 : ∀ x ∈ p0, x.block < W.heap.size := by obtain ⟨m, hm⟩ := k0; exact DataW.trod_lt m _ _ _ hm
  obtain ⟨z0, hl0, hc0, w0⟩ : ∃ zs : List Int, len0 = zs.length ∧ zs.length ≤ cap0 ∧ Rdw .u8 W W.heap.size a0 zs := by
    obtain ⟨fuel, hf⟩ := h0
    rcases open_ints Try.underlying22 Try.underlying5 (by kernel_rfl) hf with ⟨hcs, _⟩ | ⟨x, l, c, zs, hcs, _, hl, hm, hz, _, hcell, hwz⟩
    · simp [Value.cells] at hcs
      obtain ⟨rfl, rfl, rfl⟩ := hcs
      exact ⟨[], rfl, Nat.le_refl _, Rdw.nil⟩
    · simp [Value.cells] at hcs
      obtain ⟨rfl, rfl, rfl⟩ := hcs
      exact ⟨zs.take len0, by simp at hz ⊢; omega, by simp at hz ⊢; omega, Rdw.of_row hl hm (by simpa using hz) hcell hwz⟩
  subst hl0
  clear hA0 hval0
  refine (walk W a0 cap0 z0 hc0 w0).mono fun e W' ⟨he, bel⟩ => ?_
  subst he
  exact ⟨_, rfl, _, _, _, [], _, [], hW', trodAll_mk1 (shut_bool Try.underlying4 _), (trodAll_cons_mk (Below.trod laidOut (by kernel_rfl) (of_decide_eq_true (by kernel_rfl)) k0 bel lt0) trodAll_mk0), rfl, bel.frame _, fun h => by cases h⟩

theorem over : Rows.fnTurnMirrorRow.holds Try.pinned (OpenSpec.ofChange Rows.fnTurnMirrorSpec) :=
  OpenClaim.holds_of_wide 5 Try.f5 rfl rfl rfl rfl rfl rfl rfl ⟨rfl, rfl, rfl, rfl, rfl⟩ rfl rfl rfl rfl rfl (by kernel_rfl) Try.func5 (by kernel_rfl)
    (of_decide_eq_true (by kernel_rfl)) (by unfold Func.isWrapper; first | (rw [if_pos (by decide +kernel)]; kernel_rfl) | (rw [if_neg (by decide +kernel)]; exact ⟨rfl, rfl⟩))
    (fun os started H enc _ => lifted os started H enc)

theorem proved : Rows.FnTurnMirrorSaid := over
end Go.Proofs.Ytpgicdnbdjdceaa.fnTurnMirror
