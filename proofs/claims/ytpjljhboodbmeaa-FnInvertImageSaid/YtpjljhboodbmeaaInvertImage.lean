/- Whatever the code: InvertImage of the drawn image answers what the model answers, and where it is valid, all numbers add up to 255 and inverting twice changes nothing. -/
import Derived.Test.YtpjljhboodbmeaaRows
import Derived.WalkKit
import Derived.ProofKit
import Derived.OpenShut
import Derived.ShutString
import Derived.ChangeOld
import Derived.Below
import Derived.Test.YtpjljhboodbmeaaLEqImg
import Derived.Test.YtpjljhboodbmeaaDrawImg2
import Derived.Deep.QuietTactic
import Derived.BigQuiet
import Derived.Test.YtpjljhboodbmeaaMapI
namespace Go.Proofs.Ytpjljhboodbmeaa.fnInvertImage
open Go.ChangeShapes Go.WideShapes Go.ChangeAt Go.RowKit
open Go.ChangeMaps (open_string shut_string)
set_option linter.unusedVariables false

set_option maxHeartbeats 16000000 in
theorem walk (w : World) (a0 : Option Addr) (cap0 : Nat) (z0 : List Int) (hc0 : z0.length ≤ cap0) (w0 : Rdw .u8 w w.heap.size a0 z0) :
    Calls Try.prog 5 #[.slice a0 z0.length cap0] w fun e w' => e = .returned (.bool true) ∧ Below w.heap.size w w' := by
  have hm := w0.2.1
  unfold maxLen at hm
  by_cases hlen : 1048576 < z0.length
  · go_enter Try.func5, Try.ntmps5
    go_wp2
    go_ret
    exact ⟨rfl, Below.refl _ _⟩
  · go_enter Try.func5, Try.ntmps5
    go_wp2_with fail
    refine (drawInvert_any a0 cap0 z0 w hc0 w0).mono ?_
    rintro e wz1 ⟨W, H, P, A, c, xs, rfl, hx, hxc, hr, hbel⟩
    have HX := Lib.hid hr
    have HBel := Lib.hid hbel
    have S1 : ISt wz1 (wz1.alloc (.cells #[.int .i64 W, .int .i64 H, .int .i64 P, .slice A xs.length c] 26)) [] [⟨wz1.heap.size, 26, imC W H P (.slice A xs.length c)⟩] := ISt.start wz1 26 (imC W H P (.slice A xs.length c)) (by decide)
    clear w0 hr hbel
    go_wp2_with fail
    generalize wz1.alloc (.cells #[.int .i64 W, .int .i64 H, .int .i64 P, .slice A xs.length c] 26) = wz2 at *
    cases hv : vim W H P xs
    · refine ((i_Invert W H P A c xs wz2 (S1.1.arg HX.out) (by omega)).mono fun _ _ h => MadeIf.f hv h).mono ?_
      rintro e wz3 ⟨v3, rfl, hO3, hB3⟩
      obtain ⟨A3, c3, rfl, hc3⟩ := hO3.slice
      have S3 := S1.add hO3 hB3
      have hz3 := hB3.size
      clear S1 hO3 hB3
      have S4 : ISt wz1 (wz3.alloc (.cells #[.int .i64 0, .int .i64 0, .int .i64 0, .slice A3 0 c3] 26)) [⟨wz2.heap.size, wz3.heap.size, .slice A3 0 c3, []⟩] [⟨wz3.heap.size, 26, imC 0 0 0 (.slice A3 0 c3)⟩, ⟨wz1.heap.size, 26, imC W H P (.slice A xs.length c)⟩] := ISt.box S3 26 (imC 0 0 0 (.slice A3 0 c3)) (by decide)
      clear S3
      go_wp2
      generalize wz3.alloc (.cells #[.int .i64 0, .int .i64 0, .int .i64 0, .slice A3 0 c3] 26) = wz4 at *
      obtain ⟨x0, x1, x2, x3⟩ := S4.im (g := wz3.heap.size) (T := 26) (X := 0) (Y := 0) (Z := 0) (v := .slice A3 0 c3) (by simp)
      have xl := S4.lt (g := wz3.heap.size) (T := 26) (cs := imC 0 0 0 (.slice A3 0 c3)) (by simp)
      obtain ⟨m0, m1, m2, m3⟩ := S4.im (g := wz1.heap.size) (T := 26) (X := W) (Y := H) (Z := P) (v := .slice A xs.length c) (by simp)
      have ml := S4.lt (g := wz1.heap.size) (T := 26) (cs := imC W H P (.slice A xs.length c)) (by simp)
      have HS := Lib.hid S4
      clear S4
      go_wp2
      go_region_held3 (fun w' => (w'.cell? ⟨wz3.heap.size, 0, none⟩ = some (.int .i64 0) ∧ w'.cell? ⟨wz3.heap.size, 1, none⟩ = some (.int .i64 0) ∧ w'.cell? ⟨wz3.heap.size, 2, none⟩ = some (.int .i64 0) ∧ w'.cell? ⟨wz3.heap.size, 3, none⟩ = some (.slice A3 0 c3)) ∧ (w'.cell? ⟨wz1.heap.size, 0, none⟩ = some (.int .i64 W) ∧ w'.cell? ⟨wz1.heap.size, 1, none⟩ = some (.int .i64 H) ∧ w'.cell? ⟨wz1.heap.size, 2, none⟩ = some (.int .i64 P) ∧ w'.cell? ⟨wz1.heap.size, 3, none⟩ = some (.slice A xs.length c))) (first | (with_reducible exact ⟨⟨k1x0, k1x1, k1x2, k1x3⟩, ⟨k1m0, k1m1, k1m2, k1m3⟩⟩) | (with_reducible exact ⟨⟨k0x0, k0x1, k0x2, k0x3⟩, ⟨k0m0, k0m1, k0m2, k0m3⟩⟩) | exact ⟨⟨x0, x1, x2, x3⟩, ⟨m0, m1, m2, m3⟩⟩ | go_keep) (first | (go_at_call 25; refine ((s_Invert W H P A c xs _ (by exact HS.out.drew.1.arg HX.out) (by omega)).mono fun _ _ h => MadeIf.f hv h).mono ?_; rintro e wz5 ⟨v5, rfl, hO5, hB5⟩; obtain ⟨A5, c5, rfl, hc5⟩ := hO5.slice; obtain ⟨k0x0, k0x1, k0x2, k0x3⟩ := im_keep hB5 (by exact xl) x0 x1 x2 x3; obtain ⟨k0m0, k0m1, k0m2, k0m3⟩ := im_keep hB5 (by exact ml) m0 m1 m2 m3; have l0x : wz3.heap.size < wz5.heap.size := Nat.lt_of_lt_of_le (by exact xl) hB5.size; have l0m : wz1.heap.size < wz5.heap.size := Nat.lt_of_lt_of_le (by exact ml) hB5.size; have HT5 := Lib.hid (HS.out.drew.add hO5 hB5); clear hO5 hB5) | (go_at_call 28; refine (lEqImg_same 0 0 0 A3 A5 c3 c5 _ _ [] _ rfl rfl (by exact HT5.out.1.rds (lo := wz2.heap.size) (hi := wz3.heap.size) (n := 0) (c := c3) (by simp)) (by exact HT5.out.1.rds (lo := wz4.drew.heap.size) (hi := wz5.heap.size) (n := 0) (c := c5) (by simp)) (by first | omega | simp)).mono ?_; rintro e wz6 ⟨rfl, hB6⟩; obtain ⟨k1x0, k1x1, k1x2, k1x3⟩ := im_keep hB6 (by exact l0x) k0x0 k0x1 k0x2 k0x3; obtain ⟨k1m0, k1m1, k1m2, k1m3⟩ := im_keep hB6 (by exact l0m) k0m0 k0m1 k0m2 k0m3; have HT6 := Lib.hid (HT5.out.call hB6); clear hB6))
      clear x0 x1 x2 x3 xl m0 m1 m2 m3 ml k0x0 k0x1 k0x2 k0x3 k0m0 k0m1 k0m2 k0m3 k1x0 k1x1 k1x2 k1x3 k1m0 k1m1 k1m2 k1m3 l0x l0m HS
      have S6 := HT6.out
      clear HT5 HT6
      obtain ⟨x0, x1, x2, x3⟩ := S6.im (g := wz3.heap.size) (T := 26) (X := 0) (Y := 0) (Z := 0) (v := .slice A3 0 c3) (by simp)
      have xl := S6.lt (g := wz3.heap.size) (T := 26) (cs := imC 0 0 0 (.slice A3 0 c3)) (by simp)
      obtain ⟨m0, m1, m2, m3⟩ := S6.im (g := wz1.heap.size) (T := 26) (X := W) (Y := H) (Z := P) (v := .slice A xs.length c) (by simp)
      have ml := S6.lt (g := wz1.heap.size) (T := 26) (cs := imC W H P (.slice A xs.length c)) (by simp)
      have HS := Lib.hid S6
      clear S6
      go_wp2
      go_region_held3 (fun w' => (w'.cell? ⟨wz3.heap.size, 0, none⟩ = some (.int .i64 0) ∧ w'.cell? ⟨wz3.heap.size, 1, none⟩ = some (.int .i64 0) ∧ w'.cell? ⟨wz3.heap.size, 2, none⟩ = some (.int .i64 0) ∧ w'.cell? ⟨wz3.heap.size, 3, none⟩ = some (.slice A3 0 c3)) ∧ (w'.cell? ⟨wz1.heap.size, 0, none⟩ = some (.int .i64 W) ∧ w'.cell? ⟨wz1.heap.size, 1, none⟩ = some (.int .i64 H) ∧ w'.cell? ⟨wz1.heap.size, 2, none⟩ = some (.int .i64 P) ∧ w'.cell? ⟨wz1.heap.size, 3, none⟩ = some (.slice A xs.length c))) (first | (with_reducible exact ⟨⟨k1x0, k1x1, k1x2, k1x3⟩, ⟨k1m0, k1m1, k1m2, k1m3⟩⟩) | (with_reducible exact ⟨⟨k0x0, k0x1, k0x2, k0x3⟩, ⟨k0m0, k0m1, k0m2, k0m3⟩⟩) | exact ⟨⟨x0, x1, x2, x3⟩, ⟨m0, m1, m2, m3⟩⟩ | go_keep) (first | (go_at_call 25; refine ((s_Invert W H P A c xs _ (by exact HS.out.drew.1.arg HX.out) (by omega)).mono fun _ _ h => MadeIf.f hv h).mono ?_; rintro e wz7 ⟨v7, rfl, hO7, hB7⟩; obtain ⟨A7, c7, rfl, hc7⟩ := hO7.slice; obtain ⟨k0x0, k0x1, k0x2, k0x3⟩ := im_keep hB7 (by exact xl) x0 x1 x2 x3; obtain ⟨k0m0, k0m1, k0m2, k0m3⟩ := im_keep hB7 (by exact ml) m0 m1 m2 m3; have l0x : wz3.heap.size < wz7.heap.size := Nat.lt_of_lt_of_le (by exact xl) hB7.size; have l0m : wz1.heap.size < wz7.heap.size := Nat.lt_of_lt_of_le (by exact ml) hB7.size; have HT7 := Lib.hid (HS.out.drew.add hO7 hB7); clear hO7 hB7) | (go_at_call 28; refine (lEqImg_same 0 0 0 A3 A7 c3 c7 _ _ [] _ rfl rfl (by exact HT7.out.1.rds (lo := wz2.heap.size) (hi := wz3.heap.size) (n := 0) (c := c3) (by simp)) (by exact HT7.out.1.rds (lo := wz6.drew.heap.size) (hi := wz7.heap.size) (n := 0) (c := c7) (by simp)) (by first | omega | simp)).mono ?_; rintro e wz8 ⟨rfl, hB8⟩; obtain ⟨k1x0, k1x1, k1x2, k1x3⟩ := im_keep hB8 (by exact l0x) k0x0 k0x1 k0x2 k0x3; obtain ⟨k1m0, k1m1, k1m2, k1m3⟩ := im_keep hB8 (by exact l0m) k0m0 k0m1 k0m2 k0m3; have HT8 := Lib.hid (HT7.out.call hB8); clear hB8))
      clear x0 x1 x2 x3 xl m0 m1 m2 m3 ml k0x0 k0x1 k0x2 k0x3 k0m0 k0m1 k0m2 k0m3 k1x0 k1x1 k1x2 k1x3 k1m0 k1m1 k1m2 k1m3 l0x l0m HS
      have S8 := HT8.out
      clear HT7 HT8
      go_wp2
      go_ret
      exact ⟨rfl, HBel.out.trans (S8.1.below.mono HBel.out.size)⟩
    · refine ((i_Invert W H P A c xs wz2 (S1.1.arg HX.out) (by omega)).mono fun _ _ h => MadeIf.t hv h).mono ?_
      rintro e wz3 ⟨v3, rfl, hO3, hB3⟩
      obtain ⟨A3, c3, rfl, hc3⟩ := hO3.slice
      have S3 := S1.add hO3 hB3
      have hz3 := hB3.size
      clear S1 hO3 hB3
      have S4 : ISt wz1 (wz3.alloc (.cells #[.int .i64 W, .int .i64 H, .int .i64 P, .slice A3 (inv xs).length c3] 26)) [⟨wz2.heap.size, wz3.heap.size, .slice A3 (inv xs).length c3, inv xs⟩] [⟨wz3.heap.size, 26, imC W H P (.slice A3 (inv xs).length c3)⟩, ⟨wz1.heap.size, 26, imC W H P (.slice A xs.length c)⟩] := ISt.box S3 26 (imC W H P (.slice A3 (inv xs).length c3)) (by decide)
      clear S3
      go_wp2
      generalize wz3.alloc (.cells #[.int .i64 W, .int .i64 H, .int .i64 P, .slice A3 (inv xs).length c3] 26) = wz4 at *
      have hil := inv_len xs
      have hix : (inv xs).length ≤ 256 := by omega
      clear hil
      obtain ⟨w', h', p', hW', hH', hP', hW1, hW16, hH1, hH16, hP1, hP4, hln, hby⟩ := vim_nat hv
      have hw0 : (W == 0) = false := beq_eq_false_iff_ne.2 (by omega)
      have hpos : 0 < xs.length := by rw [hln]; exact Nat.mul_pos (Nat.mul_pos hW1 hH1) hP1
      have HBy := Lib.hid hby
      clear hW' hH' hP' hln hby hW1 hW16 hH1 hH16 hP1 hP4
      obtain ⟨x0, x1, x2, x3⟩ := S4.im (g := wz3.heap.size) (T := 26) (X := W) (Y := H) (Z := P) (v := .slice A3 (inv xs).length c3) (by simp)
      have xl := S4.lt (g := wz3.heap.size) (T := 26) (cs := imC W H P (.slice A3 (inv xs).length c3)) (by simp)
      obtain ⟨m0, m1, m2, m3⟩ := S4.im (g := wz1.heap.size) (T := 26) (X := W) (Y := H) (Z := P) (v := .slice A xs.length c) (by simp)
      have ml := S4.lt (g := wz1.heap.size) (T := 26) (cs := imC W H P (.slice A xs.length c)) (by simp)
      have HS := Lib.hid S4
      clear S4
      go_wp2
      go_region_held3 (fun w' => (w'.cell? ⟨wz3.heap.size, 0, none⟩ = some (.int .i64 W) ∧ w'.cell? ⟨wz3.heap.size, 1, none⟩ = some (.int .i64 H) ∧ w'.cell? ⟨wz3.heap.size, 2, none⟩ = some (.int .i64 P) ∧ w'.cell? ⟨wz3.heap.size, 3, none⟩ = some (.slice A3 (inv xs).length c3)) ∧ (w'.cell? ⟨wz1.heap.size, 0, none⟩ = some (.int .i64 W) ∧ w'.cell? ⟨wz1.heap.size, 1, none⟩ = some (.int .i64 H) ∧ w'.cell? ⟨wz1.heap.size, 2, none⟩ = some (.int .i64 P) ∧ w'.cell? ⟨wz1.heap.size, 3, none⟩ = some (.slice A xs.length c))) (first | (with_reducible exact ⟨⟨k1x0, k1x1, k1x2, k1x3⟩, ⟨k1m0, k1m1, k1m2, k1m3⟩⟩) | (with_reducible exact ⟨⟨k0x0, k0x1, k0x2, k0x3⟩, ⟨k0m0, k0m1, k0m2, k0m3⟩⟩) | exact ⟨⟨x0, x1, x2, x3⟩, ⟨m0, m1, m2, m3⟩⟩ | go_keep) (first | (go_at_call 25; refine ((s_Invert W H P A c xs _ (by exact HS.out.drew.1.arg HX.out) (by omega)).mono fun _ _ h => MadeIf.t hv h).mono ?_; rintro e wz5 ⟨v5, rfl, hO5, hB5⟩; obtain ⟨A5, c5, rfl, hc5⟩ := hO5.slice; obtain ⟨k0x0, k0x1, k0x2, k0x3⟩ := im_keep hB5 (by exact xl) x0 x1 x2 x3; obtain ⟨k0m0, k0m1, k0m2, k0m3⟩ := im_keep hB5 (by exact ml) m0 m1 m2 m3; have l0x : wz3.heap.size < wz5.heap.size := Nat.lt_of_lt_of_le (by exact xl) hB5.size; have l0m : wz1.heap.size < wz5.heap.size := Nat.lt_of_lt_of_le (by exact ml) hB5.size; have HT5 := Lib.hid (HS.out.drew.add hO5 hB5); clear hO5 hB5) | (go_at_call 28; refine (lEqImg_same W H P A3 A5 c3 c5 _ _ (inv xs) _ rfl rfl (by exact HT5.out.1.rds (lo := wz2.heap.size) (hi := wz3.heap.size) (n := (inv xs).length) (c := c3) (by simp)) (by exact HT5.out.1.rds (lo := wz4.drew.heap.size) (hi := wz5.heap.size) (n := (inv xs).length) (c := c5) (by simp)) (by first | omega | simp)).mono ?_; rintro e wz6 ⟨rfl, hB6⟩; obtain ⟨k1x0, k1x1, k1x2, k1x3⟩ := im_keep hB6 (by exact l0x) k0x0 k0x1 k0x2 k0x3; obtain ⟨k1m0, k1m1, k1m2, k1m3⟩ := im_keep hB6 (by exact l0m) k0m0 k0m1 k0m2 k0m3; have HT6 := Lib.hid (HT5.out.call hB6); clear hB6))
      clear x0 x1 x2 x3 xl m0 m1 m2 m3 ml k0x0 k0x1 k0x2 k0x3 k0m0 k0m1 k0m2 k0m3 k1x0 k1x1 k1x2 k1x3 k1m0 k1m1 k1m2 k1m3 l0x l0m HS
      have S6 := HT6.out
      clear HT5 HT6
      have HI : Hid (ISt wz1 wz6 [⟨wz4.drew.heap.size, wz5.heap.size, .slice A5 (inv xs).length c5, inv xs⟩, ⟨wz2.heap.size, wz3.heap.size, .slice A3 (inv xs).length c3, inv xs⟩] [⟨wz3.heap.size, 26, imC W H P (.slice A3 (inv xs).length c3)⟩, ⟨wz1.heap.size, 26, imC W H P (.slice A xs.length c)⟩]) := Lib.hid S6
      clear S6
      go_wp2
      go_loopw [5] (fun iv wr => ∃ j : Nat, j ≤ xs.length ∧ iv = .int .i64 (j : Int) ∧ Hid (ISt wz1 wr [⟨wz4.drew.heap.size, wz5.heap.size, .slice A5 (inv xs).length c5, inv xs⟩, ⟨wz2.heap.size, wz3.heap.size, .slice A3 (inv xs).length c3, inv xs⟩] [⟨wz3.heap.size, 26, imC W H P (.slice A3 (inv xs).length c3)⟩, ⟨wz1.heap.size, 26, imC W H P (.slice A xs.length c)⟩])) (fun iv _ => xs.length - (intOf iv).toNat)
      case atStart => exact ⟨0, Nat.zero_le _, rfl, HI⟩
      case round =>
        obtain ⟨j, hj, rfl, hJ⟩ := hrel
        have SJ := hJ.out
        clear hJ
        obtain ⟨x0, x1, x2, x3⟩ := SJ.im (g := wz3.heap.size) (T := 26) (X := W) (Y := H) (Z := P) (v := .slice A3 (inv xs).length c3) (by simp)
        obtain ⟨m0, m1, m2, m3⟩ := SJ.im (g := wz1.heap.size) (T := 26) (X := W) (Y := H) (Z := P) (v := .slice A xs.length c) (by simp)
        by_cases hlt : j < xs.length
        · have hil : j < (inv xs).length := by rw [inv_len]; exact hlt
          obtain ⟨b, off, hA, hb, hc⟩ := (SJ.1.arg HX.out).cells_ hlt
          obtain ⟨b', off', hA', hb', hc'⟩ := (SJ.1.rds (lo := wz2.heap.size) (hi := wz3.heap.size) (n := (inv xs).length) (c := c3) (A := A3) (xs := inv xs) (by simp)).cells_ hil
          have hq := hc j hlt
          have hq' := hc' j hil
          have hx0 := HBy.out j hlt
          have hsum : (inv xs).getD j 0 + xs.getD j 0 = 255 := by simp [inv, hlt] <;> omega
          have HJ := Lib.hid SJ
          subst hA hA'
          clear hc hc' SJ hb hb'
          generalize xs.getD j 0 = x at *
          generalize (inv xs).getD j 0 = y at *
          have hw1 : IntKind.i64.wrap (y + x) = 255 := by rw [hsum]; exact IntWalk.i64_in _ (by omega)
          clear hsum
          go_wp2
          go_quiet (fail)
          have HN := Lib.hid (show ISt wz1 (wr.drewN nq) _ _ from ⟨HJ.out.1.drewN nq, fun b hb => HJ.out.2 b hb⟩)
          clear x0 x1 x2 x3 m0 m1 m2 m3 hq hq' hw1 HJ
          (try go_wp2)
          go_roundw
          case rel => exact ⟨j + 1, by omega, by go_num, HN⟩
          case measure => simp [intOf]; omega
        · have SE := SJ
          clear x0 x1 x2 x3 m0 m1 m2 m3 SJ HI
          obtain ⟨x0, x1, x2, x3⟩ := SE.im (g := wz3.heap.size) (T := 26) (X := W) (Y := H) (Z := P) (v := .slice A3 (inv xs).length c3) (by simp)
          have xl := SE.lt (g := wz3.heap.size) (T := 26) (cs := imC W H P (.slice A3 (inv xs).length c3)) (by simp)
          obtain ⟨m0, m1, m2, m3⟩ := SE.im (g := wz1.heap.size) (T := 26) (X := W) (Y := H) (Z := P) (v := .slice A xs.length c) (by simp)
          have ml := SE.lt (g := wz1.heap.size) (T := 26) (cs := imC W H P (.slice A xs.length c)) (by simp)
          have HS := Lib.hid SE
          clear SE
          go_wp2
          go_region_held3 (fun w' => (w'.cell? ⟨wz3.heap.size, 0, none⟩ = some (.int .i64 W) ∧ w'.cell? ⟨wz3.heap.size, 1, none⟩ = some (.int .i64 H) ∧ w'.cell? ⟨wz3.heap.size, 2, none⟩ = some (.int .i64 P) ∧ w'.cell? ⟨wz3.heap.size, 3, none⟩ = some (.slice A3 (inv xs).length c3)) ∧ (w'.cell? ⟨wz1.heap.size, 0, none⟩ = some (.int .i64 W) ∧ w'.cell? ⟨wz1.heap.size, 1, none⟩ = some (.int .i64 H) ∧ w'.cell? ⟨wz1.heap.size, 2, none⟩ = some (.int .i64 P) ∧ w'.cell? ⟨wz1.heap.size, 3, none⟩ = some (.slice A xs.length c))) (first | (with_reducible exact ⟨⟨k1x0, k1x1, k1x2, k1x3⟩, ⟨k1m0, k1m1, k1m2, k1m3⟩⟩) | (with_reducible exact ⟨⟨k0x0, k0x1, k0x2, k0x3⟩, ⟨k0m0, k0m1, k0m2, k0m3⟩⟩) | exact ⟨⟨x0, x1, x2, x3⟩, ⟨m0, m1, m2, m3⟩⟩ | go_keep) (first | (go_at_call 26; refine ((i_Invert W H P A3 c3 (inv xs) _ (by exact HS.out.drew.1.rds (lo := wz2.heap.size) (hi := wz3.heap.size) (n := (inv xs).length) (c := c3) (by simp)) (by omega)).mono fun _ _ h => MadeIf.t (vim_inv hv) h).mono ?_; rintro e wz7 ⟨v7, rfl, hO7, hB7⟩; rw [inv_inv] at hO7; obtain ⟨A7, c7, rfl, hc7⟩ := hO7.slice; obtain ⟨k0x0, k0x1, k0x2, k0x3⟩ := im_keep hB7 (by exact xl) x0 x1 x2 x3; obtain ⟨k0m0, k0m1, k0m2, k0m3⟩ := im_keep hB7 (by exact ml) m0 m1 m2 m3; have l0x : wz3.heap.size < wz7.heap.size := Nat.lt_of_lt_of_le (by exact xl) hB7.size; have l0m : wz1.heap.size < wz7.heap.size := Nat.lt_of_lt_of_le (by exact ml) hB7.size; have HT7 := Lib.hid (HS.out.drew.add hO7 hB7); clear hO7 hB7) | (go_at_call 28; refine (lEqImg_same W H P A7 A c7 c _ _ xs _ rfl rfl (by exact HT7.out.1.rds (lo := wr.drew.heap.size) (hi := wz7.heap.size) (n := xs.length) (c := c7) (by simp)) (by exact HT7.out.1.arg HX.out) (by omega)).mono ?_; rintro e wz8 ⟨rfl, hB8⟩; obtain ⟨k1x0, k1x1, k1x2, k1x3⟩ := im_keep hB8 (by exact l0x) k0x0 k0x1 k0x2 k0x3; obtain ⟨k1m0, k1m1, k1m2, k1m3⟩ := im_keep hB8 (by exact l0m) k0m0 k0m1 k0m2 k0m3; have HT8 := Lib.hid (HT7.out.call hB8); clear hB8))
          clear x0 x1 x2 x3 xl m0 m1 m2 m3 ml k0x0 k0x1 k0x2 k0x3 k0m0 k0m1 k0m2 k0m3 k1x0 k1x1 k1x2 k1x3 k1m0 k1m1 k1m2 k1m3 l0x l0m HS
          go_wp2
          go_ret
          exact ⟨rfl, HBel.out.trans (HT8.out.1.below.mono HBel.out.size)⟩

/-! ### From the walk to the statement. -/
theorem own : ownKnob Try.prog.godebug = none := by kernel_rfl
theorem laidOut : laidOutB Try.prog = true := by kernel_rfl
set_option maxRecDepth 100000 in
theorem lifted (os : Os) (started : os.Started) (H : Type) (enc : TypeId × Value → H) :
    ReturnsInHanded {} Try.checked os 5 .any (Rows.fnInvertImageSpec.pre6 enc Try.prog Try.f5 Rows.fnInvertImageRow.domain false) (Rows.fnInvertImageSpec.post enc Try.prog Try.f5 false true false false) := by
  refine returnsInHanded_of_change (C := Try.checked) own started (by kernel_rfl) Try.func5
    (ChangeSpec.witness6 (enc := enc) (C := Try.checked) false ⟨#[], #[.slice none 0 0], []⟩ 8 (by kernel_rfl) (by kernel_rfl) (by kernel_rfl) (by kernel_rfl)) ?_
  intro W base args ds gs before hval0 hW hcnd _
  have hval : ∀ (j : Nat) t v, Try.f5.params[j]? = some t → args[j]? = some v → Value.okWide Try.prog W .any base t v := hval0
  have hW' := hW
  obtain ⟨p, q, hA0, hV, rfl, hfz, hnd⟩ := hW
  have hA : DataW.TrodAll enc Try.prog W 0 (fun _ => true) true Try.f5.params.toList args.toList ds p := hA0
  rw [Try.params5] at hA hval
  obtain ⟨v0, vs0, d0, ds0, p0, q0, hargs, rfl, rfl, h0, r0⟩ := trodAll_cons hA
  obtain ⟨rfl, rfl, rfl⟩ := trodAll_nil r0
  obtain rfl : args = #[v0] := by cases args; simp_all
  obtain ⟨rfl, rfl⟩ := trodVars_none hV
  obtain ⟨a0, len0, cap0, rfl⟩ := okWide_slice Try.underlying38 (hval 0 38 v0 rfl rfl)
  have k0 := h0
  have lt0 : ∀ x ∈ p0, x.block < W.heap.size := by obtain ⟨m, hm⟩ := k0; exact DataW.trod_lt m _ _ _ hm
  obtain ⟨z0, hl0, hc0, w0⟩ : ∃ zs : List Int, len0 = zs.length ∧ zs.length ≤ cap0 ∧ Rdw .u8 W W.heap.size a0 zs := by
    obtain ⟨fuel, hf⟩ := h0
    rcases open_ints Try.underlying38 Try.underlying5 (by kernel_rfl) hf with ⟨hcs, _⟩ | ⟨x, l, c, zs, hcs, _, hl, hm, hz, _, hcell, hwz⟩
    · simp [Value.cells] at hcs
      obtain ⟨rfl, rfl, rfl⟩ := hcs
      exact ⟨[], rfl, Nat.le_refl _, Rdw.nil⟩
    · simp [Value.cells] at hcs
      obtain ⟨rfl, rfl, rfl⟩ := hcs
      exact ⟨zs.take len0, by simp at hz ⊢; omega, by simp at hz ⊢; omega, Rdw.of_row hl hm (by simpa using hz) hcell hwz⟩
  subst hl0
  clear hA0 hval0
  refine (walk W a0 cap0 z0 hc0 w0).mono fun e W' ⟨he, bel⟩ => ?_
  subst he
  exact ⟨_, rfl, _, _, _, [], _, [], hW', trodAll_mk1 (shut_bool Try.underlying4 _), (trodAll_cons_mk (Below.trod laidOut (by kernel_rfl) (of_decide_eq_true (by kernel_rfl)) k0 bel lt0) trodAll_mk0), rfl, bel.frame _, fun h => by cases h⟩

theorem over : Rows.fnInvertImageRow.holds Try.pinned (OpenSpec.ofChange Rows.fnInvertImageSpec) :=
  OpenClaim.holds_of_wide 5 Try.f5 rfl rfl rfl rfl rfl rfl rfl ⟨rfl, rfl, rfl, rfl, rfl⟩ rfl rfl rfl rfl rfl (by kernel_rfl) Try.func5 (by kernel_rfl)
    (of_decide_eq_true (by kernel_rfl)) (by unfold Func.isWrapper; first | (rw [if_pos (by decide +kernel)]; kernel_rfl) | (rw [if_neg (by decide +kernel)]; exact ⟨rfl, rfl⟩))
    (fun os started H enc _ => lifted os started H enc)

theorem proved : Rows.FnInvertImageSaid := over
end Go.Proofs.Ytpjljhboodbmeaa.fnInvertImage
