/- CropImage of the program answers what the model answers, for every image and every box; it writes into no argument, and its answer owns its memory. -/
import Derived.Test.YtkamopjflonmcaaRows
import Derived.WalkKit
import Derived.ProofKit
import Derived.OpenShut
import Derived.ShutString
import Derived.ChangeOld
import Derived.Below
import Derived.Lib.SmallJoins
import Derived.Test.YtkamopjflonmcaaImgS
import Derived.Test.YtkamopjflonmcaaIStL
import Derived.Deep.Cut
namespace Go.Proofs.Ytkamopjflonmcaa.fnExactCropImage
open Go.ChangeShapes Go.WideShapes Go.ChangeAt Go.RowKit
open Go.ChangeMaps (open_string shut_string)
set_option linter.unusedVariables false

def CrX (f : FuncId) (W H P : Int) (xs : List Int) (bx by_ bw bh : Int) (X Y Z : Int) (ys : List Int) (ok : Bool) : Prop :=
  ∀ (A : Option Addr) (c : Nat) (w : World), Rds .i64 w w.heap.size A xs → xs.length ≤ c →
    Calls Try.prog f #[.agg #[.int .i64 W, .int .i64 H, .int .i64 P, .slice A xs.length c], .agg #[.int .i64 bx, .int .i64 by_, .int .i64 bw, .int .i64 bh]] w fun e w' => ∃ v, e = .returned (.tuple #[.agg #[.int .i64 X, .int .i64 Y, .int .i64 Z, v], .bool ok]) ∧ Own w' w.heap.size v ys ∧ Below w.heap.size w w'
theorem crop_len (W H P : Int) (xs : List Int) (bx by_ bw bh : Int) : (cond (cropOk W H P xs bx by_ bw bh) (cropL W.toNat P.toNat xs bx.toNat by_.toNat bw.toNat bh.toNat) []).length ≤ 2000000 := by
  cases h : cropOk W H P xs bx by_ bw bh
  · simp
  · unfold cropOk at h
    rw [Bool.and_eq_true] at h
    obtain ⟨W, H, P, rfl, rfl, rfl, _, hW, _, hH, _, hP, _⟩ := vim_nat h.1
    obtain ⟨X0, Y0, bw, bh, rfl, rfl, rfl, rfl, hbw, hbh, hXw, hYh⟩ := fit_nat h.2
    have := img_bd (W := bw) (H := bh) (P := P) (fun x y => pxc W P xs (X0 + x) (Y0 + y)) (by omega) (by omega) hP
    show (img bw bh P (fun x y => pxc W P xs (X0 + x) (Y0 + y))).length ≤ 2000000
    omega
set_option maxHeartbeats 16000000 in
set_option maxRecDepth 8000 in
theorem walk (w : World) (W H P : Int) (a0 : Option Addr) (cap0 : Nat) (z0 : List Int) (hc0 : z0.length ≤ cap0) (w0 : Rdw .i64 w w.heap.size a0 z0) (bx by_ bw bh : Int) :
    Calls Try.prog 6 #[.agg #[.int .i64 W, .int .i64 H, .int .i64 P, .slice a0 z0.length cap0], .agg #[.int .i64 bx, .int .i64 by_, .int .i64 bw, .int .i64 bh]] w fun e w' => e = .returned (.bool true) ∧ Below w.heap.size w w' := by
  have hm := w0.2.1
  unfold maxLen at hm
  have HR := Lib.hid w0.1
  clear w0
  by_cases hlen : 1048576 < z0.length
  · go_enter Try.func6, Try.ntmps6
    go_wp2_with fail
    refine (szImage_no W H P a0 cap0 z0 _ hlen (by omega)).mono ?_
    rintro e w1 ⟨rfl, hB⟩
    have HB := Lib.hid ((((Below.refl w.heap.size w).alloc (Nat.le_refl _) _).alloc (by simp) _).trans (hB.mono (by simp <;> omega)))
    clear hB
    go_wp2
    go_ret
    exact ⟨rfl, HB.out⟩
  · obtain ⟨R1, R2, R3, RX, ok, hRX, HI, HS⟩ : ∃ (R1 R2 R3 : Int) (RX : List Int) (ok : Bool), RX.length ≤ 2000000 ∧ Hid (CrX 14 W H P z0 bx by_ bw bh R1 R2 R3 RX ok) ∧ Hid (CrX 15 W H P z0 bx by_ bw bh R1 R2 R3 RX ok) :=
      ⟨_, _, _, _, _, crop_len W H P z0 bx by_ bw bh, Lib.hid (fun A c w hx hc => i_CropImage W H P bx by_ bw bh A c z0 w hx (by omega) hc), Lib.hid (fun A c w hx hc => s_CropImage W H P bx by_ bw bh A c z0 w hx (by omega) hc)⟩
    have S0 : ISt w ((w.alloc (.cells #[.int .i64 W, .int .i64 H, .int .i64 P, .slice a0 z0.length cap0] 39)).alloc (.cells #[.int .i64 bx, .int .i64 by_, .int .i64 bw, .int .i64 bh] 40)) [] [⟨w.heap.size + 1, 40, #[.int .i64 bx, .int .i64 by_, .int .i64 bw, .int .i64 bh]⟩, ⟨w.heap.size, 39, imC W H P (.slice a0 z0.length cap0)⟩] := ISt.box' (ISt.start w 39 (imC W H P (.slice a0 z0.length cap0)) (by decide)) 40 #[.int .i64 bx, .int .i64 by_, .int .i64 bw, .int .i64 bh] (by decide) (w.heap.size + 1) (by simp)
    go_enter Try.func6, Try.ntmps6
    go_wp2_with fail
    generalize (w.alloc (.cells #[.int .i64 W, .int .i64 H, .int .i64 P, .slice a0 z0.length cap0] 39)).alloc (.cells #[.int .i64 bx, .int .i64 by_, .int .i64 bw, .int .i64 bh] 40) = u0 at *
    refine (szImage_any W H P a0 cap0 z0 u0 (by omega)).mono ?_
    rintro e u201 ⟨rfl, hB201⟩
    have S201 := S0.call hB201
    clear hB201 S0
    go_upto_region 5 with fail
    go_cut [6, 7] from 16 (fun s6 s7 wx => ∃ (gb lo2 hi2 : Nat) (A2 : Option Addr) (c2 : Nat) (lo1 hi1 : Nat) (A1 : Option Addr) (c1 : Nat), s6 = .pointer (some ⟨gb, 0, none⟩) ∧ s7 = .bool ok ∧ RX.length ≤ c2 ∧ z0.length ≤ c1 ∧ Hid (ISt w wx [⟨lo2, hi2, .slice A2 RX.length c2, RX⟩, ⟨lo1, hi1, .slice A1 z0.length c1, z0⟩] [⟨gb, 25, imC R1 R2 R3 (.slice A2 RX.length c2)⟩, ⟨(w.heap.size + 1), 40, #[.int .i64 bx, .int .i64 by_, .int .i64 bw, .int .i64 bh]⟩, ⟨w.heap.size, 39, imC W H P (.slice a0 z0.length cap0)⟩]))
    case first =>
      have HC := Lib.hid S201.drew
      clear S201
      go_region_held3 (fun w' => (w'.cell? ⟨w.heap.size, 0, none⟩ = some (.int .i64 W) ∧ w'.cell? ⟨w.heap.size, 1, none⟩ = some (.int .i64 H) ∧ w'.cell? ⟨w.heap.size, 2, none⟩ = some (.int .i64 P) ∧ w'.cell? ⟨w.heap.size, 3, none⟩ = some (.slice a0 z0.length cap0)) ∧ w'.cell? ⟨(w.heap.size + 1), 0, none⟩ = some (.int .i64 bx) ∧ w'.cell? ⟨(w.heap.size + 1), 1, none⟩ = some (.int .i64 by_) ∧ w'.cell? ⟨(w.heap.size + 1), 2, none⟩ = some (.int .i64 bw) ∧ w'.cell? ⟨(w.heap.size + 1), 3, none⟩ = some (.int .i64 bh)) (first | (with_reducible exact cells8 HC.out 39 40 (by simp [imC]) (by simp)) | (with_reducible exact cells8b HC.out 25 39 40 (by decide) (by simp [imC]) (by simp)) | (with_reducible exact cells8s HC.out HF.out 39 40 (by simp [imC]) (by simp)) | (exact cells8b HC.out 25 39 40 (by decide) (by simp [imC]) (by simp))) (first | (go_at_call 23; (refine (toImage_any W H P a0 cap0 z0 _ (by first | exact HC.out.1.arg HR.out | exact (ISt.box HC.out 25 (imC 0 0 0 (.slice none 0 0)) (by decide)).1.arg HR.out) (by omega)).mono ?_); rintro e uI ⟨vI, rfl, hOI, hBI⟩; obtain ⟨AI, cI, rfl, hcI⟩ := hOI.slice; (first | (have HD := Lib.hid (ISt.add HC.out hOI hBI)) | (have HF := Lib.hid (ISt.fresh HC.out (g := u201.heap.size) rfl); have HD := Lib.hid (ISt.add (ISt.box' HC.out 25 (imC 0 0 0 (.slice none 0 0)) (by decide) (u201.heap.size) rfl) hOI hBI)) | (have HF := Lib.hid (ISt.fresh HC.out (g := uI.heap.size) rfl); have HD := Lib.hid (ISt.add (ISt.box' HC.out 25 (imC 0 0 0 (.slice none 0 0)) (by decide) (uI.heap.size) rfl) hOI hBI)) | (have HF := Lib.hid (ISt.fresh HC.out (g := uB.heap.size) rfl); have HD := Lib.hid (ISt.add (ISt.box' HC.out 25 (imC 0 0 0 (.slice none 0 0)) (by decide) (uB.heap.size) rfl) hOI hBI))); clear hOI hBI; clear HC; have HC := HD; clear HD) | (go_at_call 24; (refine (toBox_any bx by_ bw bh _).mono ?_); rintro e uB ⟨rfl, hBB⟩; (first | (have HD := Lib.hid (ISt.call HC.out hBB)) | (have HF := Lib.hid (ISt.fresh HC.out (g := u201.heap.size) rfl); have HD := Lib.hid (ISt.call (ISt.box' HC.out 25 (imC 0 0 0 (.slice none 0 0)) (by decide) (u201.heap.size) rfl) hBB)) | (have HF := Lib.hid (ISt.fresh HC.out (g := uI.heap.size) rfl); have HD := Lib.hid (ISt.call (ISt.box' HC.out 25 (imC 0 0 0 (.slice none 0 0)) (by decide) (uI.heap.size) rfl) hBB)) | (have HF := Lib.hid (ISt.fresh HC.out (g := uB.heap.size) rfl); have HD := Lib.hid (ISt.call (ISt.box' HC.out 25 (imC 0 0 0 (.slice none 0 0)) (by decide) (uB.heap.size) rfl) hBB))); clear hBB; clear HC; have HC := HD; clear HD) | (go_at_call 15; (refine (HS.out AI cI _ (by first | exact HC.out.1.rds (List.Mem.head _) | exact (ISt.box HC.out 25 (imC 0 0 0 (.slice none 0 0)) (by decide)).1.rds (List.Mem.head _)) hcI).mono ?_); rintro e uC ⟨vC, rfl, hOC, hBC⟩; obtain ⟨AC, cC, rfl, hcC⟩ := hOC.slice; (first | (have HD := Lib.hid (ISt.add HC.out hOC hBC)) | (have HF := Lib.hid (ISt.fresh HC.out (g := u201.heap.size) rfl); have HD := Lib.hid (ISt.add (ISt.box' HC.out 25 (imC 0 0 0 (.slice none 0 0)) (by decide) (u201.heap.size) rfl) hOC hBC)) | (have HF := Lib.hid (ISt.fresh HC.out (g := uI.heap.size) rfl); have HD := Lib.hid (ISt.add (ISt.box' HC.out 25 (imC 0 0 0 (.slice none 0 0)) (by decide) (uI.heap.size) rfl) hOC hBC)) | (have HF := Lib.hid (ISt.fresh HC.out (g := uB.heap.size) rfl); have HD := Lib.hid (ISt.add (ISt.box' HC.out 25 (imC 0 0 0 (.slice none 0 0)) (by decide) (uB.heap.size) rfl) hOC hBC))); clear hOC hBC; clear HC; have HC := HD; clear HD; (try (have hzb := (HC.out.2 ⟨_, 25, (imC 0 0 0 (.slice none 0 0))⟩ (List.Mem.head _)).1; obtain ⟨zb0, zb1, zb2, zb3⟩ := hzb.im; have zf0 := hzb.fz 0; have zf1 := hzb.fz 1; have zf2 := hzb.fz 2; have zf3 := hzb.fz 3; clear hzb))))
      all_goals
        (go_wp2_with fail; go_meet; exact ⟨_, _, _, _, _, _, _, _, _, rfl, rfl, hcC, hcI, Lib.hid (by first | exact ISt.fill HC.out HF.out _ _ _ _ | exact HC.out.box 25 (imC R1 R2 R3 (.slice AC RX.length cC)) (by decide))⟩)
    case rest =>
    obtain ⟨gb203, lo203, hi203, A203, c203, lo204, hi204, A204, c204, rfl, rfl, hc203, hc204, HC⟩ := hcut
    have S203 := HC.out
    clear HC S201
    generalize wc = u203 at *
    obtain ⟨b0, b1, b2, b3⟩ := S203.im (g := w.heap.size) (T := 39) (X := W) (Y := H) (Z := P) (v := .slice a0 z0.length cap0) (by simp)
    have bl := S203.lt (g := w.heap.size) (T := 39) (cs := imC W H P (.slice a0 z0.length cap0)) (by simp)
    go_wp2_with fail
    refine (toImage_any W H P a0 cap0 z0 _ (S203.1.arg HR.out) (by omega)).mono ?_
    rintro e u205 ⟨v205, rfl, hO205, hB205⟩
    obtain ⟨A205, c205, rfl, hc205⟩ := hO205.slice
    have S205 := S203.add hO205 hB205
    clear b0 b1 b2 b3 bl
    clear hO205 hB205
    clear S203
    have S206 : ISt w (u205.alloc (.cells #[.int .i64 W, .int .i64 H, .int .i64 P, .slice A205 z0.length c205] 25)) [⟨u203.heap.size, u205.heap.size, .slice A205 z0.length c205, z0⟩, ⟨lo203, hi203, .slice A203 RX.length c203, RX⟩, ⟨lo204, hi204, .slice A204 z0.length c204, z0⟩] [⟨u205.heap.size, 25, imC W H P (.slice A205 z0.length c205)⟩, ⟨gb203, 25, imC R1 R2 R3 (.slice A203 RX.length c203)⟩, ⟨(w.heap.size + 1), 40, #[.int .i64 bx, .int .i64 by_, .int .i64 bw, .int .i64 bh]⟩, ⟨w.heap.size, 39, imC W H P (.slice a0 z0.length cap0)⟩] := ISt.box S205 25 (imC W H P (.slice A205 z0.length c205)) (by decide)
    go_upto_region 7 with fail
    clear S205
    generalize u205.alloc (.cells #[.int .i64 W, .int .i64 H, .int .i64 P, .slice A205 z0.length c205] 25) = u206 at *
    go_cut [9, 10] from 16 (fun s6 s7 wx => ∃ (gb lo2 hi2 : Nat) (A2 : Option Addr) (c2 : Nat), s6 = .pointer (some ⟨gb, 0, none⟩) ∧ s7 = .bool ok ∧ RX.length ≤ c2 ∧ Hid (ISt w wx [⟨lo2, hi2, .slice A2 RX.length c2, RX⟩, ⟨u203.heap.size, u205.heap.size, .slice A205 z0.length c205, z0⟩, ⟨lo203, hi203, .slice A203 RX.length c203, RX⟩, ⟨lo204, hi204, .slice A204 z0.length c204, z0⟩] [⟨gb, 25, imC R1 R2 R3 (.slice A2 RX.length c2)⟩, ⟨u205.heap.size, 25, imC W H P (.slice A205 z0.length c205)⟩, ⟨gb203, 25, imC R1 R2 R3 (.slice A203 RX.length c203)⟩, ⟨(w.heap.size + 1), 40, #[.int .i64 bx, .int .i64 by_, .int .i64 bw, .int .i64 bh]⟩, ⟨w.heap.size, 39, imC W H P (.slice a0 z0.length cap0)⟩]))
    case first =>
      have HC := Lib.hid S206.drew
      clear S206
      go_region_held3 (fun w' => (w'.cell? ⟨u205.heap.size, 0, none⟩ = some (.int .i64 W) ∧ w'.cell? ⟨u205.heap.size, 1, none⟩ = some (.int .i64 H) ∧ w'.cell? ⟨u205.heap.size, 2, none⟩ = some (.int .i64 P) ∧ w'.cell? ⟨u205.heap.size, 3, none⟩ = some (.slice A205 z0.length c205)) ∧ w'.cell? ⟨(w.heap.size + 1), 0, none⟩ = some (.int .i64 bx) ∧ w'.cell? ⟨(w.heap.size + 1), 1, none⟩ = some (.int .i64 by_) ∧ w'.cell? ⟨(w.heap.size + 1), 2, none⟩ = some (.int .i64 bw) ∧ w'.cell? ⟨(w.heap.size + 1), 3, none⟩ = some (.int .i64 bh)) (first | (with_reducible exact cells8 HC.out 25 40 (by simp [imC]) (by simp)) | (with_reducible exact cells8b HC.out 25 25 40 (by decide) (by simp [imC]) (by simp)) | (with_reducible exact cells8s HC.out HF.out 25 40 (by simp [imC]) (by simp)) | (exact cells8b HC.out 25 25 40 (by decide) (by simp [imC]) (by simp))) (first | (go_at_call 24; (refine (toBox_any bx by_ bw bh _).mono ?_); rintro e uB ⟨rfl, hBB⟩; (first | (have HD := Lib.hid (ISt.call HC.out hBB)) | (have HF := Lib.hid (ISt.fresh HC.out (g := u206.heap.size) rfl); have HD := Lib.hid (ISt.call (ISt.box' HC.out 25 (imC 0 0 0 (.slice none 0 0)) (by decide) (u206.heap.size) rfl) hBB)) | (have HF := Lib.hid (ISt.fresh HC.out (g := uI.heap.size) rfl); have HD := Lib.hid (ISt.call (ISt.box' HC.out 25 (imC 0 0 0 (.slice none 0 0)) (by decide) (uI.heap.size) rfl) hBB)) | (have HF := Lib.hid (ISt.fresh HC.out (g := uB.heap.size) rfl); have HD := Lib.hid (ISt.call (ISt.box' HC.out 25 (imC 0 0 0 (.slice none 0 0)) (by decide) (uB.heap.size) rfl) hBB))); clear hBB; clear HC; have HC := HD; clear HD) | (go_at_call 14; (refine (HI.out A205 c205 _ (by first | exact HC.out.1.rds (lo := u203.heap.size) (hi := u205.heap.size) (n := z0.length) (c := c205) (by simp) | exact (ISt.box HC.out 25 (imC 0 0 0 (.slice none 0 0)) (by decide)).1.rds (lo := u203.heap.size) (hi := u205.heap.size) (n := z0.length) (c := c205) (by simp)) hc205).mono ?_); rintro e uC ⟨vC, rfl, hOC, hBC⟩; obtain ⟨AC, cC, rfl, hcC⟩ := hOC.slice; (first | (have HD := Lib.hid (ISt.add HC.out hOC hBC)) | (have HF := Lib.hid (ISt.fresh HC.out (g := u206.heap.size) rfl); have HD := Lib.hid (ISt.add (ISt.box' HC.out 25 (imC 0 0 0 (.slice none 0 0)) (by decide) (u206.heap.size) rfl) hOC hBC)) | (have HF := Lib.hid (ISt.fresh HC.out (g := uI.heap.size) rfl); have HD := Lib.hid (ISt.add (ISt.box' HC.out 25 (imC 0 0 0 (.slice none 0 0)) (by decide) (uI.heap.size) rfl) hOC hBC)) | (have HF := Lib.hid (ISt.fresh HC.out (g := uB.heap.size) rfl); have HD := Lib.hid (ISt.add (ISt.box' HC.out 25 (imC 0 0 0 (.slice none 0 0)) (by decide) (uB.heap.size) rfl) hOC hBC))); clear hOC hBC; clear HC; have HC := HD; clear HD; (try (have hzb := (HC.out.2 ⟨_, 25, (imC 0 0 0 (.slice none 0 0))⟩ (List.Mem.head _)).1; obtain ⟨zb0, zb1, zb2, zb3⟩ := hzb.im; have zf0 := hzb.fz 0; have zf1 := hzb.fz 1; have zf2 := hzb.fz 2; have zf3 := hzb.fz 3; clear hzb))))
      all_goals
        (go_wp2_with fail; go_meet; exact ⟨_, _, _, _, _, rfl, rfl, hcC, Lib.hid (by first | exact ISt.fill HC.out HF.out _ _ _ _ | exact HC.out.box 25 (imC R1 R2 R3 (.slice AC RX.length cC)) (by decide))⟩)
    case rest =>
    obtain ⟨gb208, lo208, hi208, A208, c208, rfl, rfl, hc208, HC⟩ := hcut
    have S208 := HC.out
    clear HC S206
    generalize wc = u208 at *
    obtain ⟨w00, w01, w02, w03⟩ := S208.im (g := gb203) (T := 25) (X := R1) (Y := R2) (Z := R3) (v := .slice A203 RX.length c203) (by simp)
    have w0l := S208.lt (g := gb203) (T := 25) (cs := imC R1 R2 R3 (.slice A203 RX.length c203)) (by simp)
    obtain ⟨g00, g01, g02, g03⟩ := S208.im (g := gb208) (T := 25) (X := R1) (Y := R2) (Z := R3) (v := .slice A208 RX.length c208) (by simp)
    have g0l := S208.lt (g := gb208) (T := 25) (cs := imC R1 R2 R3 (.slice A208 RX.length c208)) (by simp)
    go_wp2_with fail
    refine (eqImage_same R1 R2 R3 A208 A203 c208 c203 _ _ RX _ rfl rfl (S208.1.rds (lo := lo208) (hi := hi208) (n := RX.length) (c := c208) (by simp)) (S208.1.rds (lo := lo203) (hi := hi203) (n := RX.length) (c := c203) (by simp)) (by omega)).mono ?_
    rintro e u209 ⟨rfl, hB209⟩
    have S209 := S208.call hB209
    clear w00 w01 w02 w03 w0l g00 g01 g02 g03 g0l
    clear hB209
    clear S208
    obtain ⟨x00, x01, x02, x03⟩ := S209.im (g := u205.heap.size) (T := 25) (X := W) (Y := H) (Z := P) (v := .slice A205 z0.length c205) (by simp)
    have x0l := S209.lt (g := u205.heap.size) (T := 25) (cs := imC W H P (.slice A205 z0.length c205)) (by simp)
    obtain ⟨b0, b1, b2, b3⟩ := S209.im (g := w.heap.size) (T := 39) (X := W) (Y := H) (Z := P) (v := .slice a0 z0.length cap0) (by simp)
    have bl := S209.lt (g := w.heap.size) (T := 39) (cs := imC W H P (.slice a0 z0.length cap0)) (by simp)
    have HS210 := Lib.hid S209
    go_wp2
    go_region_held3 (fun w' => (w'.cell? ⟨u205.heap.size, 0, none⟩ = some (.int .i64 W) ∧ w'.cell? ⟨u205.heap.size, 1, none⟩ = some (.int .i64 H) ∧ w'.cell? ⟨u205.heap.size, 2, none⟩ = some (.int .i64 P) ∧ w'.cell? ⟨u205.heap.size, 3, none⟩ = some (.slice A205 z0.length c205)) ∧ w'.cell? ⟨w.heap.size, 0, none⟩ = some (.int .i64 W) ∧ w'.cell? ⟨w.heap.size, 1, none⟩ = some (.int .i64 H) ∧ w'.cell? ⟨w.heap.size, 2, none⟩ = some (.int .i64 P) ∧ w'.cell? ⟨w.heap.size, 3, none⟩ = some (.slice a0 z0.length cap0))
      (first | (with_reducible exact ⟨⟨k0, k1, k2, k3⟩, k4, k5, k6, k7⟩) | (with_reducible exact ⟨⟨d0, d1, d2, d3⟩, d4, d5, d6, d7⟩) | exact ⟨⟨x00, x01, x02, x03⟩, b0, b1, b2, b3⟩ | go_keep)
      (first | (go_at_call 23; refine (toImage_any W H P a0 cap0 z0 _ (by exact HS210.out.drew.1.arg HR.out) (by omega)).mono ?_; rintro e u210 ⟨v210, rfl, hO210, hB210⟩; obtain ⟨A210, c210, rfl, hc210⟩ := hO210.slice; obtain ⟨d0, d1, d2, d3⟩ := im_keep hB210 (by exact x0l) x00 x01 x02 x03; obtain ⟨d4, d5, d6, d7⟩ := im_keep hB210 (by exact bl) b0 b1 b2 b3; have hz210 := hB210.size; have x0m : u205.heap.size < u210.heap.size := Nat.lt_of_lt_of_le (show _ < u209.heap.size from x0l) hz210; have bm : w.heap.size < u210.heap.size := Nat.lt_of_lt_of_le (show _ < u209.heap.size from bl) hz210; have HT210 := Lib.hid (HS210.out.drew.add hO210 hB210); clear hO210 hB210) | (go_at_call 25; refine (eqImage_same W H P A205 A210 c205 c210 _ _ z0 _ rfl rfl (by exact HT210.out.1.rds (lo := u203.heap.size) (hi := u205.heap.size) (n := z0.length) (c := c205) (by simp)) (by exact HT210.out.1.rds (lo := u209.drew.heap.size) (hi := u210.heap.size) (n := z0.length) (c := c210) (by simp)) (by omega)).mono ?_; rintro e u211 ⟨rfl, hB211⟩; obtain ⟨k0, k1, k2, k3⟩ := im_keep hB211 (by exact x0m) d0 d1 d2 d3; obtain ⟨k4, k5, k6, k7⟩ := im_keep hB211 (by exact bm) d4 d5 d6 d7; have HT211 := Lib.hid (HT210.out.call hB211); clear hB211))
    clear d0 d1 d2 d3 d4 d5 d6 d7 k0 k1 k2 k3 k4 k5 k6 k7 x0m bm hz210
    clear x00 x01 x02 x03 x0l b0 b1 b2 b3 bl
    have S211 := HT211.out
    clear HT210 HT211 HS210 S209
    obtain ⟨x00, x01, x02, x03⟩ := S211.im (g := u205.heap.size) (T := 25) (X := W) (Y := H) (Z := P) (v := .slice A205 z0.length c205) (by simp)
    have x0l := S211.lt (g := u205.heap.size) (T := 25) (cs := imC W H P (.slice A205 z0.length c205)) (by simp)
    go_wp2_with fail
    refine (markImage_any W H P (.slice A205 z0.length c205) u203.heap.size (z0) 1 _ (S211.1.own ⟨u203.heap.size, u205.heap.size, .slice A205 z0.length c205, z0⟩ (by simp)) (by omega) (by omega) (by omega)).mono ?_
    rintro e u212 ⟨rfl, hO212, hG212⟩
    have S212 := ISt.mark (L1 := [⟨u209.drew.heap.size, u210.heap.size, .slice A210 z0.length c210, z0⟩, ⟨lo208, hi208, .slice A208 RX.length c208, RX⟩]) (t := ⟨u203.heap.size, u205.heap.size, .slice A205 z0.length c205, z0⟩) (L2 := [⟨lo203, hi203, .slice A203 RX.length c203, RX⟩, ⟨lo204, hi204, .slice A204 z0.length c204, z0⟩]) S211 hO212 hG212
    clear x00 x01 x02 x03 x0l
    clear hO212 hG212
    clear S211
    obtain ⟨g00, g01, g02, g03⟩ := S212.im (g := gb208) (T := 25) (X := R1) (Y := R2) (Z := R3) (v := .slice A208 RX.length c208) (by simp)
    have g0l := S212.lt (g := gb208) (T := 25) (cs := imC R1 R2 R3 (.slice A208 RX.length c208)) (by simp)
    obtain ⟨w00, w01, w02, w03⟩ := S212.im (g := gb203) (T := 25) (X := R1) (Y := R2) (Z := R3) (v := .slice A203 RX.length c203) (by simp)
    have w0l := S212.lt (g := gb203) (T := 25) (cs := imC R1 R2 R3 (.slice A203 RX.length c203)) (by simp)
    go_wp2_with fail
    refine (eqImage_same R1 R2 R3 A208 A203 c208 c203 _ _ RX _ rfl rfl (S212.1.rds (lo := lo208) (hi := hi208) (n := RX.length) (c := c208) (by simp)) (S212.1.rds (lo := lo203) (hi := hi203) (n := RX.length) (c := c203) (by simp)) (by omega)).mono ?_
    rintro e u213 ⟨rfl, hB213⟩
    have S213 := S212.call hB213
    clear g00 g01 g02 g03 g0l w00 w01 w02 w03 w0l
    clear hB213
    clear S212
    obtain ⟨g00, g01, g02, g03⟩ := S213.im (g := gb208) (T := 25) (X := R1) (Y := R2) (Z := R3) (v := .slice A208 RX.length c208) (by simp)
    have g0l := S213.lt (g := gb208) (T := 25) (cs := imC R1 R2 R3 (.slice A208 RX.length c208)) (by simp)
    go_wp2_with fail
    refine (markImage_any R1 R2 R3 (.slice A208 RX.length c208) lo208 (RX) 1 _ (S213.1.own ⟨lo208, hi208, .slice A208 RX.length c208, RX⟩ (by simp)) (by omega) (by omega) (by omega)).mono ?_
    rintro e u214 ⟨rfl, hO214, hG214⟩
    have S214 := ISt.mark (L1 := [⟨u209.drew.heap.size, u210.heap.size, .slice A210 z0.length c210, z0⟩]) (t := ⟨lo208, hi208, .slice A208 RX.length c208, RX⟩) (L2 := [⟨u203.heap.size, u205.heap.size, .slice A205 z0.length c205, marks 1 z0.length⟩, ⟨lo203, hi203, .slice A203 RX.length c203, RX⟩, ⟨lo204, hi204, .slice A204 z0.length c204, z0⟩]) S213 hO214 hG214
    clear g00 g01 g02 g03 g0l
    clear hO214 hG214
    clear S213
    obtain ⟨g00, g01, g02, g03⟩ := S214.im (g := gb208) (T := 25) (X := R1) (Y := R2) (Z := R3) (v := .slice A208 RX.length c208) (by simp)
    have g0l := S214.lt (g := gb208) (T := 25) (cs := imC R1 R2 R3 (.slice A208 RX.length c208)) (by simp)
    go_wp2_with fail
    refine (heldImage_any R1 R2 R3 A208 c208 RX.length 1 _ (S214.1.rds (lo := lo208) (hi := hi208) (n := RX.length) (c := c208) (by simp)) (by omega) (by omega) (by omega)).mono ?_
    rintro e u215 ⟨rfl, hB215⟩
    have S215 := S214.call hB215
    clear g00 g01 g02 g03 g0l
    clear hB215
    clear S214
    go_upto_region 24 with fail
    go_cut [14, 15] from 16 (fun s6 s7 wx => ∃ (gb lo2 hi2 : Nat) (A2 : Option Addr) (c2 : Nat) (lo1 hi1 : Nat) (A1 : Option Addr) (c1 : Nat), s6 = .pointer (some ⟨gb, 0, none⟩) ∧ s7 = .bool ok ∧ RX.length ≤ c2 ∧ z0.length ≤ c1 ∧ Hid (ISt w wx [⟨lo2, hi2, .slice A2 RX.length c2, RX⟩, ⟨lo1, hi1, .slice A1 z0.length c1, z0⟩, ⟨u209.drew.heap.size, u210.heap.size, .slice A210 z0.length c210, z0⟩, ⟨lo208, hi208, .slice A208 RX.length c208, marks 1 RX.length⟩, ⟨u203.heap.size, u205.heap.size, .slice A205 z0.length c205, marks 1 z0.length⟩, ⟨lo203, hi203, .slice A203 RX.length c203, RX⟩, ⟨lo204, hi204, .slice A204 z0.length c204, z0⟩] [⟨gb, 25, imC R1 R2 R3 (.slice A2 RX.length c2)⟩, ⟨gb208, 25, imC R1 R2 R3 (.slice A208 RX.length c208)⟩, ⟨u205.heap.size, 25, imC W H P (.slice A205 z0.length c205)⟩, ⟨gb203, 25, imC R1 R2 R3 (.slice A203 RX.length c203)⟩, ⟨(w.heap.size + 1), 40, #[.int .i64 bx, .int .i64 by_, .int .i64 bw, .int .i64 bh]⟩, ⟨w.heap.size, 39, imC W H P (.slice a0 z0.length cap0)⟩]))
    case first =>
      have HC := Lib.hid S215.drew
      clear S215
      go_region_held3 (fun w' => (w'.cell? ⟨w.heap.size, 0, none⟩ = some (.int .i64 W) ∧ w'.cell? ⟨w.heap.size, 1, none⟩ = some (.int .i64 H) ∧ w'.cell? ⟨w.heap.size, 2, none⟩ = some (.int .i64 P) ∧ w'.cell? ⟨w.heap.size, 3, none⟩ = some (.slice a0 z0.length cap0)) ∧ w'.cell? ⟨(w.heap.size + 1), 0, none⟩ = some (.int .i64 bx) ∧ w'.cell? ⟨(w.heap.size + 1), 1, none⟩ = some (.int .i64 by_) ∧ w'.cell? ⟨(w.heap.size + 1), 2, none⟩ = some (.int .i64 bw) ∧ w'.cell? ⟨(w.heap.size + 1), 3, none⟩ = some (.int .i64 bh)) (first | (with_reducible exact cells8 HC.out 39 40 (by simp [imC]) (by simp)) | (with_reducible exact cells8b HC.out 25 39 40 (by decide) (by simp [imC]) (by simp)) | (with_reducible exact cells8s HC.out HF.out 39 40 (by simp [imC]) (by simp)) | (exact cells8b HC.out 25 39 40 (by decide) (by simp [imC]) (by simp))) (first | (go_at_call 23; (refine (toImage_any W H P a0 cap0 z0 _ (by first | exact HC.out.1.arg HR.out | exact (ISt.box HC.out 25 (imC 0 0 0 (.slice none 0 0)) (by decide)).1.arg HR.out) (by omega)).mono ?_); rintro e uI ⟨vI, rfl, hOI, hBI⟩; obtain ⟨AI, cI, rfl, hcI⟩ := hOI.slice; (first | (have HD := Lib.hid (ISt.add HC.out hOI hBI)) | (have HF := Lib.hid (ISt.fresh HC.out (g := u215.heap.size) rfl); have HD := Lib.hid (ISt.add (ISt.box' HC.out 25 (imC 0 0 0 (.slice none 0 0)) (by decide) (u215.heap.size) rfl) hOI hBI)) | (have HF := Lib.hid (ISt.fresh HC.out (g := uI.heap.size) rfl); have HD := Lib.hid (ISt.add (ISt.box' HC.out 25 (imC 0 0 0 (.slice none 0 0)) (by decide) (uI.heap.size) rfl) hOI hBI)) | (have HF := Lib.hid (ISt.fresh HC.out (g := uB.heap.size) rfl); have HD := Lib.hid (ISt.add (ISt.box' HC.out 25 (imC 0 0 0 (.slice none 0 0)) (by decide) (uB.heap.size) rfl) hOI hBI))); clear hOI hBI; clear HC; have HC := HD; clear HD) | (go_at_call 24; (refine (toBox_any bx by_ bw bh _).mono ?_); rintro e uB ⟨rfl, hBB⟩; (first | (have HD := Lib.hid (ISt.call HC.out hBB)) | (have HF := Lib.hid (ISt.fresh HC.out (g := u215.heap.size) rfl); have HD := Lib.hid (ISt.call (ISt.box' HC.out 25 (imC 0 0 0 (.slice none 0 0)) (by decide) (u215.heap.size) rfl) hBB)) | (have HF := Lib.hid (ISt.fresh HC.out (g := uI.heap.size) rfl); have HD := Lib.hid (ISt.call (ISt.box' HC.out 25 (imC 0 0 0 (.slice none 0 0)) (by decide) (uI.heap.size) rfl) hBB)) | (have HF := Lib.hid (ISt.fresh HC.out (g := uB.heap.size) rfl); have HD := Lib.hid (ISt.call (ISt.box' HC.out 25 (imC 0 0 0 (.slice none 0 0)) (by decide) (uB.heap.size) rfl) hBB))); clear hBB; clear HC; have HC := HD; clear HD) | (go_at_call 14; (refine (HI.out AI cI _ (by first | exact HC.out.1.rds (List.Mem.head _) | exact (ISt.box HC.out 25 (imC 0 0 0 (.slice none 0 0)) (by decide)).1.rds (List.Mem.head _)) hcI).mono ?_); rintro e uC ⟨vC, rfl, hOC, hBC⟩; obtain ⟨AC, cC, rfl, hcC⟩ := hOC.slice; (first | (have HD := Lib.hid (ISt.add HC.out hOC hBC)) | (have HF := Lib.hid (ISt.fresh HC.out (g := u215.heap.size) rfl); have HD := Lib.hid (ISt.add (ISt.box' HC.out 25 (imC 0 0 0 (.slice none 0 0)) (by decide) (u215.heap.size) rfl) hOC hBC)) | (have HF := Lib.hid (ISt.fresh HC.out (g := uI.heap.size) rfl); have HD := Lib.hid (ISt.add (ISt.box' HC.out 25 (imC 0 0 0 (.slice none 0 0)) (by decide) (uI.heap.size) rfl) hOC hBC)) | (have HF := Lib.hid (ISt.fresh HC.out (g := uB.heap.size) rfl); have HD := Lib.hid (ISt.add (ISt.box' HC.out 25 (imC 0 0 0 (.slice none 0 0)) (by decide) (uB.heap.size) rfl) hOC hBC))); clear hOC hBC; clear HC; have HC := HD; clear HD; (try (have hzb := (HC.out.2 ⟨_, 25, (imC 0 0 0 (.slice none 0 0))⟩ (List.Mem.head _)).1; obtain ⟨zb0, zb1, zb2, zb3⟩ := hzb.im; have zf0 := hzb.fz 0; have zf1 := hzb.fz 1; have zf2 := hzb.fz 2; have zf3 := hzb.fz 3; clear hzb))))
      all_goals
        (go_wp2_with fail; go_meet; exact ⟨_, _, _, _, _, _, _, _, _, rfl, rfl, hcC, hcI, Lib.hid (by first | exact ISt.fill HC.out HF.out _ _ _ _ | exact HC.out.box 25 (imC R1 R2 R3 (.slice AC RX.length cC)) (by decide))⟩)
    case rest =>
    obtain ⟨gb217, lo217, hi217, A217, c217, lo218, hi218, A218, c218, rfl, rfl, hc217, hc218, HC⟩ := hcut
    have S217 := HC.out
    clear HC S215
    generalize wc = u217 at *
    obtain ⟨h00, h01, h02, h03⟩ := S217.im (g := gb217) (T := 25) (X := R1) (Y := R2) (Z := R3) (v := .slice A217 RX.length c217) (by simp)
    have h0l := S217.lt (g := gb217) (T := 25) (cs := imC R1 R2 R3 (.slice A217 RX.length c217)) (by simp)
    obtain ⟨w00, w01, w02, w03⟩ := S217.im (g := gb203) (T := 25) (X := R1) (Y := R2) (Z := R3) (v := .slice A203 RX.length c203) (by simp)
    have w0l := S217.lt (g := gb203) (T := 25) (cs := imC R1 R2 R3 (.slice A203 RX.length c203)) (by simp)
    go_wp2_with fail
    refine (eqImage_same R1 R2 R3 A217 A203 c217 c203 _ _ RX _ rfl rfl (S217.1.rds (lo := lo217) (hi := hi217) (n := RX.length) (c := c217) (by simp)) (S217.1.rds (lo := lo203) (hi := hi203) (n := RX.length) (c := c203) (by simp)) (by omega)).mono ?_
    rintro e u219 ⟨rfl, hB219⟩
    have S219 := S217.call hB219
    clear h00 h01 h02 h03 h0l w00 w01 w02 w03 w0l
    clear hB219
    clear S217
    obtain ⟨g00, g01, g02, g03⟩ := S219.im (g := gb208) (T := 25) (X := R1) (Y := R2) (Z := R3) (v := .slice A208 RX.length c208) (by simp)
    have g0l := S219.lt (g := gb208) (T := 25) (cs := imC R1 R2 R3 (.slice A208 RX.length c208)) (by simp)
    go_wp2_with fail
    refine (heldImage_any R1 R2 R3 A208 c208 RX.length 1 _ (S219.1.rds (lo := lo208) (hi := hi208) (n := RX.length) (c := c208) (by simp)) (by omega) (by omega) (by omega)).mono ?_
    rintro e u220 ⟨rfl, hB220⟩
    have S220 := S219.call hB220
    clear g00 g01 g02 g03 g0l
    clear hB220
    clear S219
    go_wp2
    go_ret
    exact ⟨rfl, S220.1.below⟩

/-! ### From the walk to the statement. -/
theorem own : ownKnob Try.prog.godebug = none := by kernel_rfl
theorem laidOut : laidOutB Try.prog = true := by kernel_rfl
set_option maxRecDepth 100000 in
theorem lifted (os : Os) (started : os.Started) (H : Type) (enc : TypeId × Value → H) :
    ReturnsInHanded {} Try.checked os 6 .any (Rows.fnExactCropImageSpec.pre6 enc Try.prog Try.f6 Rows.fnExactCropImageRow.domain false) (Rows.fnExactCropImageSpec.post enc Try.prog Try.f6 false true false false) := by
  refine returnsInHanded_of_change (C := Try.checked) own started (by kernel_rfl) Try.func6
    (ChangeSpec.witness6 (enc := enc) (C := Try.checked) false ⟨#[], #[.agg #[.int .i64 0, .int .i64 0, .int .i64 0, .slice none 0 0], .agg #[.int .i64 0, .int .i64 0, .int .i64 0, .int .i64 0]], []⟩ 8 (by kernel_rfl) (by kernel_rfl) (by kernel_rfl) (by kernel_rfl)) ?_
  intro W base args ds gs before hval0 hW hcnd _
  have hval : ∀ (j : Nat) t v, Try.f6.params[j]? = some t → args[j]? = some v → Value.okWide Try.prog W .any base t v := hval0
  have hW' := hW
  obtain ⟨p, q, hA0, hV, rfl, hfz, hnd⟩ := hW
  have hA : DataW.TrodAll enc Try.prog W 0 (fun _ => true) true Try.f6.params.toList args.toList ds p := hA0
  rw [Try.params6] at hA hval
  obtain ⟨v0, vs0, d0, ds0, p0, q0, hargs, rfl, rfl, h0, r0⟩ := trodAll_cons hA
  obtain ⟨v1, vs1, d1, ds1, p1, q1, rfl, rfl, rfl, h1, r1⟩ := trodAll_cons r0
  obtain ⟨rfl, rfl, rfl⟩ := trodAll_nil r1
  obtain rfl : args = #[v0, v1] := by cases args; simp_all
  obtain ⟨rfl, rfl⟩ := trodVars_none hV
  have k0 := h0
  have lt0 : ∀ x ∈ p0, x.block < W.heap.size := by obtain ⟨m, hm⟩ := k0; exact DataW.trod_lt m _ _ _ hm
  obtain ⟨x0a, x0b, x0c, x0d, y0a, y0b, y0c, y0d, m0, rfl, rfl, rfl, g0a, g0b, g0c, g0d⟩ := Joins.open_agg4 Try.underlying39 (by kernel_rfl) (by kernel_rfl) (hval 0 39 v0 rfl rfl) h0
  obtain ⟨n0a, e0a, rfl, f0a⟩ := DataW.trod_int Try.underlying3 g0a
  simp at e0a
  subst e0a
  obtain ⟨n0b, e0b, rfl, f0b⟩ := DataW.trod_int Try.underlying3 g0b
  simp at e0b
  subst e0b
  obtain ⟨n0c, e0c, rfl, f0c⟩ := DataW.trod_int Try.underlying3 g0c
  simp at e0c
  subst e0c
  obtain ⟨a0, cap0, z0, hv0, hc0, w0⟩ : ∃ (A : Option Addr) (c : Nat) (zs : List Int), x0d = .slice A zs.length c ∧ zs.length ≤ c ∧ Rdw .i64 W W.heap.size A zs := by
    rcases open_ints Try.underlying23 Try.underlying3 (by kernel_rfl) g0d with ⟨hcs, _⟩ | ⟨x, l, c, zs, hcs, _, hl, hm, hz, _, hcell, hwz⟩
    · simp at hcs
      exact ⟨none, 0, [], hcs, Nat.le_refl _, Rdw.nil⟩
    · simp at hcs
      have hzl : (zs.take l).length = l := by simp at hz ⊢; omega
      exact ⟨some x, c, zs.take l, by rw [hzl]; exact hcs, by rw [hzl]; exact hl, Rdw.of_row hl hm (by simpa using hz) hcell hwz⟩
  subst hv0
  have k1 := h1
  have lt1 : ∀ x ∈ p1, x.block < W.heap.size := by obtain ⟨m, hm⟩ := k1; exact DataW.trod_lt m _ _ _ hm
  obtain ⟨x1a, x1b, x1c, x1d, y1a, y1b, y1c, y1d, m1, rfl, rfl, rfl, g1a, g1b, g1c, g1d⟩ := Joins.open_agg4 Try.underlying40 (by kernel_rfl) (by kernel_rfl) (hval 1 40 v1 rfl rfl) h1
  obtain ⟨n1a, e1a, rfl, f1a⟩ := DataW.trod_int Try.underlying3 g1a
  simp at e1a
  subst e1a
  obtain ⟨n1b, e1b, rfl, f1b⟩ := DataW.trod_int Try.underlying3 g1b
  simp at e1b
  subst e1b
  obtain ⟨n1c, e1c, rfl, f1c⟩ := DataW.trod_int Try.underlying3 g1c
  simp at e1c
  subst e1c
  obtain ⟨n1d, e1d, rfl, f1d⟩ := DataW.trod_int Try.underlying3 g1d
  simp at e1d
  subst e1d
  clear hA0 hval0
  refine (walk W n0a n0b n0c a0 cap0 z0 hc0 w0 n1a n1b n1c n1d).mono fun e W' ⟨he, bel⟩ => ?_
  subst he
  exact ⟨_, rfl, _, _, _, [], _, [], hW', trodAll_mk1 (shut_bool Try.underlying4 _), (trodAll_cons_mk (Below.trod laidOut (by kernel_rfl) (of_decide_eq_true (by kernel_rfl)) k0 bel lt0) (trodAll_cons_mk (Below.trod laidOut (by kernel_rfl) (of_decide_eq_true (by kernel_rfl)) k1 bel lt1) trodAll_mk0)), rfl, bel.frame _, fun h => by cases h⟩

theorem over : Rows.fnExactCropImageRow.holds Try.pinned (OpenSpec.ofChange Rows.fnExactCropImageSpec) :=
  OpenClaim.holds_of_wide 6 Try.f6 rfl rfl rfl rfl rfl rfl rfl ⟨rfl, rfl, rfl, rfl, rfl⟩ rfl rfl rfl rfl rfl (by kernel_rfl) Try.func6 (by kernel_rfl)
    (of_decide_eq_true (by kernel_rfl)) (by unfold Func.isWrapper; first | (rw [if_pos (by decide +kernel)]; kernel_rfl) | (rw [if_neg (by decide +kernel)]; exact ⟨rfl, rfl⟩))
    (fun os started H enc _ => lifted os started H enc)

theorem proved : Rows.FnExactCropImageSaid := over
end Go.Proofs.Ytkamopjflonmcaa.fnExactCropImage
