/- TileBoxes of the program answers what the model answers, for every image; it writes into no argument, and its answer owns its memory. -/
import Derived.Test.YtkamopjflonmcaaRows
import Derived.WalkKit
import Derived.ProofKit
import Derived.OpenShut
import Derived.ShutString
import Derived.ChangeOld
import Derived.Below
import Derived.Lib.SmallJoins
import Derived.Test.YtkamopjflonmcaaImgS
import Derived.Test.YtkamopjflonmcaaTileI
import Derived.Test.YtkamopjflonmcaaEqBoxS
namespace Go.Proofs.Ytkamopjflonmcaa.fnExactTileBoxes
open Go.ChangeShapes Go.WideShapes Go.ChangeAt Go.RowKit
open Go.ChangeMaps (open_string shut_string)
set_option linter.unusedVariables false

theorem OwnT.apart {E E' : TypeId} {C C' : Nat} {wa wb : World} {b0 b1 : Nat} {v0 v1 : Value} {n0 n1 : Nat} {x0 x1 : List Int} (h0 : OwnT E C wa b0 v0 n0 x0) (h1 : OwnT E' C' wb b1 v1 n1 x1) (hlt : wa.heap.size ≤ b1) : v0.ownBlock = none ∨ v0.ownBlock ≠ v1.ownBlock := by
  cases hv : v0.ownBlock with
  | none => exact .inl rfl
  | some k =>
    refine .inr fun e => ?_
    have a := (h0.lt k hv).2
    have b := (h1.lt k e.symm).1
    omega
theorem apart1 {E : TypeId} {C : Nat} {wa wb : World} {b0 b1 : Nat} {v0 v1 : Value} {n0 : Nat} {x0 x1 : List Int} (h0 : OwnT E C wa b0 v0 n0 x0) (h1 : Own wb b1 v1 x1) (hlt : wa.heap.size ≤ b1) : v0.ownBlock = none ∨ v0.ownBlock ≠ v1.ownBlock := by
  cases hv : v0.ownBlock with
  | none => exact .inl rfl
  | some k =>
    refine .inr fun e => ?_
    have a := (h0.lt k hv).2
    have b := (World.ownsRow.lt h1 k e.symm).1
    omega
theorem apart2 {E : TypeId} {C : Nat} {wa wb : World} {b0 b1 : Nat} {v0 v1 : Value} {n0 : Nat} {x0 x1 : List Int} (h0 : OwnT E C wa b0 v0 n0 x0) (h1 : Own wb b1 v1 x1) (hlt : wb.heap.size ≤ b0) : v0.ownBlock = none ∨ v0.ownBlock ≠ v1.ownBlock := by
  cases hv : v0.ownBlock with
  | none => exact .inl rfl
  | some k =>
    refine .inr fun e => ?_
    have a := (h0.lt k hv).1
    have b := (World.ownsRow.lt h1 k e.symm).2
    omega
theorem OwnT.drew {E : TypeId} {C : Nat} {w : World} {b : Nat} {v : Value} {n : Nat} {x : List Int} (h : OwnT E C w b v n x) : OwnT E C w.drew b v n x := h
/-- What this law asks of a function from an image to boxes. -/
def TFn (f : FuncId) (W H P : Int) (xs : List Int) (N : Nat) (L : List Int) : Prop :=
  ∀ (A : Option Addr) (c : Nat) (w : World), Rds .i64 w w.heap.size A xs → xs.length ≤ c → Calls Try.prog f #[.agg #[.int .i64 W, .int .i64 H, .int .i64 P, .slice A xs.length c]] w fun e w' => ∃ v, e = .returned v ∧ OwnT 27 4 w' w.heap.size v N L ∧ Below w.heap.size w w'
set_option maxRecDepth 20000
set_option maxHeartbeats 16000000 in
theorem walk (w : World) (W H P : Int) (a0 : Option Addr) (cap0 : Nat) (z0 : List Int) (hc0 : z0.length ≤ cap0) (w0 : Rdw .i64 w w.heap.size a0 z0) :
    Calls Try.prog 8 #[.agg #[.int .i64 W, .int .i64 H, .int .i64 P, .slice a0 z0.length cap0]] w fun e w' => e = .returned (.bool true) ∧ Below w.heap.size w w' := by
  have hm := w0.2.1
  unfold maxLen at hm
  have HR := Lib.hid w0.1
  clear w0
  by_cases hlen : 1048576 < z0.length
  · go_enter Try.func8, Try.ntmps8
    go_wp2_with fail
    refine (szImage_no W H P a0 cap0 z0 _ hlen (by omega)).mono ?_
    rintro e w1 ⟨rfl, hB⟩
    have HB := Lib.hid (((Below.refl w.heap.size w).alloc (Nat.le_refl _) _).trans (hB.mono (by simp <;> omega)))
    clear hB
    go_wp2
    go_ret
    exact ⟨rfl, HB.out⟩
  · obtain ⟨N, L, hN, HLn, HI, HS⟩ : ∃ (N : Nat) (L : List Int), N ≤ 16 ∧ Hid (L.length = N * 4) ∧ Hid (TFn 29 W H P z0 N L) ∧ Hid (TFn 28 W H P z0 N L) :=
      ⟨tN W H P z0, tL W H P z0, tN_le W H P z0, Lib.hid (tL_len W H P z0), Lib.hid (fun A c w hx _ => i_TileBoxes W H P A c z0 w hx (by omega)), Lib.hid (fun A c w hx _ => s_TileBoxes W H P A c z0 w hx (by omega))⟩
    have S0 : ISt w (w.alloc (.cells #[.int .i64 W, .int .i64 H, .int .i64 P, .slice a0 z0.length cap0] 39)) [] [⟨w.heap.size, 39, imC W H P (.slice a0 z0.length cap0)⟩] := ISt.start w 39 (imC W H P (.slice a0 z0.length cap0)) (by decide)
    have HZu : Hid (w.heap.size < (w.alloc (.cells #[.int .i64 W, .int .i64 H, .int .i64 P, .slice a0 z0.length cap0] 39)).heap.size) := Lib.hid (by simp)
    go_enter Try.func8, Try.ntmps8
    go_wp2_with fail
    generalize w.alloc (.cells #[.int .i64 W, .int .i64 H, .int .i64 P, .slice a0 z0.length cap0] 39) = u0 at *
    refine (szImage_any W H P a0 cap0 z0 u0 (by omega)).mono ?_
    rintro e u1 ⟨rfl, hB1⟩
    have S1 := S0.call hB1
    have HZ1 := Lib.hid hB1.size
    clear hB1
    clear S0
    obtain ⟨b0, b1, b2, b3⟩ := S1.im (g := w.heap.size) (T := 39) (X := W) (Y := H) (Z := P) (v := .slice a0 z0.length cap0) (by simp)
    have bl := S1.lt (g := w.heap.size) (T := 39) (cs := imC W H P (.slice a0 z0.length cap0)) (by simp)
    go_wp2_with fail
    refine (toImage_any W H P a0 cap0 z0 _ (S1.1.arg HR.out) (by omega)).mono ?_
    rintro e u2 ⟨v2, rfl, hO2, hB2⟩
    obtain ⟨A2, c2, rfl, hc2⟩ := hO2.slice
    have S2 := S1.add hO2 hB2
    have HO2 := Lib.hid hO2
    have HZ2 := Lib.hid hB2.size
    clear b0 b1 b2 b3 bl
    clear hO2 hB2
    clear S1
    go_wp2_with fail
    refine (HS.out A2 c2 _ (S2.1.rds (lo := u1.heap.size) (hi := u2.heap.size) (n := z0.length) (c := c2) (by simp)) hc2).mono ?_
    rintro e u3 ⟨v3, rfl, hQ3, hB3⟩
    obtain ⟨A3, c3, rfl, hc3⟩ := hQ3.slice
    have S3 := S2.call hB3
    have HZ3 := Lib.hid hB3.size
    have HQ3 := Lib.hid hQ3
    clear hQ3 hB3
    clear S2
    obtain ⟨b0, b1, b2, b3⟩ := S3.im (g := w.heap.size) (T := 39) (X := W) (Y := H) (Z := P) (v := .slice a0 z0.length cap0) (by simp)
    have bl := S3.lt (g := w.heap.size) (T := 39) (cs := imC W H P (.slice a0 z0.length cap0)) (by simp)
    go_wp2_with fail
    refine (toImage_any W H P a0 cap0 z0 _ (S3.1.arg HR.out) (by omega)).mono ?_
    rintro e u4 ⟨v4, rfl, hO4, hB4⟩
    obtain ⟨A4, c4, rfl, hc4⟩ := hO4.slice
    have S4 := S3.add hO4 hB4
    have HO4 := Lib.hid hO4
    have HZ4 := Lib.hid hB4.size
    have qs_4 := Lib.hid (HQ3.out.below hB4 (Nat.le_refl _))
    clear b0 b1 b2 b3 bl
    clear hO4 hB4
    clear S3
    have HQa := Lib.hid (qs_4.out.alloc (.cells #[.int .i64 W, .int .i64 H, .int .i64 P, .slice A4 z0.length c4] 25))
    have HZa : Hid (u4.heap.size ≤ (u4.alloc (.cells #[.int .i64 W, .int .i64 H, .int .i64 P, .slice A4 z0.length c4] 25)).heap.size) := Lib.hid (by simp)
    have S5 : ISt w (u4.alloc (.cells #[.int .i64 W, .int .i64 H, .int .i64 P, .slice A4 z0.length c4] 25)) [⟨u3.heap.size, u4.heap.size, .slice A4 z0.length c4, z0⟩, ⟨u1.heap.size, u2.heap.size, .slice A2 z0.length c2, z0⟩] [⟨u4.heap.size, 25, imC W H P (.slice A4 z0.length c4)⟩, ⟨w.heap.size, 39, imC W H P (.slice a0 z0.length cap0)⟩] := ISt.box S4 25 (imC W H P (.slice A4 z0.length c4)) (by decide)
    go_wp2_with fail
    clear S4
    generalize u4.alloc (.cells #[.int .i64 W, .int .i64 H, .int .i64 P, .slice A4 z0.length c4] 25) = u5 at *
    refine (HI.out A4 c4 _ (S5.1.rds (lo := u3.heap.size) (hi := u4.heap.size) (n := z0.length) (c := c4) (by simp)) hc4).mono ?_
    rintro e u6 ⟨v6, rfl, hQ6, hB6⟩
    obtain ⟨A6, c6, rfl, hc6⟩ := hQ6.slice
    have S6 := S5.call hB6
    have HZ6 := Lib.hid hB6.size
    have qs_6 := Lib.hid (HQa.out.below hB6 (Nat.le_refl _))
    have HQ6 := Lib.hid hQ6
    clear hQ6 hB6
    clear S5
    go_wp2_with fail
    refine (eqBoxS_same A6 A3 N c6 c3 L _ _ u6 HLn.out HQ6.out.rds qs_6.out.rds (Nat.le_refl _) (Nat.le_refl _) (by omega)).mono ?_
    rintro e u7 ⟨rfl, hB7⟩
    have S7 := S6.call hB7
    have qs_7 := Lib.hid (qs_6.out.below hB7 (Nat.le_refl _))
    have qg_7 := Lib.hid (HQ6.out.below hB7 (Nat.le_refl _))
    clear hB7
    clear S6
    obtain ⟨x00, x01, x02, x03⟩ := S7.im (g := u4.heap.size) (T := 25) (X := W) (Y := H) (Z := P) (v := .slice A4 z0.length c4) (by simp)
    have x0l := S7.lt (g := u4.heap.size) (T := 25) (cs := imC W H P (.slice A4 z0.length c4)) (by simp)
    obtain ⟨b0, b1, b2, b3⟩ := S7.im (g := w.heap.size) (T := 39) (X := W) (Y := H) (Z := P) (v := .slice a0 z0.length cap0) (by simp)
    have bl := S7.lt (g := w.heap.size) (T := 39) (cs := imC W H P (.slice a0 z0.length cap0)) (by simp)
    have HS8 := Lib.hid S7
    go_wp2
    go_region_held3 (fun w' => (w'.cell? ⟨u4.heap.size, 0, none⟩ = some (.int .i64 W) ∧ w'.cell? ⟨u4.heap.size, 1, none⟩ = some (.int .i64 H) ∧ w'.cell? ⟨u4.heap.size, 2, none⟩ = some (.int .i64 P) ∧ w'.cell? ⟨u4.heap.size, 3, none⟩ = some (.slice A4 z0.length c4)) ∧ w'.cell? ⟨w.heap.size, 0, none⟩ = some (.int .i64 W) ∧ w'.cell? ⟨w.heap.size, 1, none⟩ = some (.int .i64 H) ∧ w'.cell? ⟨w.heap.size, 2, none⟩ = some (.int .i64 P) ∧ w'.cell? ⟨w.heap.size, 3, none⟩ = some (.slice a0 z0.length cap0))
      (first | (with_reducible exact ⟨⟨k0, k1, k2, k3⟩, k4, k5, k6, k7⟩) | (with_reducible exact ⟨⟨d0, d1, d2, d3⟩, d4, d5, d6, d7⟩) | exact ⟨⟨x00, x01, x02, x03⟩, b0, b1, b2, b3⟩ | go_keep)
      (first | (go_at_call 23; refine (toImage_any W H P a0 cap0 z0 _ (by exact HS8.out.drew.1.arg HR.out) (by omega)).mono ?_; rintro e u8 ⟨v8, rfl, hO8, hB8⟩; obtain ⟨A8, c8, rfl, hc8⟩ := hO8.slice; obtain ⟨d0, d1, d2, d3⟩ := im_keep hB8 (by exact x0l) x00 x01 x02 x03; obtain ⟨d4, d5, d6, d7⟩ := im_keep hB8 (by exact bl) b0 b1 b2 b3; have hz8 := hB8.size; have x0m : u4.heap.size < u8.heap.size := Nat.lt_of_lt_of_le (show _ < u7.heap.size from x0l) hz8; have bm : w.heap.size < u8.heap.size := Nat.lt_of_lt_of_le (show _ < u7.heap.size from bl) hz8; have HT8 := Lib.hid (HS8.out.drew.add hO8 hB8); have HQs8 := Lib.hid ((OwnT.drew qs_7.out).below hB8 (Nat.le_refl _)); have HQg8 := Lib.hid ((OwnT.drew qg_7.out).below hB8 (Nat.le_refl _)); clear hO8 hB8) | (go_at_call 25; refine (eqImage_same W H P A4 A8 c4 c8 _ _ z0 _ rfl rfl (by exact HT8.out.1.rds (lo := u3.heap.size) (hi := u4.heap.size) (n := z0.length) (c := c4) (by simp)) (by exact HT8.out.1.rds (lo := u7.drew.heap.size) (hi := u8.heap.size) (n := z0.length) (c := c8) (by simp)) (by omega)).mono ?_; rintro e u9 ⟨rfl, hB9⟩; obtain ⟨k0, k1, k2, k3⟩ := im_keep hB9 (by exact x0m) d0 d1 d2 d3; obtain ⟨k4, k5, k6, k7⟩ := im_keep hB9 (by exact bm) d4 d5 d6 d7; have HT9 := Lib.hid (HT8.out.call hB9); have HQs9 := Lib.hid (HQs8.out.below hB9 (Nat.le_refl _)); have HQg9 := Lib.hid (HQg8.out.below hB9 (Nat.le_refl _)); clear hB9))
    clear d0 d1 d2 d3 d4 d5 d6 d7 k0 k1 k2 k3 k4 k5 k6 k7 x0m bm hz8
    clear x00 x01 x02 x03 x0l b0 b1 b2 b3 bl
    have S9 := HT9.out
    clear HT8 HT9 HS8 S7
    obtain ⟨x00, x01, x02, x03⟩ := S9.im (g := u4.heap.size) (T := 25) (X := W) (Y := H) (Z := P) (v := .slice A4 z0.length c4) (by simp)
    have x0l := S9.lt (g := u4.heap.size) (T := 25) (cs := imC W H P (.slice A4 z0.length c4)) (by simp)
    go_wp2_with fail
    refine (markImage_any W H P (.slice A4 z0.length c4) (u3.heap.size) z0 1 _ (S9.1.own ⟨u3.heap.size, u4.heap.size, .slice A4 z0.length c4, z0⟩ (by simp)) (by omega) (by omega) (by omega)).mono ?_
    rintro e u10 ⟨rfl, hO10, hG10⟩
    have S10 := ISt.mark (L1 := [⟨u7.drew.heap.size, u8.heap.size, .slice A8 z0.length c8, z0⟩]) (t := ⟨u3.heap.size, u4.heap.size, .slice A4 z0.length c4, z0⟩) (L2 := [⟨u1.heap.size, u2.heap.size, .slice A2 z0.length c2, z0⟩]) S9 hO10 hG10
    have HQs10 := Lib.hid (HQs9.out.kept hG10 (apart1 HQ3.out HO4.out (Nat.le_refl _)))
    have HQg10 := Lib.hid (HQg9.out.kept hG10 (apart2 HQ6.out HO4.out HZa.out))
    clear x00 x01 x02 x03 x0l
    clear hO10 hG10
    clear S9
    go_wp2_with fail
    refine (eqBoxS_same A6 A3 N c6 c3 L _ _ u10 HLn.out HQg10.out.rds HQs10.out.rds (Nat.le_refl _) (Nat.le_refl _) (by omega)).mono ?_
    rintro e u11 ⟨rfl, hB11⟩
    have S11 := S10.call hB11
    have qs_11 := Lib.hid (HQs10.out.below hB11 (Nat.le_refl _))
    have qg_11 := Lib.hid (HQg10.out.below hB11 (Nat.le_refl _))
    clear hB11
    clear S10
    have HBb : Hid (Bx u11 w.heap.size 39 (imC W H P (.slice a0 z0.length cap0))) := Lib.hid (S11.2 ⟨w.heap.size, 39, imC W H P (.slice a0 z0.length cap0)⟩ (by simp)).1
    have HBe : Hid (Below w.heap.size w u11) := Lib.hid S11.1.below
    have HZb : Hid (w.heap.size < u5.heap.size) := Lib.hid (by have := HZu.out; have := HZ1.out; have := HZ2.out; have := HZ3.out; have := HZ4.out; have := HZa.out; omega)
    go_wp2_with fail
    refine (markBoxS_any _ u5.heap.size N L 1 u11 qg_11.out (by omega) (by omega) (by omega)).mono ?_
    rintro e u12 ⟨rfl, hM12, hG12, hz12⟩
    have HK : Hid (∀ k, (Value.slice A6 N c6).ownBlock = some k → w.heap.size < k) := Lib.hid (fun k hk => by have := (qg_11.out.lt k hk).1; have := HZb.out; omega)
    have HBb2 := Lib.hid (HBb.out.kept hG12 (fun e => by have := HK.out _ e.symm; omega))
    have HBe2 := Lib.hid (HBe.out.grown hG12 HBe.out.size (fun k hk => by have := HK.out k hk; omega))
    have HM12 := Lib.hid hM12
    have HQs12 := Lib.hid (qs_11.out.kept hG12 (OwnT.apart HQ3.out HQ6.out (by have := HZ4.out; have := HZa.out; omega)))
    clear hM12 hG12 hz12 HBb HBe S11
    generalize hQq : (1 : Int) + ((N * 4 : Nat) : Int) = Qq
    have hQ0 : ¬ Qq < 0 := by omega
    have HQq := Lib.hid hQq
    clear hQq
    go_wp2_with fail
    refine (heldBoxS_any A6 N c6 u12.heap.size 1 u12 HM12.out.rds (by omega) (by omega) (by omega)).mono ?_
    rintro e w' ⟨rfl, rfl⟩
    rw [HQq.out]
    obtain ⟨b0, b1, b2, b3⟩ := HBb2.out.im
    go_wp2_with fail
    refine (toImage_any W H P a0 cap0 z0 _ ((HR.out.below HBe2.out).more HBe2.out.size) (by omega)).mono ?_
    rintro e u13 ⟨v13, rfl, hO13, hB13⟩
    obtain ⟨A13, c13, rfl, hc13⟩ := hO13.slice
    have HM13 := Lib.hid (HM12.out.below hB13 (Nat.le_refl _))
    have HQs13 := Lib.hid (HQs12.out.below hB13 (Nat.le_refl _))
    have HBe13 := Lib.hid (HBe2.out.trans (hB13.mono HBe2.out.size))
    have hr13 := hO13.rds.2
    have HR13 := Lib.hid hr13
    clear b0 b1 b2 b3 hO13 hB13 hr13
    go_wp2_with fail
    refine (HI.out A13 c13 _ HR13.out hc13).mono ?_
    rintro e u14 ⟨v14, rfl, hQ14, hB14⟩
    obtain ⟨A14, c14, rfl, hc14⟩ := hQ14.slice
    have HQ14 := Lib.hid hQ14
    have HM14 := Lib.hid (HM13.out.below hB14 (Nat.le_refl _))
    have HQs14 := Lib.hid (HQs13.out.below hB14 (Nat.le_refl _))
    have HBe14 := Lib.hid (HBe13.out.trans (hB14.mono HBe13.out.size))
    clear hQ14 hB14
    go_wp2_with fail
    refine (eqBoxS_same A14 A3 N c14 c3 L _ _ u14 HLn.out HQ14.out.rds HQs14.out.rds (Nat.le_refl _) (Nat.le_refl _) (by omega)).mono ?_
    rintro e u15 ⟨rfl, hB15⟩
    have HM15 := Lib.hid (HM14.out.below hB15 (Nat.le_refl _))
    have HBe15 := Lib.hid (HBe14.out.trans (hB15.mono HBe14.out.size))
    clear hB15
    go_wp2_with fail
    refine (heldBoxS_any A6 N c6 u15.heap.size 1 u15 HM15.out.rds (by omega) (by omega) (by omega)).mono ?_
    rintro e w' ⟨rfl, rfl⟩
    rw [HQq.out]
    go_wp2
    go_ret
    exact ⟨rfl, HBe15.out⟩

/-! ### From the walk to the statement. -/
theorem own : ownKnob Try.prog.godebug = none := by kernel_rfl
theorem laidOut : laidOutB Try.prog = true := by kernel_rfl
set_option maxRecDepth 100000 in
theorem lifted (os : Os) (started : os.Started) (H : Type) (enc : TypeId × Value → H) :
    ReturnsInHanded {} Try.checked os 8 .any (Rows.fnExactTileBoxesSpec.pre6 enc Try.prog Try.f8 Rows.fnExactTileBoxesRow.domain false) (Rows.fnExactTileBoxesSpec.post enc Try.prog Try.f8 false true false false) := by
  refine returnsInHanded_of_change (C := Try.checked) own started (by kernel_rfl) Try.func8
    (ChangeSpec.witness6 (enc := enc) (C := Try.checked) false ⟨#[], #[.agg #[.int .i64 0, .int .i64 0, .int .i64 0, .slice none 0 0]], []⟩ 8 (by kernel_rfl) (by kernel_rfl) (by kernel_rfl) (by kernel_rfl)) ?_
  intro W base args ds gs before hval0 hW hcnd _
  have hval : ∀ (j : Nat) t v, Try.f8.params[j]? = some t → args[j]? = some v → Value.okWide Try.prog W .any base t v := hval0
  have hW' := hW
  obtain ⟨p, q, hA0, hV, rfl, hfz, hnd⟩ := hW
  have hA : DataW.TrodAll enc Try.prog W 0 (fun _ => true) true Try.f8.params.toList args.toList ds p := hA0
  rw [Try.params8] at hA hval
  obtain ⟨v0, vs0, d0, ds0, p0, q0, hargs, rfl, rfl, h0, r0⟩ := trodAll_cons hA
  obtain ⟨rfl, rfl, rfl⟩ := trodAll_nil r0
  obtain rfl : args = #[v0] := by cases args; simp_all
  obtain ⟨rfl, rfl⟩ := trodVars_none hV
  have k0 := h0
  have lt0 : ∀ x ∈ p0, x.block < W.heap.size := by obtain ⟨m, hm⟩ := k0; exact DataW.trod_lt m _ _ _ hm
  obtain ⟨x0a, x0b, x0c, x0d, y0a, y0b, y0c, y0d, m0, rfl, rfl, rfl, g0a, g0b, g0c, g0d⟩ := Joins.open_agg4 Try.underlying39 (by kernel_rfl) (by kernel_rfl) (hval 0 39 v0 rfl rfl) h0
  obtain ⟨n0a, e0a, rfl, f0a⟩ := DataW.trod_int Try.underlying3 g0a
  simp at e0a
  subst e0a
  obtain ⟨n0b, e0b, rfl, f0b⟩ := DataW.trod_int Try.underlying3 g0b
  simp at e0b
  subst e0b
  obtain ⟨n0c, e0c, rfl, f0c⟩ := DataW.trod_int Try.underlying3 g0c
  simp at e0c
  subst e0c
  obtain ⟨a0, cap0, z0, hv0, hc0, w0⟩ : ∃ (A : Option Addr) (c : Nat) (zs : List Int), x0d = .slice A zs.length c ∧ zs.length ≤ c ∧ Rdw .i64 W W.heap.size A zs := by
    rcases open_ints Try.underlying23 Try.underlying3 (by kernel_rfl) g0d with ⟨hcs, _⟩ | ⟨x, l, c, zs, hcs, _, hl, hm, hz, _, hcell, hwz⟩
    · simp at hcs
      exact ⟨none, 0, [], hcs, Nat.le_refl _, Rdw.nil⟩
    · simp at hcs
      have hzl : (zs.take l).length = l := by simp at hz ⊢; omega
      exact ⟨some x, c, zs.take l, by rw [hzl]; exact hcs, by rw [hzl]; exact hl, Rdw.of_row hl hm (by simpa using hz) hcell hwz⟩
  subst hv0
  clear hA0 hval0
  refine (walk W n0a n0b n0c a0 cap0 z0 hc0 w0).mono fun e W' ⟨he, bel⟩ => ?_
  subst he
  exact ⟨_, rfl, _, _, _, [], _, [], hW', trodAll_mk1 (shut_bool Try.underlying4 _), (trodAll_cons_mk (Below.trod laidOut (by kernel_rfl) (of_decide_eq_true (by kernel_rfl)) k0 bel lt0) trodAll_mk0), rfl, bel.frame _, fun h => by cases h⟩

theorem over : Rows.fnExactTileBoxesRow.holds Try.pinned (OpenSpec.ofChange Rows.fnExactTileBoxesSpec) :=
  OpenClaim.holds_of_wide 8 Try.f8 rfl rfl rfl rfl rfl rfl rfl ⟨rfl, rfl, rfl, rfl, rfl⟩ rfl rfl rfl rfl rfl (by kernel_rfl) Try.func8 (by kernel_rfl)
    (of_decide_eq_true (by kernel_rfl)) (by unfold Func.isWrapper; first | (rw [if_pos (by decide +kernel)]; kernel_rfl) | (rw [if_neg (by decide +kernel)]; exact ⟨rfl, rfl⟩))
    (fun os started H enc _ => lifted os started H enc)

theorem proved : Rows.FnExactTileBoxesSaid := over
end Go.Proofs.Ytkamopjflonmcaa.fnExactTileBoxes
