/- Whatever the code: a masked image is what the model tells; masked by the whole grid it is the second image, and the second image masked by it is the second image. -/
import Derived.Test.YtklleaojhoklaaaRows
import Derived.WalkKit
import Derived.ProofKit
import Derived.OpenShut
import Derived.ShutString
import Derived.ChangeOld
import Derived.Below
import Derived.Test.YtklleaojhoklaaaMskI
import Derived.Test.YtklleaojhoklaaaMskS
import Derived.Test.YtklleaojhoklaaaMgB
import Derived.Test.YtklleaojhoklaaaDrawMsk3
import Derived.Deep.RegionHeld3
namespace Go.Proofs.Ytklleaojhoklaaa.fnMaskImage
open Go.ChangeShapes Go.WideShapes Go.ChangeAt Go.RowKit
open Go.ChangeMaps (open_string shut_string)
set_option linter.unusedVariables false

/-- Two images and runs that are read while calls go by. -/
def Thr (w : World) (A1 A2 A3 : Option Addr) (xs ys rs : List Int) (u : World) : Prop := Rds .i64 u u.heap.size A1 xs ∧ Rds .i64 u u.heap.size A2 ys ∧ Rds .i64 u u.heap.size A3 rs ∧ Below w.heap.size w u
theorem Thr.call {w u u' : World} {A1 A2 A3 : Option Addr} {xs ys rs : List Int} (h : Thr w A1 A2 A3 xs ys rs u) (hb : Below u.heap.size u u') : Thr w A1 A2 A3 xs ys rs u' :=
  ⟨(h.1.below hb).more hb.size, (h.2.1.below hb).more hb.size, (h.2.2.1.below hb).more hb.size, h.2.2.2.trans (hb.mono h.2.2.2.size)⟩
theorem rds_call {u u' : World} {A : Option Addr} {xs : List Int} (h : Rds .i64 u u.heap.size A xs) (hb : Below u.heap.size u u') : Rds .i64 u' u'.heap.size A xs := (h.below hb).more hb.size
theorem made_c {b : Bool} {W H P : Int} {L : List Int} {u w' : World} {e : Ending} (h : MadeIc b W H P L u e w') : ∃ A c, e = .returned (.tuple #[.agg #[.int .i64 (cond b W 0), .int .i64 (cond b H 0), .int .i64 (cond b P 0), .slice A (cond b L []).length c], .bool b]) ∧ (cond b L []).length ≤ c ∧ Rds .i64 w' w'.heap.size A (cond b L []) ∧ Below u.heap.size u w' := by
  obtain ⟨v, rfl, hO, hb⟩ := h
  obtain ⟨A, c, rfl, hc⟩ := hO.slice
  exact ⟨A, c, rfl, hc, hO.rds.2, hb⟩
structure ThB (w : World) (g h : Nat) (ca cb : Array Value) (A1 A2 A3 : Option Addr) (xs ys rs : List Int) (u : World) : Prop where
  ra : Rds .i64 u u.heap.size A1 xs
  rb : Rds .i64 u u.heap.size A2 ys
  rc : Rds .i64 u u.heap.size A3 rs
  xa : Bx u g 25 ca
  xb : Bx u h 25 cb
  be : Below w.heap.size w u
theorem bx_call {u u' : World} {b : Nat} {T : TypeId} {cs : Array Value} (h : Bx u b T cs) (hb : Below u.heap.size u u') : Bx u' b T cs := (hb.block b h.lt).trans h
theorem rds_alloc {u : World} {A : Option Addr} {xs : List Int} (h : Rds .i64 u u.heap.size A xs) (o : Obj) : Rds .i64 (u.alloc o) (u.alloc o).heap.size A xs := (h.alloc (Nat.le_refl _) o).more (by simp)
theorem ThB.call {w u u' : World} {g h : Nat} {ca cb : Array Value} {A1 A2 A3 : Option Addr} {xs ys rs : List Int} (t : ThB w g h ca cb A1 A2 A3 xs ys rs u) (hb : Below u.heap.size u u') : ThB w g h ca cb A1 A2 A3 xs ys rs u' :=
  ⟨rds_call t.ra hb, rds_call t.rb hb, rds_call t.rc hb, bx_call t.xa hb, bx_call t.xb hb, t.be.trans (hb.mono t.be.size)⟩
theorem ThB.alloc {w u : World} {g h : Nat} {ca cb : Array Value} {A1 A2 A3 : Option Addr} {xs ys rs : List Int} (t : ThB w g h ca cb A1 A2 A3 xs ys rs u) (o : Obj) : ThB w g h ca cb A1 A2 A3 xs ys rs (u.alloc o) :=
  ⟨rds_alloc t.ra o, rds_alloc t.rb o, rds_alloc t.rc o, t.xa.alloc o, t.xb.alloc o, t.be.alloc t.be.size o⟩
set_option maxHeartbeats 32000000 in
theorem walk (w : World) (a0 : Option Addr) (cap0 : Nat) (z0 : List Int) (hc0 : z0.length ≤ cap0) (w0 : Rdw .u8 w w.heap.size a0 z0) :
    Calls Try.prog 4 #[.slice a0 z0.length cap0] w fun e w' => e = .returned (.bool true) ∧ Below w.heap.size w w' := by
  have hm := w0.2.1
  unfold maxLen at hm
  by_cases hlen : 1048576 < z0.length
  · go_enter Try.func4, Try.ntmps4
    go_wp2
    go_ret
    exact ⟨rfl, Below.refl _ _⟩
  · have HD := Lib.hid (drawMask_any a0 cap0 z0 w hc0 w0)
    clear w0 hc0
    go_enter Try.func4, Try.ntmps4
    go_wp2_with fail
    refine HD.out.mono ?_
    rintro e w1 ⟨W, H, P, A1, c1, xs, W', H', P', A2, c2, ys, v, n, rs, rfl, ⟨hx1, hy1, hn⟩, hc1, hc2, hr1, hr2, hO, hb1⟩
    obtain ⟨A3, c3, rfl, hc3⟩ := hO.slice
    have HRL : Hid (rs.length = 3 * n) := Lib.hid (by have := hO.len; omega)
    have hr3 := hO.rds
    obtain ⟨u, hu⟩ : ∃ u, u = (w1.alloc (.cells #[.int .i64 W, .int .i64 H, .int .i64 P, .slice A1 xs.length c1] 25)).alloc (.cells #[.int .i64 W', .int .i64 H', .int .i64 P', .slice A2 ys.length c2] 25) := ⟨_, rfl⟩
    obtain ⟨bg, hbg⟩ : ∃ b, b = w1.heap.size := ⟨_, rfl⟩
    obtain ⟨bh, hbh⟩ : ∃ b, b = w1.heap.size + 1 := ⟨_, rfl⟩
    have HT1 : Hid (ThB w bg bh (imC W H P (.slice A1 xs.length c1)) (imC W' H' P' (.slice A2 ys.length c2)) A1 A2 A3 xs ys rs u) := Lib.hid (by
      rw [hu]
      have xb := Bx.new (w1.alloc (.cells #[.int .i64 W, .int .i64 H, .int .i64 P, .slice A1 xs.length c1] 25)) 25 (imC W' H' P' (.slice A2 ys.length c2))
      exact ⟨rds_alloc (rds_alloc hr1 _) _, rds_alloc (rds_alloc hr2 _) _, rds_alloc (rds_alloc hr3 _) _, by rw [hbg]; exact (Bx.new w1 _ _).alloc _, by rw [hbh]; simpa [imC] using xb, (hb1.alloc hb1.size _).alloc (by have := hb1.size; simp; omega) _⟩)
    obtain ⟨ok, hok⟩ : ∃ ok, ok = mskOk W H P xs W' H' P' ys rs n := ⟨_, rfl⟩
    obtain ⟨M, hM⟩ : ∃ M, M = mskL W.toNat H.toNat P.toNat xs ys rs n := ⟨_, rfl⟩
    obtain ⟨X, hX⟩ : ∃ X, X = cond ok W 0 := ⟨_, rfl⟩
    obtain ⟨Y, hY⟩ : ∃ X, X = cond ok H 0 := ⟨_, rfl⟩
    obtain ⟨Z, hZ⟩ : ∃ X, X = cond ok P 0 := ⟨_, rfl⟩
    obtain ⟨L, hL⟩ : ∃ X, X = cond ok M [] := ⟨_, rfl⟩
    have HI : Hid (∀ u, ThB w bg bh (imC W H P (.slice A1 xs.length c1)) (imC W' H' P' (.slice A2 ys.length c2)) A1 A2 A3 xs ys rs u → Calls Try.prog 14 #[.agg #[.int .i64 W, .int .i64 H, .int .i64 P, .slice A1 xs.length c1], .agg #[.int .i64 W', .int .i64 H', .int .i64 P', .slice A2 ys.length c2], .slice A3 n c3] u fun e w' => ∃ A c, e = .returned (.tuple #[.agg #[.int .i64 X, .int .i64 Y, .int .i64 Z, .slice A L.length c], .bool ok]) ∧ L.length ≤ c ∧ Rds .i64 w' w'.heap.size A L ∧ Below u.heap.size u w') := Lib.hid (fun u t => by
      rw [hX, hY, hZ, hL, hok, hM]; exact (i_MaskImage W H P W' H' P' A1 A2 A3 c1 c2 n c3 xs ys rs u t.ra (by omega) hc1 t.rb (by omega) hc2 t.rc HRL.out (by omega)).mono (fun e w' h => made_c h))
    have HS : Hid (∀ u, ThB w bg bh (imC W H P (.slice A1 xs.length c1)) (imC W' H' P' (.slice A2 ys.length c2)) A1 A2 A3 xs ys rs u → Calls Try.prog 15 #[.agg #[.int .i64 W, .int .i64 H, .int .i64 P, .slice A1 xs.length c1], .agg #[.int .i64 W', .int .i64 H', .int .i64 P', .slice A2 ys.length c2], .slice A3 n c3] u fun e w' => ∃ A c, e = .returned (.tuple #[.agg #[.int .i64 X, .int .i64 Y, .int .i64 Z, .slice A L.length c], .bool ok]) ∧ L.length ≤ c ∧ Rds .i64 w' w'.heap.size A L ∧ Below u.heap.size u w') := Lib.hid (fun u t => by
      rw [hX, hY, hZ, hL, hok, hM]; exact (s_MaskImage W H P W' H' P' A1 A2 A3 c1 c2 n c3 xs ys rs u t.ra (by omega) hc1 t.rb (by omega) hc2 t.rc HRL.out (by omega)).mono (fun e w' h => made_c h))
    have HQ : Hid (ok = true → (X = W ∧ Y = H ∧ Z = P ∧ L = M) ∧ (W = W' ∧ H = H' ∧ P = P') ∧ mskOk W H P xs W' H' P' ys (brL 0 0 16 16) (brN 0 0 16 16) = true ∧ mskL W.toNat H.toNat P.toNat xs ys (brL 0 0 16 16) (brN 0 0 16 16) = ys ∧
      mskOk W' H' P' ys W H P M rs n = true ∧ mskL W'.toNat H'.toNat P'.toNat ys M rs n = ys) := Lib.hid (fun h => by
        obtain ⟨k1, k2, k3, k4, k5, _⟩ := msk_law (hok.symm.trans h)
        rw [hX, hY, hZ, hL, h, hM]
        exact ⟨⟨rfl, rfl, rfl, rfl⟩, k1, k2, k3, k4, k5⟩)
    have hLl : L.length ≤ 1024 := by
      rw [hL]
      cases hk : ok
      · simp
      · rw [hM]; exact (msk_law (hok.symm.trans hk)).2.2.2.2.2
    have HU := Lib.hid hu
    have Hbg := Lib.hid hbg
    have Hbh := Lib.hid hbh
    clear hr1 hr2 hr3 hO hb1 hu hbg hbh hok hM hX hY hZ hL
    go_wp2_with fail
    rw [← HU.out, ← Hbh.out, ← Hbg.out]
    clear HU Hbg Hbh
    refine (HI.out u HT1.out).mono ?_
    rintro e w2 ⟨B1, d1, rfl, hd1, hq, hb⟩
    have HTc := Lib.hid (HT1.out.call hb)
    have HR := Lib.hid hq
    clear hb hq HT1 HI
    obtain ⟨u2, hu⟩ : ∃ x, x = w2.alloc (.cells #[.int .i64 X, .int .i64 Y, .int .i64 Z, .slice B1 L.length d1] 25) := ⟨_, rfl⟩
    obtain ⟨b2, hbk⟩ : ∃ b, b = w2.heap.size := ⟨_, rfl⟩
    have HT2 : Hid (ThB w bg bh (imC W H P (.slice A1 xs.length c1)) (imC W' H' P' (.slice A2 ys.length c2)) A1 A2 A3 xs ys rs u2) := Lib.hid (by rw [hu]; exact HTc.out.alloc _)
    clear HTc
    have HR_2 : Hid (Rds .i64 u2 u2.heap.size B1 L) := Lib.hid (by rw [hu]; exact rds_alloc HR.out _)
    clear HR
    have HX6 : Hid (Bx u2 b2 25 (imC X Y Z (.slice B1 L.length d1))) := Lib.hid (by rw [hu, hbk]; exact Bx.new _ _ _)
    have HU2 := Lib.hid hu
    have HBk2 := Lib.hid hbk
    clear hu hbk
    obtain ⟨a0, a1, a2, a3⟩ := HT2.out.xa.im
    obtain ⟨e0, e1, e2, e3⟩ := HT2.out.xb.im
    rw [HU2.out] at a0 a1 a2 a3 e0 e1 e2 e3
    go_wp2_with fail
    rw [← HU2.out, ← HBk2.out]
    clear HU2 HBk2 a0 a1 a2 a3 e0 e1 e2 e3
    refine (HS.out u2 HT2.out).mono ?_
    rintro e w3 ⟨B2, d2, rfl, hd2, hq, hb⟩
    have HTc := Lib.hid (HT2.out.call hb)
    have HR := Lib.hid (rds_call HR_2.out hb)
    have HS2 := Lib.hid hq
    have HX6' := Lib.hid (bx_call HX6.out hb)
    clear hb hq HT2 HS HR_2 HX6
    obtain ⟨u3, hu⟩ : ∃ x, x = w3.alloc (.cells #[.int .i64 X, .int .i64 Y, .int .i64 Z, .slice B2 L.length d2] 25) := ⟨_, rfl⟩
    obtain ⟨b3, hbk⟩ : ∃ b, b = w3.heap.size := ⟨_, rfl⟩
    have HT3 : Hid (ThB w bg bh (imC W H P (.slice A1 xs.length c1)) (imC W' H' P' (.slice A2 ys.length c2)) A1 A2 A3 xs ys rs u3) := Lib.hid (by rw [hu]; exact HTc.out.alloc _)
    clear HTc
    have HR_3 : Hid (Rds .i64 u3 u3.heap.size B1 L) := Lib.hid (by rw [hu]; exact rds_alloc HR.out _)
    clear HR
    have HS2_3 : Hid (Rds .i64 u3 u3.heap.size B2 L) := Lib.hid (by rw [hu]; exact rds_alloc HS2.out _)
    clear HS2
    have HX6'_3 : Hid (Bx u3 b2 25 (imC X Y Z (.slice B1 L.length d1))) := Lib.hid (by rw [hu]; exact HX6'.out.alloc _)
    clear HX6'
    have HX8 : Hid (Bx u3 b3 25 (imC X Y Z (.slice B2 L.length d2))) := Lib.hid (by rw [hu, hbk]; exact Bx.new _ _ _)
    have HU3 := Lib.hid hu
    have HBk3 := Lib.hid hbk
    clear hu hbk
    obtain ⟨a0, a1, a2, a3⟩ := HX6'_3.out.im
    obtain ⟨e0, e1, e2, e3⟩ := HX8.out.im
    rw [HU3.out] at a0 a1 a2 a3 e0 e1 e2 e3
    rw [HBk3.out] at e0 e1 e2 e3
    go_wp2_with fail
    rw [← HU3.out, ← HBk3.out]
    clear HU3 HBk3 a0 a1 a2 a3 e0 e1 e2 e3
    refine (lEqImg_same X Y Z B1 B2 d1 d2 _ _ L u3 rfl rfl HR_3.out HS2_3.out (by omega)).mono ?_
    rintro e w4 ⟨rfl, hb⟩
    have HT4 := Lib.hid (HT3.out.call hb)
    have HR4 := Lib.hid (rds_call HR_3.out hb)
    have HS4 := Lib.hid (rds_call HS2_3.out hb)
    have HX64 := Lib.hid (bx_call HX6'_3.out hb)
    have HX84 := Lib.hid (bx_call HX8.out hb)
    clear hb HT3 HR_3 HS2_3 HX6'_3 HX8
    cases ok
    · obtain ⟨a0, a1, a2, a3⟩ := HX64.out.im
      obtain ⟨e0, e1, e2, e3⟩ := HX84.out.im
      go_wp2_with fail
      refine (lEqImg_same X Y Z B1 B2 d1 d2 _ _ L w4 rfl rfl HR4.out HS4.out (by omega)).mono ?_
      rintro e w5 ⟨rfl, hb⟩
      have HB := Lib.hid (HT4.out.call hb).be
      clear hb HT4 HR4 HS4 HX64 HX84 a0 a1 a2 a3 e0 e1 e2 e3
      go_wp2
      go_ret
      exact ⟨rfl, HB.out⟩
    · obtain ⟨⟨rfl, rfl, rfl, rfl⟩, ⟨rfl, rfl, rfl⟩, k1, k2, k3, k4⟩ := HQ.out rfl
      have K1 := Lib.hid k1
      have K2 := Lib.hid k2
      have K3 := Lib.hid k3
      have K4 := Lib.hid k4
      clear k1 k2 k3 k4 HQ HX84 HS4
      go_wp2_with fail
      refine (i_BoxRegion 0 0 16 16 w4).mono ?_
      rintro e w5 ⟨v5, rfl, hO5, hb⟩
      obtain ⟨A5, c5, rfl, _⟩ := hO5.slice
      have hft : ftB 0 0 16 16 16 16 = true := by decide +kernel
      rw [hft]
      have h5L : (brL 0 0 16 16).length = 3 * brN 0 0 16 16 := by unfold brL; rw [brow_len]; omega
      have hN5 := brN_le 0 0 16 16
      have HT5 := Lib.hid (HT4.out.call hb)
      have HR5 := Lib.hid (rds_call HR4.out hb)
      have HX65 := Lib.hid (bx_call HX64.out hb)
      have HK : Hid (mskOk X Y Z xs X Y Z ys (brL 0 0 16 16) (brN 0 0 16 16) = true ∧ mskL X.toNat Y.toNat Z.toNat xs ys (brL 0 0 16 16) (brN 0 0 16 16) = ys) := Lib.hid ⟨K1.out, K2.out⟩
      have HW5 := Lib.hid hO5.rds
      have HL5 := Lib.hid h5L
      clear hO5 hb h5L HT4 HR4 HX64 K1 K2 hft
      generalize brL 0 0 16 16 = L5 at *
      generalize brN 0 0 16 16 = N5 at *
      obtain ⟨a0, a1, a2, a3⟩ := HT5.out.xa.im
      obtain ⟨e0, e1, e2, e3⟩ := HT5.out.xb.im
      go_wp2_with fail
      refine (i_MaskImage X Y Z X Y Z A1 A2 A5 c1 c2 N5 c5 xs ys L5 w5 HT5.out.ra (by omega) hc1 HT5.out.rb (by omega) hc2 HW5.out HL5.out (by omega)).mono ?_
      intro e w6 hI
      rw [HK.out.1, HK.out.2] at hI
      obtain ⟨B3, d3, rfl, hd3, hq, hb⟩ := made_c hI
      dsimp only [cond] at hd3 hq ⊢
      have HTc := Lib.hid (HT5.out.call hb)
      have HR := Lib.hid (rds_call HR5.out hb)
      have HV := Lib.hid hq
      have HX6 := Lib.hid (bx_call HX65.out hb)
      clear hI hq hb HT5 HR5 HX65 HW5 HL5 HK a0 a1 a2 a3 e0 e1 e2 e3
      obtain ⟨u6, hu⟩ : ∃ x, x = w6.alloc (.cells #[.int .i64 X, .int .i64 Y, .int .i64 Z, .slice B3 ys.length d3] 25) := ⟨_, rfl⟩
      obtain ⟨b6, hbk⟩ : ∃ b, b = w6.heap.size := ⟨_, rfl⟩
      have HT6 : Hid (ThB w bg bh (imC X Y Z (.slice A1 xs.length c1)) (imC X Y Z (.slice A2 ys.length c2)) A1 A2 A3 xs ys rs u6) := Lib.hid (by rw [hu]; exact HTc.out.alloc _)
      clear HTc
      have HR_6 : Hid (Rds .i64 u6 u6.heap.size B1 L) := Lib.hid (by rw [hu]; exact rds_alloc HR.out _)
      clear HR
      have HV_6 : Hid (Rds .i64 u6 u6.heap.size B3 ys) := Lib.hid (by rw [hu]; exact rds_alloc HV.out _)
      clear HV
      have HX6_6 : Hid (Bx u6 b2 25 (imC X Y Z (.slice B1 L.length d1))) := Lib.hid (by rw [hu]; exact HX6.out.alloc _)
      clear HX6
      have HX12 : Hid (Bx u6 b6 25 (imC X Y Z (.slice B3 ys.length d3))) := Lib.hid (by rw [hu, hbk]; exact Bx.new _ _ _)
      have HU6 := Lib.hid hu
      have HBk6 := Lib.hid hbk
      clear hu hbk
      obtain ⟨a0, a1, a2, a3⟩ := HT6.out.xb.im
      obtain ⟨e0, e1, e2, e3⟩ := HX6_6.out.im
      rw [HU6.out] at a0 a1 a2 a3 e0 e1 e2 e3
      go_wp2_with fail
      rw [← HU6.out, ← HBk6.out]
      clear HU6 HBk6 a0 a1 a2 a3 e0 e1 e2 e3
      refine (i_MaskImage X Y Z X Y Z A2 B1 A3 c2 d1 n c3 ys L rs u6 HT6.out.rb (by omega) hc2 HR_6.out (by omega) hd1 HT6.out.rc HRL.out (by omega)).mono ?_
      intro e w7 hI
      rw [K3.out, K4.out] at hI
      obtain ⟨B4, d4, rfl, hd4, hq, hb⟩ := made_c hI
      dsimp only [cond] at hd4 hq ⊢
      have HTc := Lib.hid (HT6.out.call hb)
      have HV := Lib.hid (rds_call HV_6.out hb)
      have HW := Lib.hid hq
      have HX12' := Lib.hid (bx_call HX12.out hb)
      clear hI hq hb HT6 HR_6 HV_6 HX6_6 HX12 K3 K4
      obtain ⟨u7, hu⟩ : ∃ x, x = w7.alloc (.cells #[.int .i64 X, .int .i64 Y, .int .i64 Z, .slice B4 ys.length d4] 25) := ⟨_, rfl⟩
      obtain ⟨b7, hbk⟩ : ∃ b, b = w7.heap.size := ⟨_, rfl⟩
      have HT7 : Hid (ThB w bg bh (imC X Y Z (.slice A1 xs.length c1)) (imC X Y Z (.slice A2 ys.length c2)) A1 A2 A3 xs ys rs u7) := Lib.hid (by rw [hu]; exact HTc.out.alloc _)
      clear HTc
      have HV_7 : Hid (Rds .i64 u7 u7.heap.size B3 ys) := Lib.hid (by rw [hu]; exact rds_alloc HV.out _)
      clear HV
      have HW_7 : Hid (Rds .i64 u7 u7.heap.size B4 ys) := Lib.hid (by rw [hu]; exact rds_alloc HW.out _)
      clear HW
      have HX12'_7 : Hid (Bx u7 b6 25 (imC X Y Z (.slice B3 ys.length d3))) := Lib.hid (by rw [hu]; exact HX12'.out.alloc _)
      clear HX12'
      have HX14 : Hid (Bx u7 b7 25 (imC X Y Z (.slice B4 ys.length d4))) := Lib.hid (by rw [hu, hbk]; exact Bx.new _ _ _)
      have HU7 := Lib.hid hu
      have HBk7 := Lib.hid hbk
      clear hu hbk
      obtain ⟨a0, a1, a2, a3⟩ := HT7.out.xb.im
      obtain ⟨e0, e1, e2, e3⟩ := HX12'_7.out.im
      rw [HU7.out] at a0 a1 a2 a3 e0 e1 e2 e3
      go_wp2_with fail
      rw [← HU7.out, ← HBk7.out]
      clear HU7 HBk7 a0 a1 a2 a3 e0 e1 e2 e3
      refine (lEqImg_same X Y Z B3 A2 d3 c2 _ _ ys u7 rfl rfl HV_7.out HT7.out.rb (by omega)).mono ?_
      rintro e w8 ⟨rfl, hb⟩
      have HT8 := Lib.hid (HT7.out.call hb)
      have HW8 := Lib.hid (rds_call HW_7.out hb)
      have HX148 := Lib.hid (bx_call HX14.out hb)
      clear hb HT7 HV_7 HW_7 HX12'_7 HX14
      obtain ⟨a0, a1, a2, a3⟩ := HT8.out.xb.im
      obtain ⟨e0, e1, e2, e3⟩ := HX148.out.im
      go_wp2_with fail
      refine (lEqImg_same X Y Z B4 A2 d4 c2 _ _ ys w8 rfl rfl HW8.out HT8.out.rb (by omega)).mono ?_
      rintro e w9 ⟨rfl, hb⟩
      have HB := Lib.hid (HT8.out.call hb).be
      clear hb HT8 HW8 HX148 a0 a1 a2 a3 e0 e1 e2 e3
      go_wp2
      go_ret
      exact ⟨rfl, HB.out⟩

/-! ### From the walk to the statement. -/
theorem own : ownKnob Try.prog.godebug = none := by kernel_rfl
theorem laidOut : laidOutB Try.prog = true := by kernel_rfl
set_option maxRecDepth 100000 in
theorem lifted (os : Os) (started : os.Started) (H : Type) (enc : TypeId × Value → H) :
    ReturnsInHanded {} Try.checked os 4 .any (Rows.fnMaskImageSpec.pre6 enc Try.prog Try.f4 Rows.fnMaskImageRow.domain false) (Rows.fnMaskImageSpec.post enc Try.prog Try.f4 false true false false) := by
  refine returnsInHanded_of_change (C := Try.checked) own started (by kernel_rfl) Try.func4
    (ChangeSpec.witness6 (enc := enc) (C := Try.checked) false ⟨#[], #[.slice none 0 0], []⟩ 8 (by kernel_rfl) (by kernel_rfl) (by kernel_rfl) (by kernel_rfl)) ?_
  intro W base args ds gs before hval0 hW hcnd _
  have hval : ∀ (j : Nat) t v, Try.f4.params[j]? = some t → args[j]? = some v → Value.okWide Try.prog W .any base t v := hval0
  have hW' := hW
  obtain ⟨p, q, hA0, hV, rfl, hfz, hnd⟩ := hW
  have hA : DataW.TrodAll enc Try.prog W 0 (fun _ => true) true Try.f4.params.toList args.toList ds p := hA0
  rw [Try.params4] at hA hval
  obtain ⟨v0, vs0, d0, ds0, p0, q0, hargs, rfl, rfl, h0, r0⟩ := trodAll_cons hA
  obtain ⟨rfl, rfl, rfl⟩ := trodAll_nil r0
  obtain rfl : args = #[v0] := by cases args; simp_all
  obtain ⟨rfl, rfl⟩ := trodVars_none hV
  obtain ⟨a0, len0, cap0, rfl⟩ := okWide_slice Try.underlying22 (hval 0 22 v0 rfl rfl)
  have k0 := h0
  have lt0 : ∀ x ∈ p0, x.block < W.heap.size := by obtain ⟨m, hm⟩ := k0; exact DataW.trod_lt m _ _ _ hm
  obtain ⟨z0, hl0, hc0, w0⟩ : ∃ zs : List Int, len0 = zs.length ∧ zs.length ≤ cap0 ∧ Rdw .u8 W W.heap.size a0 zs := by
    obtain ⟨fuel, hf⟩ := h0
    rcases open_ints Try.underlying22 Try.underlying5 (by kernel_rfl) hf with ⟨hcs, _⟩ | ⟨x, l, c, zs, hcs, _, hl, hm, hz, _, hcell, hwz⟩
    · simp [Value.cells] at hcs
      obtain ⟨rfl, rfl, rfl⟩ := hcs
      exact ⟨[], rfl, Nat.le_refl _, Rdw.nil⟩
    · simp [Value.cells] at hcs
      obtain ⟨rfl, rfl, rfl⟩ := hcs
      exact ⟨zs.take len0, by simp at hz ⊢; omega, by simp at hz ⊢; omega, Rdw.of_row hl hm (by simpa using hz) hcell hwz⟩
  subst hl0
  clear hA0 hval0
  refine (walk W a0 cap0 z0 hc0 w0).mono fun e W' ⟨he, bel⟩ => ?_
  subst he
  exact ⟨_, rfl, _, _, _, [], _, [], hW', trodAll_mk1 (shut_bool Try.underlying4 _), (trodAll_cons_mk (Below.trod laidOut (by kernel_rfl) (of_decide_eq_true (by kernel_rfl)) k0 bel lt0) trodAll_mk0), rfl, bel.frame _, fun h => by cases h⟩

theorem over : Rows.fnMaskImageRow.holds Try.pinned (OpenSpec.ofChange Rows.fnMaskImageSpec) :=
  OpenClaim.holds_of_wide 4 Try.f4 rfl rfl rfl rfl rfl rfl rfl ⟨rfl, rfl, rfl, rfl, rfl⟩ rfl rfl rfl rfl rfl (by kernel_rfl) Try.func4 (by kernel_rfl)
    (of_decide_eq_true (by kernel_rfl)) (by unfold Func.isWrapper; first | (rw [if_pos (by decide +kernel)]; kernel_rfl) | (rw [if_neg (by decide +kernel)]; exact ⟨rfl, rfl⟩))
    (fun os started H enc _ => lifted os started H enc)

theorem proved : Rows.FnMaskImageSaid := over
end Go.Proofs.Ytklleaojhoklaaa.fnMaskImage
