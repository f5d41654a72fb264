/- Whatever the code: a masked image is what the model tells; masked by the changed pixels it is the second image. -/
import Derived.Test.YtlmpkanlfhjijaaRows
import Derived.WalkKit
import Derived.ProofKit
import Derived.OpenShut
import Derived.ShutString
import Derived.ChangeOld
import Derived.Below
import Derived.Test.YtlmpkanlfhjijaaMskI
import Derived.Test.YtlmpkanlfhjijaaMskS
import Derived.Test.YtlmpkanlfhjijaaMgB
import Derived.Test.YtlmpkanlfhjijaaDrawMsk3
import Derived.Test.YtlmpkanlfhjijaaChiM
import Derived.Deep.RegionHeld3
namespace Go.Proofs.Ytlmpkanlfhjijaa.fnMaskImageChanged
open Go.ChangeShapes Go.WideShapes Go.ChangeAt Go.RowKit
open Go.ChangeMaps (open_string shut_string)
set_option linter.unusedVariables false

/-- Two images and runs that are read while calls go by. -/
def Thr (w : World) (A1 A2 A3 : Option Addr) (xs ys rs : List Int) (u : World) : Prop := Rds .i64 u u.heap.size A1 xs ∧ Rds .i64 u u.heap.size A2 ys ∧ Rds .i64 u u.heap.size A3 rs ∧ Below w.heap.size w u
theorem Thr.call {w u u' : World} {A1 A2 A3 : Option Addr} {xs ys rs : List Int} (h : Thr w A1 A2 A3 xs ys rs u) (hb : Below u.heap.size u u') : Thr w A1 A2 A3 xs ys rs u' :=
  ⟨(h.1.below hb).more hb.size, (h.2.1.below hb).more hb.size, (h.2.2.1.below hb).more hb.size, h.2.2.2.trans (hb.mono h.2.2.2.size)⟩
theorem rds_call {u u' : World} {A : Option Addr} {xs : List Int} (h : Rds .i64 u u.heap.size A xs) (hb : Below u.heap.size u u') : Rds .i64 u' u'.heap.size A xs := (h.below hb).more hb.size
theorem made_c {b : Bool} {W H P : Int} {L : List Int} {u w' : World} {e : Ending} (h : MadeIc b W H P L u e w') : ∃ A c, e = .returned (.tuple #[.agg #[.int .i64 (cond b W 0), .int .i64 (cond b H 0), .int .i64 (cond b P 0), .slice A (cond b L []).length c], .bool b]) ∧ (cond b L []).length ≤ c ∧ Rds .i64 w' w'.heap.size A (cond b L []) ∧ Below u.heap.size u w' := by
  obtain ⟨v, rfl, hO, hb⟩ := h
  obtain ⟨A, c, rfl, hc⟩ := hO.slice
  exact ⟨A, c, rfl, hc, hO.rds.2, hb⟩
structure ThB (w : World) (g h : Nat) (ca cb : Array Value) (A1 A2 A3 : Option Addr) (xs ys rs : List Int) (u : World) : Prop where
  ra : Rds .i64 u u.heap.size A1 xs
  rb : Rds .i64 u u.heap.size A2 ys
  rc : Rds .i64 u u.heap.size A3 rs
  xa : Bx u g 25 ca
  xb : Bx u h 25 cb
  be : Below w.heap.size w u
theorem bx_call {u u' : World} {b : Nat} {T : TypeId} {cs : Array Value} (h : Bx u b T cs) (hb : Below u.heap.size u u') : Bx u' b T cs := (hb.block b h.lt).trans h
theorem rds_alloc {u : World} {A : Option Addr} {xs : List Int} (h : Rds .i64 u u.heap.size A xs) (o : Obj) : Rds .i64 (u.alloc o) (u.alloc o).heap.size A xs := (h.alloc (Nat.le_refl _) o).more (by simp)
theorem ThB.call {w u u' : World} {g h : Nat} {ca cb : Array Value} {A1 A2 A3 : Option Addr} {xs ys rs : List Int} (t : ThB w g h ca cb A1 A2 A3 xs ys rs u) (hb : Below u.heap.size u u') : ThB w g h ca cb A1 A2 A3 xs ys rs u' :=
  ⟨rds_call t.ra hb, rds_call t.rb hb, rds_call t.rc hb, bx_call t.xa hb, bx_call t.xb hb, t.be.trans (hb.mono t.be.size)⟩
theorem ThB.alloc {w u : World} {g h : Nat} {ca cb : Array Value} {A1 A2 A3 : Option Addr} {xs ys rs : List Int} (t : ThB w g h ca cb A1 A2 A3 xs ys rs u) (o : Obj) : ThB w g h ca cb A1 A2 A3 xs ys rs (u.alloc o) :=
  ⟨rds_alloc t.ra o, rds_alloc t.rb o, rds_alloc t.rc o, t.xa.alloc o, t.xb.alloc o, t.be.alloc t.be.size o⟩
theorem ThB.drew {w u : World} {g h : Nat} {ca cb : Array Value} {A1 A2 A3 : Option Addr} {xs ys rs : List Int} (t : ThB w g h ca cb A1 A2 A3 xs ys rs u) : ThB w g h ca cb A1 A2 A3 xs ys rs u.drew :=
  ⟨t.ra, t.rb, t.rc, t.xa, t.xb, t.be.drew⟩
theorem ThB.set4 {w u u4 : World} {g h z : Nat} {ca cb : Array Value} {A1 A2 A3 : Option Addr} {xs ys rs : List Int} (t : ThB w g h ca cb A1 A2 A3 xs ys rs u) (t4 : ThB w g h ca cb A1 A2 A3 xs ys rs u4) (hz : u4.heap.size ≤ z) (v0 v1 v2 v3 : Value) : ThB w g h ca cb A1 A2 A3 xs ys rs (s4 u z v0 v1 v2 v3) := by
  have hw := t4.be.size
  have hg := t4.xa.lt
  have hh := t4.xb.lt
  have hwz : w.heap.size ≤ z := Nat.le_trans hw hz
  exact ⟨s4_rds2 t.ra t4.ra hz (Nat.le_refl _) _ _ _ _, s4_rds2 t.rb t4.rb hz (Nat.le_refl _) _ _ _ _, s4_rds2 t.rc t4.rc hz (Nat.le_refl _) _ _ _ _, s4_bx t.xa (Nat.ne_of_lt (Nat.lt_of_lt_of_le hg hz)) _ _ _ _, s4_bx t.xb (Nat.ne_of_lt (Nat.lt_of_lt_of_le hh hz)) _ _ _ _, (((t.be.setCell hwz v0).setCell hwz v1).setCell hwz v2).setCell hwz v3⟩
theorem im8 {w u : World} {g h : Nat} {X Y Z X' Y' Z' : Int} {v v' : Value} {A1 A2 A3 : Option Addr} {xs ys rs : List Int} (t : ThB w g h (imC X Y Z v) (imC X' Y' Z' v') A1 A2 A3 xs ys rs u) :
    u.cell? ⟨g, 0, none⟩ = some (.int .i64 X) ∧ u.cell? ⟨g, 1, none⟩ = some (.int .i64 Y) ∧ u.cell? ⟨g, 2, none⟩ = some (.int .i64 Z) ∧ u.cell? ⟨g, 3, none⟩ = some v ∧ u.cell? ⟨h, 0, none⟩ = some (.int .i64 X') ∧ u.cell? ⟨h, 1, none⟩ = some (.int .i64 Y') ∧ u.cell? ⟨h, 2, none⟩ = some (.int .i64 Z') ∧ u.cell? ⟨h, 3, none⟩ = some v' := by
  obtain ⟨a0, a1, a2, a3⟩ := t.xa.im
  obtain ⟨b0, b1, b2, b3⟩ := t.xb.im
  exact ⟨a0, a1, a2, a3, b0, b1, b2, b3⟩
theorem imz {u : World} {z : Nat} (h : Bx u z 25 #[.int .i64 0, .int .i64 0, .int .i64 0, .slice none 0 0]) : u.cell? ⟨z, 0, none⟩ = some (.int .i64 0) ∧ u.cell? ⟨z, 1, none⟩ = some (.int .i64 0) ∧ u.cell? ⟨z, 2, none⟩ = some (.int .i64 0) ∧ u.cell? ⟨z, 3, none⟩ = some (.slice none 0 0) := Bx.im (show Bx u z 25 (imC 0 0 0 (.slice none 0 0)) from h)
/-- Masking by the changed pixels. -/
theorem msk_chg {W H P W' H' P' : Int} {xs ys rs : List Int} {n : Nat} (h : mskOk W H P xs W' H' P' ys rs n = true) :
    (W = W' ∧ H = H' ∧ P = P') ∧ cmpB W H P xs W' H' P' ys = true ∧ mskOk W H P xs W' H' P' ys (rnL (chG W.toNat H.toNat P.toNat xs ys)) (rnN (chG W.toNat H.toNat P.toNat xs ys)) = true ∧ mskL W.toNat H.toNat P.toNat xs ys (rnL (chG W.toNat H.toNat P.toNat xs ys)) (rnN (chG W.toNat H.toNat P.toNat xs ys)) = ys := by
  unfold mskOk at h
  rw [Bool.and_eq_true] at h
  obtain ⟨hc, _⟩ := h
  have hr : regB (rnL (chG W.toNat H.toNat P.toNat xs ys)) (rnN (chG W.toNat H.toNat P.toNat xs ys)) = true := regB_yes (rnL_reg _)
  have h1 : mskOk W H P xs W' H' P' ys (rnL (chG W.toNat H.toNat P.toNat xs ys)) (rnN (chG W.toNat H.toNat P.toNat xs ys)) = true := by unfold mskOk; rw [hc, hr]; rfl
  refine ⟨?_, hc, h1, ?_⟩
  · obtain ⟨w, h, p, rfl, rfl, rfl, rfl, rfl, rfl, _⟩ := cmpB_nat hc
    exact ⟨rfl, rfl, rfl⟩
  · obtain ⟨w, h, p, rfl, rfl, rfl, rfl, rfl, rfl, ⟨w0, w1⟩, ⟨h0, h1⟩, ⟨p0, p1⟩, hl, hl', hb, hb'⟩ := cmpB_nat hc
    simp only [Int.toNat_natCast]
    refine msk_to hl' (fun x y q hx hy hq hn => ?_)
    rw [rnL_has _ (by omega) (by omega)] at hn
    unfold chG chF at hn
    rw [decide_eq_true hx, decide_eq_true hy] at hn
    simp only [Bool.true_and, Bool.not_eq_false', decide_eq_true_eq] at hn
    have a : (pxl w p xs x y).getD q 0 = (pxl w p ys x y).getD q 0 := by rw [hn]
    rwa [pxl_get _ _ _ _ _ _ hq, pxl_get _ _ _ _ _ _ hq] at a
set_option maxHeartbeats 32000000 in
theorem walk (w : World) (a0 : Option Addr) (cap0 : Nat) (z0 : List Int) (hc0 : z0.length ≤ cap0) (w0 : Rdw .u8 w w.heap.size a0 z0) :
    Calls Try.prog 7 #[.slice a0 z0.length cap0] w fun e w' => e = .returned (.bool true) ∧ Below w.heap.size w w' := by
  have hm := w0.2.1
  unfold maxLen at hm
  by_cases hlen : 1048576 < z0.length
  · go_enter Try.func7, Try.ntmps7
    go_wp2
    go_ret
    exact ⟨rfl, Below.refl _ _⟩
  · have HD := Lib.hid (drawMask_any a0 cap0 z0 w hc0 w0)
    clear w0 hc0
    go_enter Try.func7, Try.ntmps7
    go_wp2_with fail
    refine HD.out.mono ?_
    rintro e w1 ⟨W, H, P, A1, c1, xs, W', H', P', A2, c2, ys, v, n, rs, rfl, ⟨hx1, hy1, hn⟩, hc1, hc2, hr1, hr2, hO, hb1⟩
    obtain ⟨A3, c3, rfl, hc3⟩ := hO.slice
    have HRL : Hid (rs.length = 3 * n) := Lib.hid (by have := hO.len; omega)
    have hr3 := hO.rds
    obtain ⟨u, hu⟩ : ∃ u, u = (w1.alloc (.cells #[.int .i64 W, .int .i64 H, .int .i64 P, .slice A1 xs.length c1] 25)).alloc (.cells #[.int .i64 W', .int .i64 H', .int .i64 P', .slice A2 ys.length c2] 25) := ⟨_, rfl⟩
    obtain ⟨bg, hbg⟩ : ∃ b, b = w1.heap.size := ⟨_, rfl⟩
    obtain ⟨bh, hbh⟩ : ∃ b, b = w1.heap.size + 1 := ⟨_, rfl⟩
    have HT1 : Hid (ThB w bg bh (imC W H P (.slice A1 xs.length c1)) (imC W' H' P' (.slice A2 ys.length c2)) A1 A2 A3 xs ys rs u) := Lib.hid (by
      rw [hu]
      have xb := Bx.new (w1.alloc (.cells #[.int .i64 W, .int .i64 H, .int .i64 P, .slice A1 xs.length c1] 25)) 25 (imC W' H' P' (.slice A2 ys.length c2))
      exact ⟨rds_alloc (rds_alloc hr1 _) _, rds_alloc (rds_alloc hr2 _) _, rds_alloc (rds_alloc hr3 _) _, by rw [hbg]; exact (Bx.new w1 _ _).alloc _, by rw [hbh]; simpa [imC] using xb, (hb1.alloc hb1.size _).alloc (by have := hb1.size; simp; omega) _⟩)
    obtain ⟨ok, hok⟩ : ∃ ok, ok = mskOk W H P xs W' H' P' ys rs n := ⟨_, rfl⟩
    obtain ⟨M, hM⟩ : ∃ M, M = mskL W.toNat H.toNat P.toNat xs ys rs n := ⟨_, rfl⟩
    obtain ⟨X, hX⟩ : ∃ X, X = cond ok W 0 := ⟨_, rfl⟩
    obtain ⟨Y, hY⟩ : ∃ X, X = cond ok H 0 := ⟨_, rfl⟩
    obtain ⟨Z, hZ⟩ : ∃ X, X = cond ok P 0 := ⟨_, rfl⟩
    obtain ⟨L, hL⟩ : ∃ X, X = cond ok M [] := ⟨_, rfl⟩
    have HI : Hid (∀ u, ThB w bg bh (imC W H P (.slice A1 xs.length c1)) (imC W' H' P' (.slice A2 ys.length c2)) A1 A2 A3 xs ys rs u → Calls Try.prog 30 #[.agg #[.int .i64 W, .int .i64 H, .int .i64 P, .slice A1 xs.length c1], .agg #[.int .i64 W', .int .i64 H', .int .i64 P', .slice A2 ys.length c2], .slice A3 n c3] u fun e w' => ∃ A c, e = .returned (.tuple #[.agg #[.int .i64 X, .int .i64 Y, .int .i64 Z, .slice A L.length c], .bool ok]) ∧ L.length ≤ c ∧ Rds .i64 w' w'.heap.size A L ∧ Below u.heap.size u w') := Lib.hid (fun u t => by
      rw [hX, hY, hZ, hL, hok, hM]; exact (i_MaskImage W H P W' H' P' A1 A2 A3 c1 c2 n c3 xs ys rs u t.ra (by omega) hc1 t.rb (by omega) hc2 t.rc HRL.out (by omega)).mono (fun e w' h => made_c h))
    have HS : Hid (∀ u, ThB w bg bh (imC W H P (.slice A1 xs.length c1)) (imC W' H' P' (.slice A2 ys.length c2)) A1 A2 A3 xs ys rs u → Calls Try.prog 31 #[.agg #[.int .i64 W, .int .i64 H, .int .i64 P, .slice A1 xs.length c1], .agg #[.int .i64 W', .int .i64 H', .int .i64 P', .slice A2 ys.length c2], .slice A3 n c3] u fun e w' => ∃ A c, e = .returned (.tuple #[.agg #[.int .i64 X, .int .i64 Y, .int .i64 Z, .slice A L.length c], .bool ok]) ∧ L.length ≤ c ∧ Rds .i64 w' w'.heap.size A L ∧ Below u.heap.size u w') := Lib.hid (fun u t => by
      rw [hX, hY, hZ, hL, hok, hM]; exact (s_MaskImage W H P W' H' P' A1 A2 A3 c1 c2 n c3 xs ys rs u t.ra (by omega) hc1 t.rb (by omega) hc2 t.rc HRL.out (by omega)).mono (fun e w' h => made_c h))
    have HQ : Hid (ok = true → (X = W ∧ Y = H ∧ Z = P ∧ L = M) ∧ (W = W' ∧ H = H' ∧ P = P') ∧ cmpB W H P xs W' H' P' ys = true ∧ mskOk W H P xs W' H' P' ys (rnL (chG W.toNat H.toNat P.toNat xs ys)) (rnN (chG W.toNat H.toNat P.toNat xs ys)) = true ∧ mskL W.toNat H.toNat P.toNat xs ys (rnL (chG W.toNat H.toNat P.toNat xs ys)) (rnN (chG W.toNat H.toNat P.toNat xs ys)) = ys) := Lib.hid (fun h => by
        obtain ⟨k1, k2, k3, k4⟩ := msk_chg (hok.symm.trans h)
        rw [hX, hY, hZ, hL, h, hM]
        exact ⟨⟨rfl, rfl, rfl, rfl⟩, k1, k2, k3, k4⟩)
    have hLl : L.length ≤ 1024 := by
      rw [hL]
      cases hk : ok
      · simp
      · rw [hM]; exact (msk_law (hok.symm.trans hk)).2.2.2.2.2
    have HU := Lib.hid hu
    have Hbg := Lib.hid hbg
    have Hbh := Lib.hid hbh
    clear hr1 hr2 hr3 hO hb1 hu hbg hbh hok hM hX hY hZ hL
    go_wp2_with fail
    rw [← HU.out, ← Hbh.out, ← Hbg.out]
    clear HU Hbg Hbh
    refine (HI.out u HT1.out).mono ?_
    rintro e w2 ⟨B1, d1, rfl, hd1, hq, hb⟩
    have HTc := Lib.hid (HT1.out.call hb)
    have HR := Lib.hid hq
    clear hb hq HT1 HI
    obtain ⟨u2, hu⟩ : ∃ x, x = w2.alloc (.cells #[.int .i64 X, .int .i64 Y, .int .i64 Z, .slice B1 L.length d1] 25) := ⟨_, rfl⟩
    obtain ⟨b2, hbk⟩ : ∃ b, b = w2.heap.size := ⟨_, rfl⟩
    have HT2 : Hid (ThB w bg bh (imC W H P (.slice A1 xs.length c1)) (imC W' H' P' (.slice A2 ys.length c2)) A1 A2 A3 xs ys rs u2) := Lib.hid (by rw [hu]; exact HTc.out.alloc _)
    clear HTc
    have HR_2 : Hid (Rds .i64 u2 u2.heap.size B1 L) := Lib.hid (by rw [hu]; exact rds_alloc HR.out _)
    clear HR
    have HX6 : Hid (Bx u2 b2 25 (imC X Y Z (.slice B1 L.length d1))) := Lib.hid (by rw [hu, hbk]; exact Bx.new _ _ _)
    have HU2 := Lib.hid hu
    have HBk2 := Lib.hid hbk
    clear hu hbk
    obtain ⟨a0, a1, a2, a3⟩ := HT2.out.xa.im
    obtain ⟨e0, e1, e2, e3⟩ := HT2.out.xb.im
    rw [HU2.out] at a0 a1 a2 a3 e0 e1 e2 e3
    go_wp2_with fail
    rw [← HU2.out, ← HBk2.out]
    clear HU2 HBk2 a0 a1 a2 a3 e0 e1 e2 e3
    refine (HS.out u2 HT2.out).mono ?_
    rintro e w3 ⟨B2, d2, rfl, hd2, hq, hb⟩
    have HTc := Lib.hid (HT2.out.call hb)
    have HR := Lib.hid (rds_call HR_2.out hb)
    have HS2 := Lib.hid hq
    have HX6' := Lib.hid (bx_call HX6.out hb)
    clear hb hq HT2 HS HR_2 HX6
    obtain ⟨u3, hu⟩ : ∃ x, x = w3.alloc (.cells #[.int .i64 X, .int .i64 Y, .int .i64 Z, .slice B2 L.length d2] 25) := ⟨_, rfl⟩
    obtain ⟨b3, hbk⟩ : ∃ b, b = w3.heap.size := ⟨_, rfl⟩
    have HT3 : Hid (ThB w bg bh (imC W H P (.slice A1 xs.length c1)) (imC W' H' P' (.slice A2 ys.length c2)) A1 A2 A3 xs ys rs u3) := Lib.hid (by rw [hu]; exact HTc.out.alloc _)
    clear HTc
    have HR_3 : Hid (Rds .i64 u3 u3.heap.size B1 L) := Lib.hid (by rw [hu]; exact rds_alloc HR.out _)
    clear HR
    have HS2_3 : Hid (Rds .i64 u3 u3.heap.size B2 L) := Lib.hid (by rw [hu]; exact rds_alloc HS2.out _)
    clear HS2
    have HX6'_3 : Hid (Bx u3 b2 25 (imC X Y Z (.slice B1 L.length d1))) := Lib.hid (by rw [hu]; exact HX6'.out.alloc _)
    clear HX6'
    have HX8 : Hid (Bx u3 b3 25 (imC X Y Z (.slice B2 L.length d2))) := Lib.hid (by rw [hu, hbk]; exact Bx.new _ _ _)
    have HU3 := Lib.hid hu
    have HBk3 := Lib.hid hbk
    clear hu hbk
    obtain ⟨a0, a1, a2, a3⟩ := HX6'_3.out.im
    obtain ⟨e0, e1, e2, e3⟩ := HX8.out.im
    rw [HU3.out] at a0 a1 a2 a3 e0 e1 e2 e3
    rw [HBk3.out] at e0 e1 e2 e3
    go_wp2_with fail
    rw [← HU3.out, ← HBk3.out]
    clear HU3 HBk3 a0 a1 a2 a3 e0 e1 e2 e3
    refine (lEqImg_same X Y Z B1 B2 d1 d2 _ _ L u3 rfl rfl HR_3.out HS2_3.out (by omega)).mono ?_
    rintro e w4 ⟨rfl, hb⟩
    have HT4 := Lib.hid (HT3.out.call hb)
    have HR4 := Lib.hid (rds_call HR_3.out hb)
    have HS4 := Lib.hid (rds_call HS2_3.out hb)
    have HX64 := Lib.hid (bx_call HX6'_3.out hb)
    have HX84 := Lib.hid (bx_call HX8.out hb)
    clear hb HT3 HR_3 HS2_3 HX6'_3 HX8
    cases ok
    · obtain ⟨a0, a1, a2, a3⟩ := HX64.out.im
      obtain ⟨e0, e1, e2, e3⟩ := HX84.out.im
      go_wp2_with fail
      refine (lEqImg_same X Y Z B1 B2 d1 d2 _ _ L w4 rfl rfl HR4.out HS4.out (by omega)).mono ?_
      rintro e w5 ⟨rfl, hb⟩
      have HB := Lib.hid (HT4.out.call hb).be
      clear hb HT4 HR4 HS4 HX64 HX84 a0 a1 a2 a3 e0 e1 e2 e3
      go_wp2
      go_ret
      exact ⟨rfl, HB.out⟩
    · obtain ⟨⟨rfl, rfl, rfl, rfl⟩, ⟨rfl, rfl, rfl⟩, k1, k2, k3⟩ := HQ.out rfl
      have K1 := Lib.hid k1
      have K2 := Lib.hid k2
      have K3 := Lib.hid k3
      clear k1 k2 k3 HQ HX84 HS4 HX64 HR4
      obtain ⟨N5, hN5⟩ : ∃ x, x = rnN (chG X.toNat Y.toNat Z.toNat xs ys) := ⟨_, rfl⟩
      obtain ⟨L5, hL5⟩ : ∃ x, x = rnL (chG X.toNat Y.toNat Z.toNat xs ys) := ⟨_, rfl⟩
      have HL5 : Hid (L5.length = 3 * N5 ∧ N5 ≤ 272) := Lib.hid (by rw [hL5, hN5]; exact rnL_len _)
      have h5 := HL5.out.2
      have HC : Hid (∀ u, ThB w bg bh (imC X Y Z (.slice A1 xs.length c1)) (imC X Y Z (.slice A2 ys.length c2)) A1 A2 A3 xs ys rs u → Calls Try.prog 22 #[.agg #[.int .i64 X, .int .i64 Y, .int .i64 Z, .slice A1 xs.length c1], .agg #[.int .i64 X, .int .i64 Y, .int .i64 Z, .slice A2 ys.length c2]] u fun e w' => ∃ A c, e = .returned (.slice A N5 c) ∧ Rds .i64 w' w'.heap.size A L5 ∧ Below u.heap.size u w') := Lib.hid (fun u t => by
        refine (i_ChangedRegion X Y Z X Y Z A1 A2 c1 c2 xs ys u t.ra (by omega) hc1 t.rb (by omega) hc2).mono ?_
        rintro e w5 ⟨v5, rfl, hO5, hb⟩
        rw [K1.out] at hO5
        dsimp only [cond] at hO5
        rw [← hN5, ← hL5] at hO5
        obtain ⟨A5, c5, rfl, _⟩ := hO5.slice
        exact ⟨A5, c5, rfl, hO5.rds, hb⟩)
      have HM : Hid (∀ A5 c5 u, ThB w bg bh (imC X Y Z (.slice A1 xs.length c1)) (imC X Y Z (.slice A2 ys.length c2)) A1 A2 A3 xs ys rs u → Rds .i64 u u.heap.size A5 L5 → Calls Try.prog 30 #[.agg #[.int .i64 X, .int .i64 Y, .int .i64 Z, .slice A1 xs.length c1], .agg #[.int .i64 X, .int .i64 Y, .int .i64 Z, .slice A2 ys.length c2], .slice A5 N5 c5] u fun e w' => ∃ B3 d3, e = .returned (.tuple #[.agg #[.int .i64 X, .int .i64 Y, .int .i64 Z, .slice B3 ys.length d3], .bool true]) ∧ ys.length ≤ d3 ∧ (∀ a : Addr, B3 = some a → u.heap.size ≤ a.block) ∧ Rds .i64 w' w'.heap.size B3 ys ∧ Below u.heap.size u w') := Lib.hid (fun A5 c5 u t hr => by
        refine (i_MaskImage X Y Z X Y Z A1 A2 A5 c1 c2 N5 c5 xs ys L5 u t.ra (by omega) hc1 t.rb (by omega) hc2 hr HL5.out.1 (by omega)).mono ?_
        rw [hN5, hL5, K2.out, K3.out]
        intro e w6 hI
        obtain ⟨v, rfl, hO, hb⟩ := hI
        obtain ⟨A, c, rfl, hc⟩ := hO.slice
        dsimp only [cond] at hO hc ⊢
        exact ⟨A, c, rfl, hc, fun a ha => (hO.lt a.block (by subst ha; rfl)).1, hO.rds.2, hb⟩)
      have HTd := Lib.hid HT4.out.drew
      have HT4' := HT4
      clear hN5 hL5 K1 K2 K3
      obtain ⟨a0, a1, a2, a3⟩ := HT4.out.xa.im
      obtain ⟨e0, e1, e2, e3⟩ := HT4.out.xb.im
      clear HT4
      go_wp2
      go_region_held3 (fun w' => w'.cell? ⟨bg, 0, none⟩ = some (.int .i64 X) ∧ w'.cell? ⟨bg, 1, none⟩ = some (.int .i64 Y) ∧ w'.cell? ⟨bg, 2, none⟩ = some (.int .i64 Z) ∧ w'.cell? ⟨bg, 3, none⟩ = some (.slice A1 xs.length c1) ∧ w'.cell? ⟨bh, 0, none⟩ = some (.int .i64 X) ∧ w'.cell? ⟨bh, 1, none⟩ = some (.int .i64 Y) ∧ w'.cell? ⟨bh, 2, none⟩ = some (.int .i64 Z) ∧ w'.cell? ⟨bh, 3, none⟩ = some (.slice A2 ys.length c2)) (first | (with_reducible exact im8 HT6.out) | (with_reducible exact im8 (HT6.out.alloc _)) | (with_reducible exact im8 (HT6.out.set4 HT4'.out (Nat.le_refl _) _ _ _ _)) | (with_reducible exact im8 (HT6.out.set4 HT5.out (Nat.le_refl _) _ _ _ _)) | (with_reducible exact im8 HT5.out) | (with_reducible exact im8 (HT5.out.alloc _)) | (with_reducible exact im8 HTd.out) | (with_reducible exact im8 (HTd.out.alloc _)) | go_keep) (first | (go_at_call 22; (first | (refine (HC.out _ HTd.out).mono ?_; rintro e w5 ⟨A5, c5, rfl, hr, hb⟩; have HT5 := Lib.hid (HTd.out.call hb)) | (refine (HC.out _ (HTd.out.alloc _)).mono ?_; rintro e w5 ⟨A5, c5, rfl, hr, hb⟩; have HT5 := Lib.hid ((HTd.out.alloc _).call hb); have HZ : Hid (Bx w5 w4.heap.size 25 #[.int .i64 0, .int .i64 0, .int .i64 0, .slice none 0 0]) := Lib.hid (bx_call (Bx.new w4.drew _ _) hb))); have HW5 := Lib.hid hr; clear hr hb) | (go_at_call 30; (first | (refine (HM.out A5 c5 _ HT5.out HW5.out).mono ?_; rintro e w6 ⟨B3, d3, rfl, hd3, hB3, hq, hb⟩; have HT6 := Lib.hid (HT5.out.call hb); (try have HZ6 := Lib.hid (bx_call HZ.out hb))) | (refine (HM.out A5 c5 _ (HT5.out.alloc _) (rds_alloc HW5.out _)).mono ?_; rintro e w6 ⟨B3, d3, rfl, hd3, hB3, hq, hb⟩; have HT6 := Lib.hid ((HT5.out.alloc _).call hb); have HZ6 : Hid (Bx w6 w5.heap.size 25 #[.int .i64 0, .int .i64 0, .int .i64 0, .slice none 0 0]) := Lib.hid (bx_call (Bx.new w5 _ _) hb))); have HV := Lib.hid hq; have HB3 := Lib.hid hB3; (try (obtain ⟨zb0, zb1, zb2, zb3⟩ := imz HZ6.out; have zf0 := HZ6.out.fz 0; have zf1 := HZ6.out.fz 1; have zf2 := HZ6.out.fz 2; have zf3 := HZ6.out.fz 3)); clear hq hb hB3))
      all_goals
        (try clear zb0 zb1 zb2 zb3 zf0 zf1 zf2 zf3)
        clear a0 a1 a2 a3 e0 e1 e2 e3
        first | (have S9 : Hid (ThB w bg bh (imC X Y Z (.slice A1 xs.length c1)) (imC X Y Z (.slice A2 ys.length c2)) A1 A2 A3 xs ys rs ((((w6.setCell ⟨w4.heap.size, 0, none⟩ (.int .i64 X)).setCell ⟨w4.heap.size, 1, none⟩ (.int .i64 Y)).setCell ⟨w4.heap.size, 2, none⟩ (.int .i64 Z)).setCell ⟨w4.heap.size, 3, none⟩ (.slice B3 ys.length d3)) ∧ Rds .i64 ((((w6.setCell ⟨w4.heap.size, 0, none⟩ (.int .i64 X)).setCell ⟨w4.heap.size, 1, none⟩ (.int .i64 Y)).setCell ⟨w4.heap.size, 2, none⟩ (.int .i64 Z)).setCell ⟨w4.heap.size, 3, none⟩ (.slice B3 ys.length d3)) ((((w6.setCell ⟨w4.heap.size, 0, none⟩ (.int .i64 X)).setCell ⟨w4.heap.size, 1, none⟩ (.int .i64 Y)).setCell ⟨w4.heap.size, 2, none⟩ (.int .i64 Z)).setCell ⟨w4.heap.size, 3, none⟩ (.slice B3 ys.length d3)).heap.size B3 ys ∧ Bx ((((w6.setCell ⟨w4.heap.size, 0, none⟩ (.int .i64 X)).setCell ⟨w4.heap.size, 1, none⟩ (.int .i64 Y)).setCell ⟨w4.heap.size, 2, none⟩ (.int .i64 Z)).setCell ⟨w4.heap.size, 3, none⟩ (.slice B3 ys.length d3)) w4.heap.size 25 (imC X Y Z (.slice B3 ys.length d3))) := Lib.hid ⟨HT6.out.set4 HT4'.out (Nat.le_refl _) _ _ _ _, s4_rds HV.out (fun a ha => by have h1 := HB3.out a ha; have h2 := HZ.out.lt; omega) _ _ _ _, two_box HZ6.out _ _ _ _⟩; generalize ((((w6.setCell ⟨w4.heap.size, 0, none⟩ (.int .i64 X)).setCell ⟨w4.heap.size, 1, none⟩ (.int .i64 Y)).setCell ⟨w4.heap.size, 2, none⟩ (.int .i64 Z)).setCell ⟨w4.heap.size, 3, none⟩ (.slice B3 ys.length d3)) = u6 at *; generalize w4.heap.size = b6 at *) | (have S9 : Hid (ThB w bg bh (imC X Y Z (.slice A1 xs.length c1)) (imC X Y Z (.slice A2 ys.length c2)) A1 A2 A3 xs ys rs ((((w6.setCell ⟨w5.heap.size, 0, none⟩ (.int .i64 X)).setCell ⟨w5.heap.size, 1, none⟩ (.int .i64 Y)).setCell ⟨w5.heap.size, 2, none⟩ (.int .i64 Z)).setCell ⟨w5.heap.size, 3, none⟩ (.slice B3 ys.length d3)) ∧ Rds .i64 ((((w6.setCell ⟨w5.heap.size, 0, none⟩ (.int .i64 X)).setCell ⟨w5.heap.size, 1, none⟩ (.int .i64 Y)).setCell ⟨w5.heap.size, 2, none⟩ (.int .i64 Z)).setCell ⟨w5.heap.size, 3, none⟩ (.slice B3 ys.length d3)) ((((w6.setCell ⟨w5.heap.size, 0, none⟩ (.int .i64 X)).setCell ⟨w5.heap.size, 1, none⟩ (.int .i64 Y)).setCell ⟨w5.heap.size, 2, none⟩ (.int .i64 Z)).setCell ⟨w5.heap.size, 3, none⟩ (.slice B3 ys.length d3)).heap.size B3 ys ∧ Bx ((((w6.setCell ⟨w5.heap.size, 0, none⟩ (.int .i64 X)).setCell ⟨w5.heap.size, 1, none⟩ (.int .i64 Y)).setCell ⟨w5.heap.size, 2, none⟩ (.int .i64 Z)).setCell ⟨w5.heap.size, 3, none⟩ (.slice B3 ys.length d3)) w5.heap.size 25 (imC X Y Z (.slice B3 ys.length d3))) := Lib.hid ⟨HT6.out.set4 HT5.out (Nat.le_refl _) _ _ _ _, s4_rds HV.out (fun a ha => by have h1 := HB3.out a ha; simp at h1; omega) _ _ _ _, two_box HZ6.out _ _ _ _⟩; generalize ((((w6.setCell ⟨w5.heap.size, 0, none⟩ (.int .i64 X)).setCell ⟨w5.heap.size, 1, none⟩ (.int .i64 Y)).setCell ⟨w5.heap.size, 2, none⟩ (.int .i64 Z)).setCell ⟨w5.heap.size, 3, none⟩ (.slice B3 ys.length d3)) = u6 at *; generalize w5.heap.size = b6 at *) | (have S9 : Hid (ThB w bg bh (imC X Y Z (.slice A1 xs.length c1)) (imC X Y Z (.slice A2 ys.length c2)) A1 A2 A3 xs ys rs (w6.alloc (.cells #[.int .i64 X, .int .i64 Y, .int .i64 Z, .slice B3 ys.length d3] 25)) ∧ Rds .i64 (w6.alloc (.cells #[.int .i64 X, .int .i64 Y, .int .i64 Z, .slice B3 ys.length d3] 25)) (w6.alloc (.cells #[.int .i64 X, .int .i64 Y, .int .i64 Z, .slice B3 ys.length d3] 25)).heap.size B3 ys ∧ Bx (w6.alloc (.cells #[.int .i64 X, .int .i64 Y, .int .i64 Z, .slice B3 ys.length d3] 25)) w6.heap.size 25 (imC X Y Z (.slice B3 ys.length d3))) := Lib.hid ⟨HT6.out.alloc _, rds_alloc HV.out _, Bx.new _ _ _⟩; generalize (w6.alloc (.cells #[.int .i64 X, .int .i64 Y, .int .i64 Z, .slice B3 ys.length d3] 25)) = u6 at *; generalize w6.heap.size = b6 at *)
        (try clear HZ)
        (try clear HZ6)
        clear HT4' HTd HT5 HT6 HV HB3 HW5 HC HM
        obtain ⟨a0, a1, a2, a3⟩ := S9.out.1.xb.im
        obtain ⟨e0, e1, e2, e3⟩ := S9.out.2.2.im
        go_wp2_with fail
        refine (lEqImg_same X Y Z B3 A2 d3 c2 _ _ ys u6 rfl rfl S9.out.2.1 S9.out.1.rb (by omega)).mono ?_
        rintro e w8 ⟨rfl, hb⟩
        have HB := Lib.hid (S9.out.1.call hb).be
        clear hb S9 a0 a1 a2 a3 e0 e1 e2 e3
        go_wp2
        go_ret
        exact ⟨rfl, HB.out⟩

/-! ### From the walk to the statement. -/
theorem own : ownKnob Try.prog.godebug = none := by kernel_rfl
theorem laidOut : laidOutB Try.prog = true := by kernel_rfl
set_option maxRecDepth 100000 in
theorem lifted (os : Os) (started : os.Started) (H : Type) (enc : TypeId × Value → H) :
    ReturnsInHanded {} Try.checked os 7 .any (Rows.fnMaskImageChangedSpec.pre6 enc Try.prog Try.f7 Rows.fnMaskImageChangedRow.domain false) (Rows.fnMaskImageChangedSpec.post enc Try.prog Try.f7 false true false false) := by
  refine returnsInHanded_of_change (C := Try.checked) own started (by kernel_rfl) Try.func7
    (ChangeSpec.witness6 (enc := enc) (C := Try.checked) false ⟨#[], #[.slice none 0 0], []⟩ 8 (by kernel_rfl) (by kernel_rfl) (by kernel_rfl) (by kernel_rfl)) ?_
  intro W base args ds gs before hval0 hW hcnd _
  have hval : ∀ (j : Nat) t v, Try.f7.params[j]? = some t → args[j]? = some v → Value.okWide Try.prog W .any base t v := hval0
  have hW' := hW
  obtain ⟨p, q, hA0, hV, rfl, hfz, hnd⟩ := hW
  have hA : DataW.TrodAll enc Try.prog W 0 (fun _ => true) true Try.f7.params.toList args.toList ds p := hA0
  rw [Try.params7] at hA hval
  obtain ⟨v0, vs0, d0, ds0, p0, q0, hargs, rfl, rfl, h0, r0⟩ := trodAll_cons hA
  obtain ⟨rfl, rfl, rfl⟩ := trodAll_nil r0
  obtain rfl : args = #[v0] := by cases args; simp_all
  obtain ⟨rfl, rfl⟩ := trodVars_none hV
  obtain ⟨a0, len0, cap0, rfl⟩ := okWide_slice Try.underlying22 (hval 0 22 v0 rfl rfl)
  have k0 := h0
  have lt0 : ∀ x ∈ p0, x.block < W.heap.size := by obtain ⟨m, hm⟩ := k0; exact DataW.trod_lt m _ _ _ hm
  obtain ⟨z0, hl0, hc0, w0⟩ : ∃ zs : List Int, len0 = zs.length ∧ zs.length ≤ cap0 ∧ Rdw .u8 W W.heap.size a0 zs := by
    obtain ⟨fuel, hf⟩ := h0
    rcases open_ints Try.underlying22 Try.underlying5 (by kernel_rfl) hf with ⟨hcs, _⟩ | ⟨x, l, c, zs, hcs, _, hl, hm, hz, _, hcell, hwz⟩
    · simp [Value.cells] at hcs
      obtain ⟨rfl, rfl, rfl⟩ := hcs
      exact ⟨[], rfl, Nat.le_refl _, Rdw.nil⟩
    · simp [Value.cells] at hcs
      obtain ⟨rfl, rfl, rfl⟩ := hcs
      exact ⟨zs.take len0, by simp at hz ⊢; omega, by simp at hz ⊢; omega, Rdw.of_row hl hm (by simpa using hz) hcell hwz⟩
  subst hl0
  clear hA0 hval0
  refine (walk W a0 cap0 z0 hc0 w0).mono fun e W' ⟨he, bel⟩ => ?_
  subst he
  exact ⟨_, rfl, _, _, _, [], _, [], hW', trodAll_mk1 (shut_bool Try.underlying4 _), (trodAll_cons_mk (Below.trod laidOut (by kernel_rfl) (of_decide_eq_true (by kernel_rfl)) k0 bel lt0) trodAll_mk0), rfl, bel.frame _, fun h => by cases h⟩

theorem over : Rows.fnMaskImageChangedRow.holds Try.pinned (OpenSpec.ofChange Rows.fnMaskImageChangedSpec) :=
  OpenClaim.holds_of_wide 7 Try.f7 rfl rfl rfl rfl rfl rfl rfl ⟨rfl, rfl, rfl, rfl, rfl⟩ rfl rfl rfl rfl rfl (by kernel_rfl) Try.func7 (by kernel_rfl)
    (of_decide_eq_true (by kernel_rfl)) (by unfold Func.isWrapper; first | (rw [if_pos (by decide +kernel)]; kernel_rfl) | (rw [if_neg (by decide +kernel)]; exact ⟨rfl, rfl⟩))
    (fun os started H enc _ => lifted os started H enc)

theorem proved : Rows.FnMaskImageChangedSaid := over
end Go.Proofs.Ytlmpkanlfhjijaa.fnMaskImageChanged
