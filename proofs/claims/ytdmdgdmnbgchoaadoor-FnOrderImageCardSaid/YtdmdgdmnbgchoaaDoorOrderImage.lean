/- Whatever the code: the ordered image of a drawn image is what the model tells; its numbers are values of levels, darkest and lightest stay, and an image of greater numbers has no smaller ones, where the ordered matrix is what the program lays. -/
import Derived.Test.YtdmdgdmnbgchoaaDoorRows
import Derived.WalkKit
import Derived.ProofKit
import Derived.OpenShut
import Derived.ShutString
import Derived.ChangeOld
import Derived.Below
import Derived.Test.YtdmdgdmnbgchoaaDoorOrdI
import Derived.Test.YtdmdgdmnbgchoaaDoorOrdS
import Derived.Test.YtdmdgdmnbgchoaaDoorOrdQ
import Derived.Test.YtdmdgdmnbgchoaaDoorLSt
import Derived.Test.YtdmdgdmnbgchoaaDoorLEqImg
import Derived.Test.YtdmdgdmnbgchoaaDoorDoorM
import Derived.Test.YtdmdgdmnbgchoaaDoorTie
import Derived.Test.YtdmdgdmnbgchoaaDoorCards
import Derived.SevenTiedAt
import Derived.LaidMore
import Derived.OpenVars
import Derived.ChangeVars
import Derived.Deep.RegionHeld3
namespace Go.Proofs.YtdmdgdmnbgchoaaDoor.fnOrderImage
open Go.ChangeShapes Go.WideShapes Go.ChangeAt Go.RowKit
open Go.ChangeMaps (open_string shut_string)
set_option linter.unusedVariables false

/-- Two images that are read while calls go by, and their boxes. -/
structure TwoF (w : World) (g h : Nat) (ca cb : Array Value) (A1 A2 : Option Addr) (xs ys : List Int) (u : World) : Prop where
  ra : Rds .i64 u u.heap.size A1 xs
  rb : Rds .i64 u u.heap.size A2 ys
  xa : Bx u g 25 ca
  xb : Bx u h 25 cb
  be : Below w.heap.size w u
theorem bx_call {u u' : World} {b : Nat} {T : TypeId} {cs : Array Value} (h : Bx u b T cs) (hb : Below u.heap.size u u') : Bx u' b T cs := (hb.block b h.lt).trans h
theorem rds_call {u u' : World} {A : Option Addr} {xs : List Int} (h : Rds .i64 u u.heap.size A xs) (hb : Below u.heap.size u u') : Rds .i64 u' u'.heap.size A xs := (h.below hb).more hb.size
theorem rds_alloc {u : World} {A : Option Addr} {xs : List Int} (h : Rds .i64 u u.heap.size A xs) (o : Obj) : Rds .i64 (u.alloc o) (u.alloc o).heap.size A xs := (h.alloc (Nat.le_refl _) o).more (by simp)
theorem TwoF.call {w u u' : World} {g h : Nat} {ca cb : Array Value} {A1 A2 : Option Addr} {xs ys : List Int} (t : TwoF w g h ca cb A1 A2 xs ys u) (hb : Below u.heap.size u u') : TwoF w g h ca cb A1 A2 xs ys u' :=
  ⟨rds_call t.ra hb, rds_call t.rb hb, bx_call t.xa hb, bx_call t.xb hb, t.be.trans (hb.mono t.be.size)⟩
theorem TwoF.alloc {w u : World} {g h : Nat} {ca cb : Array Value} {A1 A2 : Option Addr} {xs ys : List Int} (t : TwoF w g h ca cb A1 A2 xs ys u) (o : Obj) : TwoF w g h ca cb A1 A2 xs ys (u.alloc o) :=
  ⟨rds_alloc t.ra o, rds_alloc t.rb o, t.xa.alloc o, t.xb.alloc o, t.be.alloc t.be.size o⟩
theorem TwoF.drew {w u : World} {g h : Nat} {ca cb : Array Value} {A1 A2 : Option Addr} {xs ys : List Int} (t : TwoF w g h ca cb A1 A2 xs ys u) : TwoF w g h ca cb A1 A2 xs ys u.drew :=
  ⟨t.ra, t.rb, t.xa, t.xb, t.be.drew⟩
theorem shib {b : Bool} {W H P : Int} {xs : List Int} {w w' : World} {e : Ending} (h : MadeIb b W H P xs w e w') : ShIB (cond b W 0) (cond b H 0) (cond b P 0) (cond b xs []) b w e w' := by
  obtain ⟨v, rfl, hO, hb⟩ := h
  obtain ⟨A, c, rfl, hc⟩ := hO.slice
  exact ⟨A, c, rfl, hc, hO.rds.2, hb⟩
theorem rds_at {k : IntKind} {u : World} {B b o : Nat} {xs : List Int} (h : Rds k u B (some ⟨b, o, none⟩) xs) {j : Nat} (hj : j < xs.length) : u.cell? ⟨b, o + j, none⟩ = some (.int k (xs.getD j 0)) := by
  rcases h with rfl | ⟨b', o', e, _, hc⟩
  · exact absurd hj (Nat.not_lt_zero _)
  · injection e with e
    injection e with e1 e2
    subst e1 e2
    exact hc j hj
theorem rds_form {k : IntKind} {u : World} {B : Nat} {A : Option Addr} {xs : List Int} (h : Rds k u B A xs) (hx : 0 < xs.length) : ∃ b o, A = some ⟨b, o, none⟩ := by
  rcases h with rfl | ⟨b, o, e, _⟩
  · exact absurd hx (Nat.not_lt_zero _)
  · exact ⟨b, o, e⟩
set_option maxHeartbeats 64000000 in
set_option maxRecDepth 20000 in
theorem walk (w : World) (a0 : Option Addr) (cap0 : Nat) (z0 : List Int) (hc0 : z0.length ≤ cap0) (w0 : Rdw .u8 w w.heap.size a0 z0) (hT : Tab w) :
    Calls Tryd.prog 3 #[.slice a0 z0.length cap0] w fun e w' => e = .returned (.bool true) ∧ Below w.heap.size w w' := by
  have hm := w0.2.1
  unfold maxLen at hm
  by_cases hlen : 1048576 < z0.length
  · go_enter Tryd.func3, Tryd.ntmps3
    go_wp2
    go_ret
    exact ⟨rfl, Below.refl _ _⟩
  · have HD := Lib.hid (dOrd_any a0 cap0 z0 w hc0 w0)
    clear w0 hc0
    have HT := Lib.hid hT
    clear hT
    go_enter Tryd.func3, Tryd.ntmps3
    go_wp2_with fail
    refine HD.out.mono ?_
    rintro e w1 ⟨W, H, P, A1, c1, xs, q, rfl, ⟨hx1, hq1, hq8⟩, hc1, hr1, hb1, _⟩
    obtain ⟨ok, hok⟩ : ∃ z, z = odB W H P xs q := ⟨_, rfl⟩
    obtain ⟨X, hX⟩ : ∃ z, z = cond ok W 0 := ⟨_, rfl⟩
    obtain ⟨Y, hY⟩ : ∃ z, z = cond ok H 0 := ⟨_, rfl⟩
    obtain ⟨Z, hZ⟩ : ∃ z, z = cond ok P 0 := ⟨_, rfl⟩
    obtain ⟨ys, hys⟩ : ∃ z, z = cond ok (odL W.toNat H.toNat xs q) [] := ⟨_, rfl⟩
    have hyl : ys.length ≤ 256 := by
      rw [hys]
      cases ok
      · simp
      · obtain ⟨_, _, rfl, rfl, rfl, _, h1, h2, _⟩ := ord_law hok.symm
        simp only [cond, Int.toNat_natCast]
        omega
    obtain ⟨u2, hu2⟩ : ∃ x, x = w1.alloc (.cells #[.int .i64 W, .int .i64 H, .int .i64 P, .slice A1 xs.length c1] 25) := ⟨_, rfl⟩
    obtain ⟨bg, hbg⟩ : ∃ x, x = w1.heap.size := ⟨_, rfl⟩
    have HR2 : Hid (Rds .i64 u2 u2.heap.size A1 xs) := Lib.hid (by rw [hu2]; exact rds_alloc hr1 _)
    have HX2 : Hid (Bx u2 bg 25 (imC W H P (.slice A1 xs.length c1))) := Lib.hid (by rw [hu2, hbg]; exact Bx.new w1 _ _)
    have HB2 : Hid (Below w.heap.size w u2) := Lib.hid (by rw [hu2]; exact hb1.alloc hb1.size _)
    have HI : Hid (∀ u, Rds .i64 u u.heap.size A1 xs → Below w.heap.size w u → Calls Tryd.prog 6 #[.agg #[.int .i64 W, .int .i64 H, .int .i64 P, .slice A1 xs.length c1], .int .i64 q] u (ShIB X Y Z ys ok u)) := Lib.hid (fun u h hb => by
      rw [hX, hY, hZ, hys, hok]
      exact (i_OrderImage W H P q A1 c1 xs u h (by omega) hc1 (HT.out.below hb)).mono (fun _ _ h => shib h))
    have HS : Hid (∀ u, Rds .i64 u u.heap.size A1 xs → Calls Tryd.prog 7 #[.agg #[.int .i64 W, .int .i64 H, .int .i64 P, .slice A1 xs.length c1], .int .i64 q] u (ShIB X Y Z ys ok u)) := Lib.hid (fun u h => by
      rw [hX, hY, hZ, hys, hok]
      exact (s_OrderImage W H P q A1 c1 xs u h (by omega)).mono (fun _ _ h => shib h))
    have HU := Lib.hid hu2
    have Hbg := Lib.hid hbg
    have HV := Lib.hid (And.intro hX (And.intro hY (And.intro hZ hys)))
    have HOK := Lib.hid hok
    clear hr1 hb1 hu2 hbg hX hY hZ hys hok
    obtain ⟨a0, a1, a2, a3⟩ := HX2.out.im
    rw [HU.out, Hbg.out] at a0 a1 a2 a3
    go_wp2_with fail
    rw [← HU.out, ← Hbg.out]
    clear HU Hbg a0 a1 a2 a3
    refine (HI.out u2 HR2.out HB2.out).mono ?_
    rintro e u3 ⟨A2, c2, rfl, hc2, hr, hb⟩
    obtain ⟨u, hu⟩ : ∃ x, x = u3.alloc (.cells #[.int .i64 X, .int .i64 Y, .int .i64 Z, .slice A2 ys.length c2] 25) := ⟨_, rfl⟩
    obtain ⟨bh, hbh⟩ : ∃ x, x = u3.heap.size := ⟨_, rfl⟩
    have HT1 : Hid (TwoF w bg bh (imC W H P (.slice A1 xs.length c1)) (imC X Y Z (.slice A2 ys.length c2)) A1 A2 xs ys u) := Lib.hid (by
      rw [hu, hbh]
      exact ⟨rds_alloc (rds_call HR2.out hb) _, rds_alloc hr _, (bx_call HX2.out hb).alloc _, Bx.new u3 _ _, (HB2.out.trans (hb.mono HB2.out.size)).alloc (HB2.out.trans (hb.mono HB2.out.size)).size _⟩)
    have HU := Lib.hid hu
    have Hbh := Lib.hid hbh
    clear hr hb HR2 HX2 HB2 HI hu hbh
    obtain ⟨a0, a1, a2, a3⟩ := HT1.out.xa.im
    obtain ⟨b0, b1, b2, b3⟩ := HT1.out.xb.im
    rw [HU.out] at a0 a1 a2 a3 b0 b1 b2 b3
    rw [Hbh.out] at b0 b1 b2 b3
    go_wp2_with fail
    rw [← HU.out]
    try rw [← Hbh.out]
    clear a0 a1 a2 a3 b0 b1 b2 b3 HU Hbh
    refine (HS.out u HT1.out.ra).mono ?_
    rintro e u4 ⟨A3, c3, rfl, hc3, hr, hb⟩
    obtain ⟨u5, hu5⟩ : ∃ x, x = u4.alloc (.cells #[.int .i64 X, .int .i64 Y, .int .i64 Z, .slice A3 ys.length c3] 25) := ⟨_, rfl⟩
    obtain ⟨bw, hbw⟩ : ∃ x, x = u4.heap.size := ⟨_, rfl⟩
    have HT5 : Hid (TwoF w bg bh (imC W H P (.slice A1 xs.length c1)) (imC X Y Z (.slice A2 ys.length c2)) A1 A2 xs ys u5) := Lib.hid (by rw [hu5]; exact (HT1.out.call hb).alloc _)
    have HR5 : Hid (Rds .i64 u5 u5.heap.size A3 ys) := Lib.hid (by rw [hu5]; exact rds_alloc hr _)
    have HX5 : Hid (Bx u5 bw 25 (imC X Y Z (.slice A3 ys.length c3))) := Lib.hid (by rw [hu5, hbw]; exact Bx.new u4 _ _)
    have HU := Lib.hid hu5
    have Hbw := Lib.hid hbw
    clear hr hb HT1 HS hu5 hbw
    obtain ⟨a0, a1, a2, a3⟩ := HT5.out.xa.im
    obtain ⟨b0, b1, b2, b3⟩ := HT5.out.xb.im
    obtain ⟨e0, e1, e2, e3⟩ := HX5.out.im
    rw [HU.out] at a0 a1 a2 a3 b0 b1 b2 b3 e0 e1 e2 e3
    rw [Hbw.out] at e0 e1 e2 e3
    go_wp2_with fail
    rw [← HU.out]
    try rw [← Hbw.out]
    clear a0 a1 a2 a3 b0 b1 b2 b3 e0 e1 e2 e3 HU
    refine (lEqImg_same X Y Z A2 A3 c2 c3 _ _ ys u5 rfl rfl HT5.out.rb HR5.out (by omega)).mono ?_
    rintro e u6 ⟨rfl, hb⟩
    have HT6 := Lib.hid (HT5.out.call hb)
    have HR6 := Lib.hid (rds_call HR5.out hb)
    have HX6 := Lib.hid (bx_call HX5.out hb)
    clear hb HT5 HR5 HX5
    cases ok
    · obtain ⟨hX, hY, hZ, hys⟩ := HV.out
      clear HV HOK
      dsimp only [cond] at hX hY hZ hys
      subst hX hY hZ hys
      obtain ⟨a0, a1, a2, a3⟩ := HT6.out.xa.im
      obtain ⟨b0, b1, b2, b3⟩ := HT6.out.xb.im
      obtain ⟨e0, e1, e2, e3⟩ := HX6.out.im
      go_wp2_with fail
      (try rw [← Hbw.out])
      refine (lEqImg_same 0 0 0 A2 A3 c2 c3 _ _ [] u6 rfl rfl HT6.out.rb HR6.out (by omega)).mono ?_
      rintro e u7 ⟨rfl, hb⟩
      have HB := Lib.hid (HT6.out.call hb).be
      clear hb HT6 HR6 HX6 a0 a1 a2 a3 b0 b1 b2 b3 e0 e1 e2 e3 Hbw
      go_wp2
      go_ret
      exact ⟨rfl, HB.out⟩
    · clear HR6 HX6 Hbw
      obtain ⟨wd, hh, rfl, rfl, rfl, hq, ⟨hn0, hn1⟩, hl1, hl2, hod, hall⟩ := ord_law HOK.out.symm
      obtain ⟨hX, hY, hZ, hys⟩ := HV.out
      dsimp only [cond, Int.toNat_natCast] at hX hY hZ hys
      subst hX hY hZ
      rw [← hys] at hl1 hall
      obtain ⟨vs, hvs⟩ : ∃ z, z = odL wd hh (moL xs xs.length) q := ⟨_, rfl⟩
      rw [← hvs] at hl2 hall
      have HM : Hid (∀ u A c, Rds .i64 u u.heap.size A (moL xs xs.length) → xs.length ≤ c → Below w.heap.size w u → Calls Tryd.prog 6 #[.agg #[.int .i64 (wd : Int), .int .i64 (hh : Int), .int .i64 1, .slice A xs.length c], .int .i64 q] u (ShIB wd hh 1 vs true u)) := Lib.hid (fun u A c h hc hb => by
        have h2 : Calls _ _ _ _ _ := (i_OrderImage wd hh 1 q A c (moL xs xs.length) u h (by rw [mo_len]; omega) (by rw [mo_len]; exact hc) (HT.out.below hb)).mono (fun _ _ h => shib h)
        rw [hod, mo_len] at h2
        simp only [cond_true, Int.toNat_natCast] at h2
        rw [← hvs] at h2
        exact h2)
      have HAll := Lib.hid hall
      have Hl1 := Lib.hid hl1
      have Hl2 := Lib.hid hl2
      clear HV HOK hys hvs hod hall hyl hl1 hl2 HT HD
      obtain ⟨ab, ao, rfl⟩ := rds_form HT6.out.ra hn0
      obtain ⟨yb, yo, rfl⟩ := rds_form HT6.out.rb (by rw [Hl1.out]; exact hn0)
      obtain ⟨B, hB⟩ : ∃ z, z = u6.heap.size := ⟨_, rfl⟩
      obtain ⟨a0, a1, a2, a3⟩ := HT6.out.xa.im
      obtain ⟨b0, b1, b2, b3⟩ := HT6.out.xb.im
      have al := HT6.out.xa.lt
      have bl := HT6.out.xb.lt
      have HA : Hid (Own (u6.alloc (.cells #[] 3)) u6.heap.size (.slice (some ⟨u6.heap.size, 0, none⟩) 0 0) []) := Lib.hid (own_none u6)
      have HQ : Hid (Rds .i64 (u6.alloc (.cells #[] 3)) (u6.alloc (.cells #[] 3)).heap.size (some ⟨ab, ao, none⟩) xs) := Lib.hid (rds_alloc HT6.out.ra _)
      go_wp2_with (at_builtin; refine wpList_app rfl (.tmp 55) (.tmp 57) rfl u6.heap.size (.slice (some ⟨u6.heap.size, 0, none⟩) 0 0) [] rfl HA.out (some ⟨ab, ao, none⟩) xs.length c1 _ xs rfl (by omega) HQ.out (by simp; omega) (by simp) ?_; intro v7 u7 hO hG)
      rw [List.nil_append] at hO
      obtain ⟨gb, c4, rfl, hg1, hg2⟩ := hO.form hn0
      have hc4 : xs.length ≤ c4 := by
        obtain ⟨A, c', e, hc⟩ := hO.slice
        simp only [Value.slice.injEq] at e
        obtain ⟨_, _, rfl⟩ := e
        exact hc
      have hB7 : Below u6.heap.size u6 u7 := ((Below.refl _ _).alloc (Nat.le_refl _) _).grown hG (by simp) (fun k hk => by have := (HA.out.lt k hk).1; omega)
      have HI0 : Hid (Below u6.heap.size u6 u7 ∧ Own u7 u6.heap.size (.slice (some ⟨gb, 0, none⟩) xs.length c4) (moL xs 0)) := Lib.hid ⟨hB7, by rw [mo_zero]; exact hO⟩
      clear hO hG hB7 HA HQ a0 a1 a2 a3 b0 b1 b2 b3 al bl
      go_wp2
      go_loopw [10] (fun i wr => ∃ k : Nat, k ≤ xs.length ∧ i = .int .i64 (k : Int) ∧ Hid (Below u6.heap.size u6 wr ∧ Own wr u6.heap.size (.slice (some ⟨gb, 0, none⟩) xs.length c4) (moL xs k))) (fun i _ => xs.length - (intOf i).toNat)
      case atStart => exact ⟨0, by omega, rfl, HI0⟩
      case round =>
        clear HI0
        obtain ⟨k, hk, rfl, hI⟩ := hrel
        rename World => wr
        have HT7 := Lib.hid (HT6.out.call hI.out.1)
        obtain ⟨a0, a1, a2, a3⟩ := HT7.out.xa.im
        obtain ⟨b0, b1, b2, b3⟩ := HT7.out.xb.im
        have al := HT7.out.xa.lt
        have bl := HT7.out.xb.lt
        by_cases hlt : k < xs.length
        · have hky : k < ys.length := by rw [Hl1.out]; exact hlt
          have hcx := rds_at HT7.out.ra hlt
          have hcy := rds_at HT7.out.rb hky
          have hf := hI.out.2.frozen (mo_len xs k).symm k
          have hpb := hI.out.2.put (mo_len xs k).symm k (min 255 (xs.getD k 0 + 20))
          rw [mo_set hlt] at hpb
          have HN : Hid (∀ v, v = min 255 (xs.getD k 0 + 20) → Below u6.heap.size u6 (wr.setCell ⟨gb, k, none⟩ (.int .i64 v)).drew ∧ Own (wr.setCell ⟨gb, k, none⟩ (.int .i64 v)).drew u6.heap.size (.slice (some ⟨gb, 0, none⟩) xs.length c4) (moL xs (k + 1))) := Lib.hid (fun v hv => by
            subst hv
            exact ⟨(hI.out.1.setCell (by show _ ≤ gb; omega) _).drew, hpb.1⟩)
          have hcm := hI.out.2.cell (mo_len xs k).symm (j := k) (by rw [mo_len]; exact hlt)
          obtain ⟨⟨hx0, hx255⟩, ⟨hk0, hk15, hdv⟩, hz, hf255, _⟩ := HAll.out k hlt
          obtain ⟨x, hx⟩ : ∃ z, z = xs.getD k 0 := ⟨_, rfl⟩
          obtain ⟨y, hy⟩ : ∃ z, z = ys.getD k 0 := ⟨_, rfl⟩
          obtain ⟨mm, hmm⟩ : ∃ z, z = (moL xs k).getD k 0 := ⟨_, rfl⟩
          rw [← hx] at hcx HN hx0 hx255 hz hf255
          rw [← hy] at hcy hk0 hk15 hdv hz hf255
          rw [← hmm] at hcm
          obtain ⟨lv, hlv⟩ : ∃ z, z = lev y q := ⟨_, rfl⟩
          rw [← hlv] at hk0 hk15 hdv
          have HLV : Hid (∀ u, Calls Tryd.prog 9 #[.int .i64 y, .int .i64 q] u fun e w' => e = .returned (.int .i64 lv) ∧ u = w') := Lib.hid (fun u => by rw [hlv]; exact i_LevelOf y q u)
          have HW1 : Hid (IntKind.i64.wrap (255 * lv) = 255 * lv) := Lib.hid (IntWalk.i64_in _ (by omega))
          have HW2 : Hid (IntKind.i64.wrap (q - 1) = q - 1) := Lib.hid (IntWalk.i64_in _ (by omega))
          have hyb : 0 ≤ y ∧ y ≤ 3825 := by
            rw [← hdv]
            exact ⟨Int.tdiv_nonneg (by omega) (by omega), by rw [Int.tdiv_eq_ediv_of_nonneg (by omega)]; exact Int.le_trans (Int.ediv_le_self _ (by omega)) (by omega)⟩
          have HW3 : Hid (IntKind.i64.wrap y = y) := Lib.hid (IntWalk.i64_in _ (by omega))
          have HDV := Lib.hid hdv
          have hqz : ¬ q - 1 = 0 := by omega
          have hqz2 : (q - 1 == 0) = false := beq_eq_false_iff_ne.2 hqz
          have hkx : (k : Int) < (xs.length : Int) := by omega
          have hkyI : (k : Int) < (ys.length : Int) := by omega
          clear hpb hlv hx hy hmm HT7 hdv hI
          go_upto_region 12 with fail
          rcases (show x = 0 ∨ x = 255 ∨ (x ≠ 0 ∧ x ≠ 255) by omega) with rfl | rfl | ⟨hn1', hn2'⟩
          · obtain rfl := hz rfl
            clear hz hf255
            refine wp_region_held_drew (S := (fun w' => w'.cell? ⟨bg, 0, none⟩ = some ((.int .i64 (wd : Int))) ∧ w'.cell? ⟨bg, 1, none⟩ = some (.int .i64 (hh : Int)) ∧ w'.cell? ⟨bg, 2, none⟩ = some (.int .i64 1) ∧ w'.cell? ⟨bg, 3, none⟩ = some (.slice (some ⟨ab, ao, none⟩) xs.length c1) ∧ w'.cell? ⟨bh, 0, none⟩ = some (.int .i64 (wd : Int)) ∧ w'.cell? ⟨bh, 1, none⟩ = some (.int .i64 (hh : Int)) ∧ w'.cell? ⟨bh, 2, none⟩ = some (.int .i64 1) ∧ w'.cell? ⟨bh, 3, none⟩ = some (.slice (some ⟨yb, yo, none⟩) ys.length c2) ∧ w'.cell? ⟨ab, ao + k, none⟩ = some (.int .i64 0) ∧ w'.cell? ⟨yb, yo + k, none⟩ = some (.int .i64 0))) (by kernel_rfl) (by exact ⟨a0, a1, a2, a3, b0, b1, b2, b3, hcx, hcy⟩) (fun hHeld => ?_)
            refine' wpAnyH_take (i := 0) (oi := _) (v := _) ?hi25 (by kernel_rfl) (by kernel_rfl) (by kernel_rfl) ?hq25 (Or.inl ⟨?hw25, ?hy25⟩) (by assumption) ?rest25
            case hi25 => (simp only [List.getElem?_toArray, List.getElem?_cons_succ, List.getElem?_cons_zero]; rfl)
            case hq25 => exact fun _ _ _ h => h
            case hw25 => rfl
            case hy25 => (intro wq hSw; (try dsimp only at hSw); go_simp; (try with_reducible rfl))
            (try simp only [Act.put, List.setIfInBounds_toArray, List.set_cons_zero, List.set_cons_succ])
            refine' wpAnyH_take (i := 1) (oi := _) (v := _) ?hi26 (by kernel_rfl) (by kernel_rfl) (by kernel_rfl) ?hq26 (Or.inl ⟨?hw26, ?hy26⟩) (by assumption) ?rest26
            case hi26 => (simp only [List.getElem?_toArray, List.getElem?_cons_succ, List.getElem?_cons_zero]; rfl)
            case hq26 => exact fun _ _ _ h => h
            case hw26 => rfl
            case hy26 => (intro wq hSw; (try dsimp only at hSw); go_simp; (try with_reducible rfl))
            (try simp only [Act.put, List.setIfInBounds_toArray, List.set_cons_zero, List.set_cons_succ])
            refine' wpAnyH_take (i := 2) (oi := _) (v := _) ?hi27 (by kernel_rfl) (by kernel_rfl) (by kernel_rfl) ?hq27 (Or.inl ⟨?hw27, ?hy27⟩) (by assumption) ?rest27
            case hi27 => (simp only [List.getElem?_toArray, List.getElem?_cons_succ, List.getElem?_cons_zero]; rfl)
            case hq27 => exact fun _ _ _ h => h
            case hw27 => rfl
            case hy27 => (intro wq hSw; (try dsimp only at hSw); go_simp; (try with_reducible rfl))
            (try simp only [Act.put, List.setIfInBounds_toArray, List.set_cons_zero, List.set_cons_succ])
            refine' wpAnyH_take (i := 3) (oi := _) (v := _) ?hi28 (by kernel_rfl) (by kernel_rfl) (by kernel_rfl) ?hq28 (Or.inl ⟨?hw28, ?hy28⟩) (by assumption) ?rest28
            case hi28 => (simp only [List.getElem?_toArray, List.getElem?_cons_succ, List.getElem?_cons_zero]; rfl)
            case hq28 => exact fun _ _ _ h => h
            case hw28 => rfl
            case hy28 => (intro wq hSw; (try dsimp only at hSw); go_simp; (try with_reducible rfl))
            (try simp only [Act.put, List.setIfInBounds_toArray, List.set_cons_zero, List.set_cons_succ])
            refine' wpAnyH_take (i := 4) (oi := _) (v := _) ?hi29 (by kernel_rfl) (by kernel_rfl) (by kernel_rfl) ?hq29 (Or.inl ⟨?hw29, ?hy29⟩) (by assumption) ?rest29
            case hi29 => (simp only [List.getElem?_toArray, List.getElem?_cons_succ, List.getElem?_cons_zero]; rfl)
            case hq29 => exact fun _ _ _ h => h
            case hw29 => rfl
            case hy29 => (intro wq hSw; (try dsimp only at hSw); go_simp; (try with_reducible rfl))
            (try simp only [Act.put, List.setIfInBounds_toArray, List.set_cons_zero, List.set_cons_succ])
            refine' wpAnyH_take (i := 5) (oi := _) (v := _) ?hi30 (by kernel_rfl) (by kernel_rfl) (by kernel_rfl) ?hq30 (Or.inl ⟨?hw30, ?hy30⟩) (by assumption) ?rest30
            case hi30 => (simp only [List.getElem?_toArray, List.getElem?_cons_succ, List.getElem?_cons_zero]; rfl)
            case hq30 => exact fun _ _ _ h => h
            case hw30 => rfl
            case hy30 => (intro wq hSw; (try dsimp only at hSw); go_simp; (try with_reducible rfl))
            (try simp only [Act.put, List.setIfInBounds_toArray, List.set_cons_zero, List.set_cons_succ])
            refine' wpAnyH_take (i := 6) (oi := _) (v := _) ?hi31 (by kernel_rfl) (by kernel_rfl) (by kernel_rfl) ?hq31 (Or.inl ⟨?hw31, ?hy31⟩) (by assumption) ?rest31
            case hi31 => (simp only [List.getElem?_toArray, List.getElem?_cons_succ, List.getElem?_cons_zero]; rfl)
            case hq31 => exact fun _ _ _ h => h
            case hw31 => rfl
            case hy31 => (intro wq hSw; (try dsimp only at hSw); go_simp; (try with_reducible rfl))
            (try simp only [Act.put, List.setIfInBounds_toArray, List.set_cons_zero, List.set_cons_succ])
            refine' wpAnyH_take (i := 7) (oi := _) (v := _) ?hi32 (by kernel_rfl) (by kernel_rfl) (by kernel_rfl) ?hq32 (Or.inl ⟨?hw32, ?hy32⟩) (by assumption) ?rest32
            case hi32 => (simp only [List.getElem?_toArray, List.getElem?_cons_succ, List.getElem?_cons_zero]; rfl)
            case hq32 => exact fun _ _ _ h => h
            case hw32 => rfl
            case hy32 => (intro wq hSw; (try dsimp only at hSw); go_simp; (try with_reducible rfl))
            (try simp only [Act.put, List.setIfInBounds_toArray, List.set_cons_zero, List.set_cons_succ])
            refine' wpAnyH_take (i := 8) (oi := _) (v := _) ?hi33 (by kernel_rfl) (by kernel_rfl) (by kernel_rfl) ?hq33 (Or.inl ⟨?hw33, ?hy33⟩) (by assumption) ?rest33
            case hi33 => (simp only [List.getElem?_toArray, List.getElem?_cons_succ, List.getElem?_cons_zero]; rfl)
            case hq33 => exact fun _ _ _ h => h
            case hw33 => rfl
            case hy33 => (intro wq hSw; (try dsimp only at hSw); go_simp; (try with_reducible rfl))
            (try simp only [Act.put, List.setIfInBounds_toArray, List.set_cons_zero, List.set_cons_succ])
            refine' wpAnyH_take (i := 9) (oi := _) (v := _) ?hi34 (by kernel_rfl) (by kernel_rfl) (by kernel_rfl) ?hq34 (Or.inl ⟨?hw34, ?hy34⟩) (by assumption) ?rest34
            case hi34 => (simp only [List.getElem?_toArray, List.getElem?_cons_succ, List.getElem?_cons_zero]; rfl)
            case hq34 => exact fun _ _ _ h => h
            case hw34 => rfl
            case hy34 => (intro wq hSw; (try dsimp only at hSw); go_simp; (try with_reducible rfl))
            (try simp only [Act.put, List.setIfInBounds_toArray, List.set_cons_zero, List.set_cons_succ])
            refine' wpAnyH_take (i := 10) (oi := _) (v := _) ?hi35 (by kernel_rfl) (by kernel_rfl) (by kernel_rfl) ?hq35 (Or.inl ⟨?hw35, ?hy35⟩) (by assumption) ?rest35
            case hi35 => (simp only [List.getElem?_toArray, List.getElem?_cons_succ, List.getElem?_cons_zero]; rfl)
            case hq35 => exact fun _ _ _ h => h
            case hw35 => rfl
            case hy35 => (intro wq hSw; (try dsimp only at hSw); go_simp; (try with_reducible rfl))
            (try simp only [Act.put, List.setIfInBounds_toArray, List.set_cons_zero, List.set_cons_succ])
            refine' wpAnyH_take (i := 13) (oi := _) (v := _) ?hi36 (by kernel_rfl) (by kernel_rfl) (by kernel_rfl) ?hq36 (Or.inl ⟨?hw36, ?hy36⟩) (by assumption) ?rest36
            case hi36 => (simp only [List.getElem?_toArray, List.getElem?_cons_succ, List.getElem?_cons_zero]; rfl)
            case hq36 => exact fun _ _ _ h => h
            case hw36 => rfl
            case hy36 => (intro wq hSw; (try dsimp only at hSw); go_simp; (try with_reducible rfl))
            (try simp only [Act.put, List.setIfInBounds_toArray, List.set_cons_zero, List.set_cons_succ])
            refine' wpAnyH_take (i := 14) (oi := _) (v := Value.int .i64 (q - 1)) ?hi37 (by kernel_rfl) (by kernel_rfl) (by kernel_rfl) ?hq37 (Or.inl ⟨?hw37, ?hy37⟩) (by assumption) ?rest37
            case hi37 => (simp only [List.getElem?_toArray, List.getElem?_cons_succ, List.getElem?_cons_zero]; rfl)
            case hq37 => exact fun _ _ _ h => h
            case hw37 => rfl
            case hy37 => (intro wq hSw; (try dsimp only at hSw); (try go_simp); (first | done | (with_reducible rfl) | rfl | exact HW2.out | rw [HW2.out] | simp))
            (try simp only [Act.put, List.setIfInBounds_toArray, List.set_cons_zero, List.set_cons_succ])
            refine wpAnyH_ready (rs := [11]) (by kernel_rfl) (by simp) ?_
            refine' AllReadyH.cons (o := _) ?hi38 (fun K hK => ?rest38) AllReadyH.nil
            case hi38 => (simp only [List.getElem?_toArray, List.getElem?_cons_succ, List.getElem?_cons_zero]; rfl)
            go_simp
            go_at_call 9
            refine (HLV.out _).mono ?_
            rintro e u9 ⟨rfl, rfl⟩
            go_wp2_with fail
            refine hK.out _ _ (by (try dsimp only); exact ⟨a0, a1, a2, a3, b0, b1, b2, b3, hcx, hcy⟩) (fun hHeld => ?_)
            clear hK K
            (try simp only [Act.put, List.setIfInBounds_toArray, List.set_cons_zero, List.set_cons_succ])
            refine' wpAnyH_take (i := 12) (oi := _) (v := Value.int .i64 (255 * lv)) ?hi39 (by kernel_rfl) (by kernel_rfl) (by kernel_rfl) ?hq39 (Or.inl ⟨?hw39, ?hy39⟩) (by assumption) ?rest39
            case hi39 => (simp only [List.getElem?_toArray, List.getElem?_cons_succ, List.getElem?_cons_zero]; rfl)
            case hq39 => exact fun _ _ _ h => h
            case hw39 => rfl
            case hy39 => (intro wq hSw; (try dsimp only at hSw); (try go_simp); (first | done | (with_reducible rfl) | rfl | exact HW1.out | rw [HW1.out] | simp))
            (try simp only [Act.put, List.setIfInBounds_toArray, List.set_cons_zero, List.set_cons_succ])
            refine' wpAnyH_take (i := 15) (oi := _) (v := Value.int .i64 0) ?hi40 (by kernel_rfl) (by kernel_rfl) (by kernel_rfl) ?hq40 (Or.inl ⟨?hw40, ?hy40⟩) (by assumption) ?rest40
            case hi40 => (simp only [List.getElem?_toArray, List.getElem?_cons_succ, List.getElem?_cons_zero]; rfl)
            case hq40 => exact fun _ _ _ h => h
            case hw40 => rfl
            case hy40 => (intro wq hSw; (try dsimp only at hSw); (try go_simp); (first | done | (with_reducible rfl) | rfl | (rw [HDV.out, HW3.out]) | (rw [HDV.out]) | (simp [HDV.out, HW3.out]) | simp))
            (try simp only [Act.put, List.setIfInBounds_toArray, List.set_cons_zero, List.set_cons_succ])
            refine' wpAnyH_take (i := 16) (oi := _) (v := Value.bool false) ?hi41 (by kernel_rfl) (by kernel_rfl) (by kernel_rfl) ?hq41 (Or.inl ⟨?hw41, ?hy41⟩) (by assumption) ?rest41
            case hi41 => (simp only [List.getElem?_toArray, List.getElem?_cons_succ, List.getElem?_cons_zero]; rfl)
            case hq41 => exact fun _ _ _ h => h
            case hw41 => rfl
            case hy41 => (intro wq hSw; (try dsimp only at hSw); (try go_simp); (first | done | (with_reducible rfl) | rfl | simp))
            (try simp only [Act.put, List.setIfInBounds_toArray, List.set_cons_zero, List.set_cons_succ])
            refine' wpAnyH_take (i := 17) (oi := _) (v := _) ?hi42 (by kernel_rfl) (by kernel_rfl) (by kernel_rfl) ?hq42 (Or.inl ⟨?hw42, ?hy42⟩) (by assumption) ?rest42
            case hi42 => (simp only [List.getElem?_toArray, List.getElem?_cons_succ, List.getElem?_cons_zero]; rfl)
            case hq42 => exact fun _ _ _ h => h
            case hw42 => rfl
            case hy42 => (intro wq hSw; (try dsimp only at hSw); go_simp; (try with_reducible rfl))
            (try simp only [Act.put, List.setIfInBounds_toArray, List.set_cons_zero, List.set_cons_succ])
            refine' wpAnyH_take (i := 18) (oi := _) (v := _) ?hi43 (by kernel_rfl) (by kernel_rfl) (by kernel_rfl) ?hq43 (Or.inl ⟨?hw43, ?hy43⟩) (by assumption) ?rest43
            case hi43 => (simp only [List.getElem?_toArray, List.getElem?_cons_succ, List.getElem?_cons_zero]; rfl)
            case hq43 => exact fun _ _ _ h => h
            case hw43 => rfl
            case hy43 => (intro wq hSw; (try dsimp only at hSw); go_simp; (try with_reducible rfl))
            (try simp only [Act.put, List.setIfInBounds_toArray, List.set_cons_zero, List.set_cons_succ])
            refine' wpAnyH_take (i := 19) (oi := _) (v := _) ?hi44 (by kernel_rfl) (by kernel_rfl) (by kernel_rfl) ?hq44 (Or.inl ⟨?hw44, ?hy44⟩) (by assumption) ?rest44
            case hi44 => (simp only [List.getElem?_toArray, List.getElem?_cons_succ, List.getElem?_cons_zero]; rfl)
            case hq44 => exact fun _ _ _ h => h
            case hw44 => rfl
            case hy44 => (intro wq hSw; (try dsimp only at hSw); go_simp; (try with_reducible rfl))
            (try simp only [Act.put, List.setIfInBounds_toArray, List.set_cons_zero, List.set_cons_succ])
            refine' wpAnyH_take (i := 20) (oi := _) (v := _) ?hi45 (by kernel_rfl) (by kernel_rfl) (by kernel_rfl) ?hq45 (Or.inl ⟨?hw45, ?hy45⟩) (by assumption) ?rest45
            case hi45 => (simp only [List.getElem?_toArray, List.getElem?_cons_succ, List.getElem?_cons_zero]; rfl)
            case hq45 => exact fun _ _ _ h => h
            case hw45 => rfl
            case hy45 => (intro wq hSw; (try dsimp only at hSw); go_simp; (try with_reducible rfl))
            (try simp only [Act.put, List.setIfInBounds_toArray, List.set_cons_zero, List.set_cons_succ])
            refine' wpAnyH_take (i := 21) (oi := _) (v := _) ?hi46 (by kernel_rfl) (by kernel_rfl) (by kernel_rfl) ?hq46 (Or.inl ⟨?hw46, ?hy46⟩) (by assumption) ?rest46
            case hi46 => (simp only [List.getElem?_toArray, List.getElem?_cons_succ, List.getElem?_cons_zero]; rfl)
            case hq46 => exact fun _ _ _ h => h
            case hw46 => rfl
            case hy46 => (intro wq hSw; (try dsimp only at hSw); go_simp; (try with_reducible rfl))
            (try simp only [Act.put, List.setIfInBounds_toArray, List.set_cons_zero, List.set_cons_succ])
            refine' wpAnyH_take (i := 22) (oi := _) (v := _) ?hi47 (by kernel_rfl) (by kernel_rfl) (by kernel_rfl) ?hq47 (Or.inl ⟨?hw47, ?hy47⟩) (by assumption) ?rest47
            case hi47 => (simp only [List.getElem?_toArray, List.getElem?_cons_succ, List.getElem?_cons_zero]; rfl)
            case hq47 => exact fun _ _ _ h => h
            case hw47 => rfl
            case hy47 => (intro wq hSw; (try dsimp only at hSw); go_simp; (try with_reducible rfl))
            (try simp only [Act.put, List.setIfInBounds_toArray, List.set_cons_zero, List.set_cons_succ])
            refine' wpAnyH_take (i := 23) (oi := _) (v := Value.bool true) ?hi48 (by kernel_rfl) (by kernel_rfl) (by kernel_rfl) ?hq48 (Or.inl ⟨?hw48, ?hy48⟩) (by assumption) ?rest48
            case hi48 => (simp only [List.getElem?_toArray, List.getElem?_cons_succ, List.getElem?_cons_zero]; rfl)
            case hq48 => exact fun _ _ _ h => h
            case hw48 => rfl
            case hy48 => (intro wq hSw; (try dsimp only at hSw); (try go_simp); (first | done | (with_reducible rfl) | rfl | simp))
            (try simp only [Act.put, List.setIfInBounds_toArray, List.set_cons_zero, List.set_cons_succ])
            refine' wpAnyH_take (i := 24) (oi := _) (v := _) ?hi49 (by kernel_rfl) (by kernel_rfl) (by kernel_rfl) ?hq49 (Or.inl ⟨?hw49, ?hy49⟩) (by assumption) ?rest49
            case hi49 => (simp only [List.getElem?_toArray, List.getElem?_cons_succ, List.getElem?_cons_zero]; rfl)
            case hq49 => exact fun _ _ _ h => h
            case hw49 => rfl
            case hy49 => (intro wq hSw; (try dsimp only at hSw); go_simp; (try with_reducible rfl))
            (try simp only [Act.put, List.setIfInBounds_toArray, List.set_cons_zero, List.set_cons_succ])
            refine' wpAnyH_take (i := 25) (oi := _) (v := _) ?hi50 (by kernel_rfl) (by kernel_rfl) (by kernel_rfl) ?hq50 (Or.inl ⟨?hw50, ?hy50⟩) (by assumption) ?rest50
            case hi50 => (simp only [List.getElem?_toArray, List.getElem?_cons_succ, List.getElem?_cons_zero]; rfl)
            case hq50 => exact fun _ _ _ h => h
            case hw50 => rfl
            case hy50 => (intro wq hSw; (try dsimp only at hSw); go_simp; (try with_reducible rfl))
            (try simp only [Act.put, List.setIfInBounds_toArray, List.set_cons_zero, List.set_cons_succ])
            refine' wpAnyH_take (i := 26) (oi := _) (v := _) ?hi51 (by kernel_rfl) (by kernel_rfl) (by kernel_rfl) ?hq51 (Or.inl ⟨?hw51, ?hy51⟩) (by assumption) ?rest51
            case hi51 => (simp only [List.getElem?_toArray, List.getElem?_cons_succ, List.getElem?_cons_zero]; rfl)
            case hq51 => exact fun _ _ _ h => h
            case hw51 => rfl
            case hy51 => (intro wq hSw; (try dsimp only at hSw); go_simp; (try with_reducible rfl))
            (try simp only [Act.put, List.setIfInBounds_toArray, List.set_cons_zero, List.set_cons_succ])
            refine' wpAnyH_take (i := 27) (oi := _) (v := _) ?hi52 (by kernel_rfl) (by kernel_rfl) (by kernel_rfl) ?hq52 (Or.inl ⟨?hw52, ?hy52⟩) (by assumption) ?rest52
            case hi52 => (simp only [List.getElem?_toArray, List.getElem?_cons_succ, List.getElem?_cons_zero]; rfl)
            case hq52 => exact fun _ _ _ h => h
            case hw52 => rfl
            case hy52 => (intro wq hSw; (try dsimp only at hSw); go_simp; (try with_reducible rfl))
            (try simp only [Act.put, List.setIfInBounds_toArray, List.set_cons_zero, List.set_cons_succ])
            refine' wpAnyH_take (i := 28) (oi := _) (v := _) ?hi53 (by kernel_rfl) (by kernel_rfl) (by kernel_rfl) ?hq53 (Or.inl ⟨?hw53, ?hy53⟩) (by assumption) ?rest53
            case hi53 => (simp only [List.getElem?_toArray, List.getElem?_cons_succ, List.getElem?_cons_zero]; rfl)
            case hq53 => exact fun _ _ _ h => h
            case hw53 => rfl
            case hy53 => (intro wq hSw; (try dsimp only at hSw); go_simp; (try with_reducible rfl))
            (try simp only [Act.put, List.setIfInBounds_toArray, List.set_cons_zero, List.set_cons_succ])
            refine' wpAnyH_take (i := 29) (oi := _) (v := _) ?hi54 (by kernel_rfl) (by kernel_rfl) (by kernel_rfl) ?hq54 (Or.inl ⟨?hw54, ?hy54⟩) (by assumption) ?rest54
            case hi54 => (simp only [List.getElem?_toArray, List.getElem?_cons_succ, List.getElem?_cons_zero]; rfl)
            case hq54 => exact fun _ _ _ h => h
            case hw54 => rfl
            case hy54 => (intro wq hSw; (try dsimp only at hSw); go_simp; (try with_reducible rfl))
            (try simp only [Act.put, List.setIfInBounds_toArray, List.set_cons_zero, List.set_cons_succ])
            refine' wpAnyH_take (i := 30) (oi := _) (v := Value.bool false) ?hi55 (by kernel_rfl) (by kernel_rfl) (by kernel_rfl) ?hq55 (Or.inl ⟨?hw55, ?hy55⟩) (by assumption) ?rest55
            case hi55 => (simp only [List.getElem?_toArray, List.getElem?_cons_succ, List.getElem?_cons_zero]; rfl)
            case hq55 => exact fun _ _ _ h => h
            case hw55 => rfl
            case hy55 => (intro wq hSw; (try dsimp only at hSw); (try go_simp); (first | done | (with_reducible rfl) | rfl | simp))
            (try simp only [Act.put, List.setIfInBounds_toArray, List.set_cons_zero, List.set_cons_succ])
            refine' wpAnyH_take (i := 31) (oi := _) (v := Value.bool false) ?hi56 (by kernel_rfl) (by kernel_rfl) (by kernel_rfl) ?hq56 (Or.inl ⟨?hw56, ?hy56⟩) (by assumption) ?rest56
            case hi56 => (simp only [List.getElem?_toArray, List.getElem?_cons_succ, List.getElem?_cons_zero]; rfl)
            case hq56 => exact fun _ _ _ h => h
            case hw56 => rfl
            case hy56 => (intro wq hSw; (try dsimp only at hSw); (try go_simp); (first | done | (with_reducible rfl) | rfl | simp))
            (try simp only [Act.put, List.setIfInBounds_toArray, List.set_cons_zero, List.set_cons_succ])
            refine' wpAnyH_take (i := 32) (oi := _) (v := Value.bool false) ?hi57 (by kernel_rfl) (by kernel_rfl) (by kernel_rfl) ?hq57 (Or.inl ⟨?hw57, ?hy57⟩) (by assumption) ?rest57
            case hi57 => (simp only [List.getElem?_toArray, List.getElem?_cons_succ, List.getElem?_cons_zero]; rfl)
            case hq57 => exact fun _ _ _ h => h
            case hw57 => rfl
            case hy57 => (intro wq hSw; (try dsimp only at hSw); (try go_simp); (first | done | (with_reducible rfl) | rfl | simp))
            (try simp only [Act.put, List.setIfInBounds_toArray, List.set_cons_zero, List.set_cons_succ])
            refine' wpAnyH_take (i := 33) (oi := _) (v := _) ?hi58 (by kernel_rfl) (by kernel_rfl) (by kernel_rfl) ?hq58 (Or.inl ⟨?hw58, ?hy58⟩) (by assumption) ?rest58
            case hi58 => (simp only [List.getElem?_toArray, List.getElem?_cons_succ, List.getElem?_cons_zero]; rfl)
            case hq58 => exact fun _ _ _ h => h
            case hw58 => rfl
            case hy58 => (intro wq hSw; (try dsimp only at hSw); go_simp; (try with_reducible rfl))
            (try simp only [Act.put, List.setIfInBounds_toArray, List.set_cons_zero, List.set_cons_succ])
            refine' wpAnyH_take (i := 34) (oi := _) (v := _) ?hi59 (by kernel_rfl) (by kernel_rfl) (by kernel_rfl) ?hq59 (Or.inl ⟨?hw59, ?hy59⟩) (by assumption) ?rest59
            case hi59 => (simp only [List.getElem?_toArray, List.getElem?_cons_succ, List.getElem?_cons_zero]; rfl)
            case hq59 => exact fun _ _ _ h => h
            case hw59 => rfl
            case hy59 => (intro wq hSw; (try dsimp only at hSw); go_simp; (try with_reducible rfl))
            (try simp only [Act.put, List.setIfInBounds_toArray, List.set_cons_zero, List.set_cons_succ])
            refine' wpAnyH_take (i := 35) (oi := _) (v := _) ?hi60 (by kernel_rfl) (by kernel_rfl) (by kernel_rfl) ?hq60 (Or.inl ⟨?hw60, ?hy60⟩) (by assumption) ?rest60
            case hi60 => (simp only [List.getElem?_toArray, List.getElem?_cons_succ, List.getElem?_cons_zero]; rfl)
            case hq60 => exact fun _ _ _ h => h
            case hw60 => rfl
            case hy60 => (intro wq hSw; (try dsimp only at hSw); go_simp; (try with_reducible rfl))
            (try simp only [Act.put, List.setIfInBounds_toArray, List.set_cons_zero, List.set_cons_succ])
            refine' wpAnyH_take (i := 36) (oi := _) (v := _) ?hi61 (by kernel_rfl) (by kernel_rfl) (by kernel_rfl) ?hq61 (Or.inl ⟨?hw61, ?hy61⟩) (by assumption) ?rest61
            case hi61 => (simp only [List.getElem?_toArray, List.getElem?_cons_succ, List.getElem?_cons_zero]; rfl)
            case hq61 => exact fun _ _ _ h => h
            case hw61 => rfl
            case hy61 => (intro wq hSw; (try dsimp only at hSw); go_simp; (try with_reducible rfl))
            (try simp only [Act.put, List.setIfInBounds_toArray, List.set_cons_zero, List.set_cons_succ])
            refine' wpAnyH_take (i := 37) (oi := _) (v := _) ?hi62 (by kernel_rfl) (by kernel_rfl) (by kernel_rfl) ?hq62 (Or.inl ⟨?hw62, ?hy62⟩) (by assumption) ?rest62
            case hi62 => (simp only [List.getElem?_toArray, List.getElem?_cons_succ, List.getElem?_cons_zero]; rfl)
            case hq62 => exact fun _ _ _ h => h
            case hw62 => rfl
            case hy62 => (intro wq hSw; (try dsimp only at hSw); go_simp; (try with_reducible rfl))
            (try simp only [Act.put, List.setIfInBounds_toArray, List.set_cons_zero, List.set_cons_succ])
            refine' wpAnyH_take (i := 38) (oi := _) (v := _) ?hi63 (by kernel_rfl) (by kernel_rfl) (by kernel_rfl) ?hq63 (Or.inl ⟨?hw63, ?hy63⟩) (by assumption) ?rest63
            case hi63 => (simp only [List.getElem?_toArray, List.getElem?_cons_succ, List.getElem?_cons_zero]; rfl)
            case hq63 => exact fun _ _ _ h => h
            case hw63 => rfl
            case hy63 => (intro wq hSw; (try dsimp only at hSw); go_simp; (try with_reducible rfl))
            (try simp only [Act.put, List.setIfInBounds_toArray, List.set_cons_zero, List.set_cons_succ])
            refine' wpAnyH_take (i := 39) (oi := _) (v := Value.bool false) ?hi64 (by kernel_rfl) (by kernel_rfl) (by kernel_rfl) ?hq64 (Or.inl ⟨?hw64, ?hy64⟩) (by assumption) ?rest64
            case hi64 => (simp only [List.getElem?_toArray, List.getElem?_cons_succ, List.getElem?_cons_zero]; rfl)
            case hq64 => exact fun _ _ _ h => h
            case hw64 => rfl
            case hy64 => (intro wq hSw; (try dsimp only at hSw); (try go_simp); (first | done | (with_reducible rfl) | rfl | simp))
            (try simp only [Act.put, List.setIfInBounds_toArray, List.set_cons_zero, List.set_cons_succ])
            refine' wpAnyH_take (i := 40) (oi := _) (v := _) ?hi65 (by kernel_rfl) (by kernel_rfl) (by kernel_rfl) ?hq65 (Or.inl ⟨?hw65, ?hy65⟩) (by assumption) ?rest65
            case hi65 => (simp only [List.getElem?_toArray, List.getElem?_cons_succ, List.getElem?_cons_zero]; rfl)
            case hq65 => exact fun _ _ _ h => h
            case hw65 => rfl
            case hy65 => (intro wq hSw; (try dsimp only at hSw); go_simp; (try with_reducible rfl))
            (try simp only [Act.put, List.setIfInBounds_toArray, List.set_cons_zero, List.set_cons_succ])
            refine' wpAnyH_take (i := 41) (oi := _) (v := undef) ?hi66 (by kernel_rfl) (by kernel_rfl) (by kernel_rfl) ?hq66 (Or.inr ?hw66) (by assumption) ?rest66
            case hi66 => (simp only [List.getElem?_toArray, List.getElem?_cons_succ, List.getElem?_cons_zero]; rfl)
            case hq66 => exact fun _ _ _ h => h
            case hw66 => exact ⟨rfl, rfl⟩
            (try simp only [Act.put, List.setIfInBounds_toArray, List.set_cons_zero, List.set_cons_succ])
            refine' wpAnyH_take (i := 42) (oi := _) (v := undef) ?hi67 (by kernel_rfl) (by kernel_rfl) (by kernel_rfl) ?hq67 (Or.inr ?hw67) (by assumption) ?rest67
            case hi67 => (simp only [List.getElem?_toArray, List.getElem?_cons_succ, List.getElem?_cons_zero]; rfl)
            case hq67 => exact fun _ _ _ h => h
            case hw67 => exact ⟨rfl, rfl⟩
            (try simp only [Act.put, List.setIfInBounds_toArray, List.set_cons_zero, List.set_cons_succ])
            refine' wpAnyH_take (i := 43) (oi := _) (v := undef) ?hi68 (by kernel_rfl) (by kernel_rfl) (by kernel_rfl) ?hq68 (Or.inr ?hw68) (by assumption) ?rest68
            case hi68 => (simp only [List.getElem?_toArray, List.getElem?_cons_succ, List.getElem?_cons_zero]; rfl)
            case hq68 => exact fun _ _ _ h => h
            case hw68 => exact ⟨rfl, rfl⟩
            (try simp only [Act.put, List.setIfInBounds_toArray, List.set_cons_zero, List.set_cons_succ])
            refine' wpAnyH_take (i := 44) (oi := _) (v := undef) ?hi69 (by kernel_rfl) (by kernel_rfl) (by kernel_rfl) ?hq69 (Or.inr ?hw69) (by assumption) ?rest69
            case hi69 => (simp only [List.getElem?_toArray, List.getElem?_cons_succ, List.getElem?_cons_zero]; rfl)
            case hq69 => exact fun _ _ _ h => h
            case hw69 => exact ⟨rfl, rfl⟩
            (try simp only [Act.put, List.setIfInBounds_toArray, List.set_cons_zero, List.set_cons_succ])
            refine' wpAnyH_take (i := 45) (oi := _) (v := undef) ?hi70 (by kernel_rfl) (by kernel_rfl) (by kernel_rfl) ?hq70 (Or.inr ?hw70) (by assumption) ?rest70
            case hi70 => (simp only [List.getElem?_toArray, List.getElem?_cons_succ, List.getElem?_cons_zero]; rfl)
            case hq70 => exact fun _ _ _ h => h
            case hw70 => exact ⟨rfl, rfl⟩
            (try simp only [Act.put, List.setIfInBounds_toArray, List.set_cons_zero, List.set_cons_succ])
            refine' wpAnyH_take (i := 46) (oi := _) (v := undef) ?hi71 (by kernel_rfl) (by kernel_rfl) (by kernel_rfl) ?hq71 (Or.inr ?hw71) (by assumption) ?rest71
            case hi71 => (simp only [List.getElem?_toArray, List.getElem?_cons_succ, List.getElem?_cons_zero]; rfl)
            case hq71 => exact fun _ _ _ h => h
            case hw71 => exact ⟨rfl, rfl⟩
            (try simp only [Act.put, List.setIfInBounds_toArray, List.set_cons_zero, List.set_cons_succ])
            refine' wpAnyH_take (i := 47) (oi := _) (v := Value.bool false) ?hi72 (by kernel_rfl) (by kernel_rfl) (by kernel_rfl) ?hq72 (Or.inl ⟨?hw72, ?hy72⟩) (by assumption) ?rest72
            case hi72 => (simp only [List.getElem?_toArray, List.getElem?_cons_succ, List.getElem?_cons_zero]; rfl)
            case hq72 => exact fun _ _ _ h => h
            case hw72 => rfl
            case hy72 => (intro wq hSw; (try dsimp only at hSw); (try go_simp); (first | done | (with_reducible rfl) | rfl | simp))
            (try simp only [Act.put, List.setIfInBounds_toArray, List.set_cons_zero, List.set_cons_succ])
            refine' wpAnyH_take (i := 48) (oi := _) (v := Value.bool false) ?hi73 (by kernel_rfl) (by kernel_rfl) (by kernel_rfl) ?hq73 (Or.inl ⟨?hw73, ?hy73⟩) (by assumption) ?rest73
            case hi73 => (simp only [List.getElem?_toArray, List.getElem?_cons_succ, List.getElem?_cons_zero]; rfl)
            case hq73 => exact fun _ _ _ h => h
            case hw73 => rfl
            case hy73 => (intro wq hSw; (try dsimp only at hSw); (try go_simp); (first | done | (with_reducible rfl) | rfl | simp))
            (try simp only [Act.put, List.setIfInBounds_toArray, List.set_cons_zero, List.set_cons_succ])
            refine wpAnyH_done (by kernel_rfl) ?_ _
            clear HLV HW1 HW2 HW3 HDV
            go_wp2
            go_roundw
            case rel => exact ⟨k + 1, by omega, by go_num, Lib.hid (HN.out _ (by first | rfl | omega | (rw [Int.min_def]; split <;> split <;> omega)))⟩
            case measure => simp [intOf]; omega
          · obtain rfl := hf255 rfl
            clear hz hf255
            refine wp_region_held_drew (S := (fun w' => w'.cell? ⟨bg, 0, none⟩ = some ((.int .i64 (wd : Int))) ∧ w'.cell? ⟨bg, 1, none⟩ = some (.int .i64 (hh : Int)) ∧ w'.cell? ⟨bg, 2, none⟩ = some (.int .i64 1) ∧ w'.cell? ⟨bg, 3, none⟩ = some (.slice (some ⟨ab, ao, none⟩) xs.length c1) ∧ w'.cell? ⟨bh, 0, none⟩ = some (.int .i64 (wd : Int)) ∧ w'.cell? ⟨bh, 1, none⟩ = some (.int .i64 (hh : Int)) ∧ w'.cell? ⟨bh, 2, none⟩ = some (.int .i64 1) ∧ w'.cell? ⟨bh, 3, none⟩ = some (.slice (some ⟨yb, yo, none⟩) ys.length c2) ∧ w'.cell? ⟨ab, ao + k, none⟩ = some (.int .i64 255) ∧ w'.cell? ⟨yb, yo + k, none⟩ = some (.int .i64 255))) (by kernel_rfl) (by exact ⟨a0, a1, a2, a3, b0, b1, b2, b3, hcx, hcy⟩) (fun hHeld => ?_)
            refine' wpAnyH_take (i := 0) (oi := _) (v := _) ?hi74 (by kernel_rfl) (by kernel_rfl) (by kernel_rfl) ?hq74 (Or.inl ⟨?hw74, ?hy74⟩) (by assumption) ?rest74
            case hi74 => (simp only [List.getElem?_toArray, List.getElem?_cons_succ, List.getElem?_cons_zero]; rfl)
            case hq74 => exact fun _ _ _ h => h
            case hw74 => rfl
            case hy74 => (intro wq hSw; (try dsimp only at hSw); go_simp; (try with_reducible rfl))
            (try simp only [Act.put, List.setIfInBounds_toArray, List.set_cons_zero, List.set_cons_succ])
            refine' wpAnyH_take (i := 1) (oi := _) (v := _) ?hi75 (by kernel_rfl) (by kernel_rfl) (by kernel_rfl) ?hq75 (Or.inl ⟨?hw75, ?hy75⟩) (by assumption) ?rest75
            case hi75 => (simp only [List.getElem?_toArray, List.getElem?_cons_succ, List.getElem?_cons_zero]; rfl)
            case hq75 => exact fun _ _ _ h => h
            case hw75 => rfl
            case hy75 => (intro wq hSw; (try dsimp only at hSw); go_simp; (try with_reducible rfl))
            (try simp only [Act.put, List.setIfInBounds_toArray, List.set_cons_zero, List.set_cons_succ])
            refine' wpAnyH_take (i := 2) (oi := _) (v := _) ?hi76 (by kernel_rfl) (by kernel_rfl) (by kernel_rfl) ?hq76 (Or.inl ⟨?hw76, ?hy76⟩) (by assumption) ?rest76
            case hi76 => (simp only [List.getElem?_toArray, List.getElem?_cons_succ, List.getElem?_cons_zero]; rfl)
            case hq76 => exact fun _ _ _ h => h
            case hw76 => rfl
            case hy76 => (intro wq hSw; (try dsimp only at hSw); go_simp; (try with_reducible rfl))
            (try simp only [Act.put, List.setIfInBounds_toArray, List.set_cons_zero, List.set_cons_succ])
            refine' wpAnyH_take (i := 3) (oi := _) (v := _) ?hi77 (by kernel_rfl) (by kernel_rfl) (by kernel_rfl) ?hq77 (Or.inl ⟨?hw77, ?hy77⟩) (by assumption) ?rest77
            case hi77 => (simp only [List.getElem?_toArray, List.getElem?_cons_succ, List.getElem?_cons_zero]; rfl)
            case hq77 => exact fun _ _ _ h => h
            case hw77 => rfl
            case hy77 => (intro wq hSw; (try dsimp only at hSw); go_simp; (try with_reducible rfl))
            (try simp only [Act.put, List.setIfInBounds_toArray, List.set_cons_zero, List.set_cons_succ])
            refine' wpAnyH_take (i := 4) (oi := _) (v := _) ?hi78 (by kernel_rfl) (by kernel_rfl) (by kernel_rfl) ?hq78 (Or.inl ⟨?hw78, ?hy78⟩) (by assumption) ?rest78
            case hi78 => (simp only [List.getElem?_toArray, List.getElem?_cons_succ, List.getElem?_cons_zero]; rfl)
            case hq78 => exact fun _ _ _ h => h
            case hw78 => rfl
            case hy78 => (intro wq hSw; (try dsimp only at hSw); go_simp; (try with_reducible rfl))
            (try simp only [Act.put, List.setIfInBounds_toArray, List.set_cons_zero, List.set_cons_succ])
            refine' wpAnyH_take (i := 5) (oi := _) (v := _) ?hi79 (by kernel_rfl) (by kernel_rfl) (by kernel_rfl) ?hq79 (Or.inl ⟨?hw79, ?hy79⟩) (by assumption) ?rest79
            case hi79 => (simp only [List.getElem?_toArray, List.getElem?_cons_succ, List.getElem?_cons_zero]; rfl)
            case hq79 => exact fun _ _ _ h => h
            case hw79 => rfl
            case hy79 => (intro wq hSw; (try dsimp only at hSw); go_simp; (try with_reducible rfl))
            (try simp only [Act.put, List.setIfInBounds_toArray, List.set_cons_zero, List.set_cons_succ])
            refine' wpAnyH_take (i := 6) (oi := _) (v := _) ?hi80 (by kernel_rfl) (by kernel_rfl) (by kernel_rfl) ?hq80 (Or.inl ⟨?hw80, ?hy80⟩) (by assumption) ?rest80
            case hi80 => (simp only [List.getElem?_toArray, List.getElem?_cons_succ, List.getElem?_cons_zero]; rfl)
            case hq80 => exact fun _ _ _ h => h
            case hw80 => rfl
            case hy80 => (intro wq hSw; (try dsimp only at hSw); go_simp; (try with_reducible rfl))
            (try simp only [Act.put, List.setIfInBounds_toArray, List.set_cons_zero, List.set_cons_succ])
            refine' wpAnyH_take (i := 7) (oi := _) (v := _) ?hi81 (by kernel_rfl) (by kernel_rfl) (by kernel_rfl) ?hq81 (Or.inl ⟨?hw81, ?hy81⟩) (by assumption) ?rest81
            case hi81 => (simp only [List.getElem?_toArray, List.getElem?_cons_succ, List.getElem?_cons_zero]; rfl)
            case hq81 => exact fun _ _ _ h => h
            case hw81 => rfl
            case hy81 => (intro wq hSw; (try dsimp only at hSw); go_simp; (try with_reducible rfl))
            (try simp only [Act.put, List.setIfInBounds_toArray, List.set_cons_zero, List.set_cons_succ])
            refine' wpAnyH_take (i := 8) (oi := _) (v := _) ?hi82 (by kernel_rfl) (by kernel_rfl) (by kernel_rfl) ?hq82 (Or.inl ⟨?hw82, ?hy82⟩) (by assumption) ?rest82
            case hi82 => (simp only [List.getElem?_toArray, List.getElem?_cons_succ, List.getElem?_cons_zero]; rfl)
            case hq82 => exact fun _ _ _ h => h
            case hw82 => rfl
            case hy82 => (intro wq hSw; (try dsimp only at hSw); go_simp; (try with_reducible rfl))
            (try simp only [Act.put, List.setIfInBounds_toArray, List.set_cons_zero, List.set_cons_succ])
            refine' wpAnyH_take (i := 9) (oi := _) (v := _) ?hi83 (by kernel_rfl) (by kernel_rfl) (by kernel_rfl) ?hq83 (Or.inl ⟨?hw83, ?hy83⟩) (by assumption) ?rest83
            case hi83 => (simp only [List.getElem?_toArray, List.getElem?_cons_succ, List.getElem?_cons_zero]; rfl)
            case hq83 => exact fun _ _ _ h => h
            case hw83 => rfl
            case hy83 => (intro wq hSw; (try dsimp only at hSw); go_simp; (try with_reducible rfl))
            (try simp only [Act.put, List.setIfInBounds_toArray, List.set_cons_zero, List.set_cons_succ])
            refine' wpAnyH_take (i := 10) (oi := _) (v := _) ?hi84 (by kernel_rfl) (by kernel_rfl) (by kernel_rfl) ?hq84 (Or.inl ⟨?hw84, ?hy84⟩) (by assumption) ?rest84
            case hi84 => (simp only [List.getElem?_toArray, List.getElem?_cons_succ, List.getElem?_cons_zero]; rfl)
            case hq84 => exact fun _ _ _ h => h
            case hw84 => rfl
            case hy84 => (intro wq hSw; (try dsimp only at hSw); go_simp; (try with_reducible rfl))
            (try simp only [Act.put, List.setIfInBounds_toArray, List.set_cons_zero, List.set_cons_succ])
            refine' wpAnyH_take (i := 13) (oi := _) (v := _) ?hi85 (by kernel_rfl) (by kernel_rfl) (by kernel_rfl) ?hq85 (Or.inl ⟨?hw85, ?hy85⟩) (by assumption) ?rest85
            case hi85 => (simp only [List.getElem?_toArray, List.getElem?_cons_succ, List.getElem?_cons_zero]; rfl)
            case hq85 => exact fun _ _ _ h => h
            case hw85 => rfl
            case hy85 => (intro wq hSw; (try dsimp only at hSw); go_simp; (try with_reducible rfl))
            (try simp only [Act.put, List.setIfInBounds_toArray, List.set_cons_zero, List.set_cons_succ])
            refine' wpAnyH_take (i := 14) (oi := _) (v := Value.int .i64 (q - 1)) ?hi86 (by kernel_rfl) (by kernel_rfl) (by kernel_rfl) ?hq86 (Or.inl ⟨?hw86, ?hy86⟩) (by assumption) ?rest86
            case hi86 => (simp only [List.getElem?_toArray, List.getElem?_cons_succ, List.getElem?_cons_zero]; rfl)
            case hq86 => exact fun _ _ _ h => h
            case hw86 => rfl
            case hy86 => (intro wq hSw; (try dsimp only at hSw); (try go_simp); (first | done | (with_reducible rfl) | rfl | exact HW2.out | rw [HW2.out] | simp))
            (try simp only [Act.put, List.setIfInBounds_toArray, List.set_cons_zero, List.set_cons_succ])
            refine wpAnyH_ready (rs := [11]) (by kernel_rfl) (by simp) ?_
            refine' AllReadyH.cons (o := _) ?hi87 (fun K hK => ?rest87) AllReadyH.nil
            case hi87 => (simp only [List.getElem?_toArray, List.getElem?_cons_succ, List.getElem?_cons_zero]; rfl)
            go_simp
            go_at_call 9
            refine (HLV.out _).mono ?_
            rintro e u9 ⟨rfl, rfl⟩
            go_wp2_with fail
            refine hK.out _ _ (by (try dsimp only); exact ⟨a0, a1, a2, a3, b0, b1, b2, b3, hcx, hcy⟩) (fun hHeld => ?_)
            clear hK K
            (try simp only [Act.put, List.setIfInBounds_toArray, List.set_cons_zero, List.set_cons_succ])
            refine' wpAnyH_take (i := 12) (oi := _) (v := Value.int .i64 (255 * lv)) ?hi88 (by kernel_rfl) (by kernel_rfl) (by kernel_rfl) ?hq88 (Or.inl ⟨?hw88, ?hy88⟩) (by assumption) ?rest88
            case hi88 => (simp only [List.getElem?_toArray, List.getElem?_cons_succ, List.getElem?_cons_zero]; rfl)
            case hq88 => exact fun _ _ _ h => h
            case hw88 => rfl
            case hy88 => (intro wq hSw; (try dsimp only at hSw); (try go_simp); (first | done | (with_reducible rfl) | rfl | exact HW1.out | rw [HW1.out] | simp))
            (try simp only [Act.put, List.setIfInBounds_toArray, List.set_cons_zero, List.set_cons_succ])
            refine' wpAnyH_take (i := 15) (oi := _) (v := Value.int .i64 255) ?hi89 (by kernel_rfl) (by kernel_rfl) (by kernel_rfl) ?hq89 (Or.inl ⟨?hw89, ?hy89⟩) (by assumption) ?rest89
            case hi89 => (simp only [List.getElem?_toArray, List.getElem?_cons_succ, List.getElem?_cons_zero]; rfl)
            case hq89 => exact fun _ _ _ h => h
            case hw89 => rfl
            case hy89 => (intro wq hSw; (try dsimp only at hSw); (try go_simp); (first | done | (with_reducible rfl) | rfl | (rw [HDV.out, HW3.out]) | (rw [HDV.out]) | (simp [HDV.out, HW3.out]) | simp))
            (try simp only [Act.put, List.setIfInBounds_toArray, List.set_cons_zero, List.set_cons_succ])
            refine' wpAnyH_take (i := 16) (oi := _) (v := Value.bool false) ?hi90 (by kernel_rfl) (by kernel_rfl) (by kernel_rfl) ?hq90 (Or.inl ⟨?hw90, ?hy90⟩) (by assumption) ?rest90
            case hi90 => (simp only [List.getElem?_toArray, List.getElem?_cons_succ, List.getElem?_cons_zero]; rfl)
            case hq90 => exact fun _ _ _ h => h
            case hw90 => rfl
            case hy90 => (intro wq hSw; (try dsimp only at hSw); (try go_simp); (first | done | (with_reducible rfl) | rfl | simp))
            (try simp only [Act.put, List.setIfInBounds_toArray, List.set_cons_zero, List.set_cons_succ])
            refine' wpAnyH_take (i := 17) (oi := _) (v := _) ?hi91 (by kernel_rfl) (by kernel_rfl) (by kernel_rfl) ?hq91 (Or.inl ⟨?hw91, ?hy91⟩) (by assumption) ?rest91
            case hi91 => (simp only [List.getElem?_toArray, List.getElem?_cons_succ, List.getElem?_cons_zero]; rfl)
            case hq91 => exact fun _ _ _ h => h
            case hw91 => rfl
            case hy91 => (intro wq hSw; (try dsimp only at hSw); go_simp; (try with_reducible rfl))
            (try simp only [Act.put, List.setIfInBounds_toArray, List.set_cons_zero, List.set_cons_succ])
            refine' wpAnyH_take (i := 18) (oi := _) (v := _) ?hi92 (by kernel_rfl) (by kernel_rfl) (by kernel_rfl) ?hq92 (Or.inl ⟨?hw92, ?hy92⟩) (by assumption) ?rest92
            case hi92 => (simp only [List.getElem?_toArray, List.getElem?_cons_succ, List.getElem?_cons_zero]; rfl)
            case hq92 => exact fun _ _ _ h => h
            case hw92 => rfl
            case hy92 => (intro wq hSw; (try dsimp only at hSw); go_simp; (try with_reducible rfl))
            (try simp only [Act.put, List.setIfInBounds_toArray, List.set_cons_zero, List.set_cons_succ])
            refine' wpAnyH_take (i := 19) (oi := _) (v := _) ?hi93 (by kernel_rfl) (by kernel_rfl) (by kernel_rfl) ?hq93 (Or.inl ⟨?hw93, ?hy93⟩) (by assumption) ?rest93
            case hi93 => (simp only [List.getElem?_toArray, List.getElem?_cons_succ, List.getElem?_cons_zero]; rfl)
            case hq93 => exact fun _ _ _ h => h
            case hw93 => rfl
            case hy93 => (intro wq hSw; (try dsimp only at hSw); go_simp; (try with_reducible rfl))
            (try simp only [Act.put, List.setIfInBounds_toArray, List.set_cons_zero, List.set_cons_succ])
            refine' wpAnyH_take (i := 20) (oi := _) (v := _) ?hi94 (by kernel_rfl) (by kernel_rfl) (by kernel_rfl) ?hq94 (Or.inl ⟨?hw94, ?hy94⟩) (by assumption) ?rest94
            case hi94 => (simp only [List.getElem?_toArray, List.getElem?_cons_succ, List.getElem?_cons_zero]; rfl)
            case hq94 => exact fun _ _ _ h => h
            case hw94 => rfl
            case hy94 => (intro wq hSw; (try dsimp only at hSw); go_simp; (try with_reducible rfl))
            (try simp only [Act.put, List.setIfInBounds_toArray, List.set_cons_zero, List.set_cons_succ])
            refine' wpAnyH_take (i := 21) (oi := _) (v := _) ?hi95 (by kernel_rfl) (by kernel_rfl) (by kernel_rfl) ?hq95 (Or.inl ⟨?hw95, ?hy95⟩) (by assumption) ?rest95
            case hi95 => (simp only [List.getElem?_toArray, List.getElem?_cons_succ, List.getElem?_cons_zero]; rfl)
            case hq95 => exact fun _ _ _ h => h
            case hw95 => rfl
            case hy95 => (intro wq hSw; (try dsimp only at hSw); go_simp; (try with_reducible rfl))
            (try simp only [Act.put, List.setIfInBounds_toArray, List.set_cons_zero, List.set_cons_succ])
            refine' wpAnyH_take (i := 22) (oi := _) (v := _) ?hi96 (by kernel_rfl) (by kernel_rfl) (by kernel_rfl) ?hq96 (Or.inl ⟨?hw96, ?hy96⟩) (by assumption) ?rest96
            case hi96 => (simp only [List.getElem?_toArray, List.getElem?_cons_succ, List.getElem?_cons_zero]; rfl)
            case hq96 => exact fun _ _ _ h => h
            case hw96 => rfl
            case hy96 => (intro wq hSw; (try dsimp only at hSw); go_simp; (try with_reducible rfl))
            (try simp only [Act.put, List.setIfInBounds_toArray, List.set_cons_zero, List.set_cons_succ])
            refine' wpAnyH_take (i := 23) (oi := _) (v := Value.bool false) ?hi97 (by kernel_rfl) (by kernel_rfl) (by kernel_rfl) ?hq97 (Or.inl ⟨?hw97, ?hy97⟩) (by assumption) ?rest97
            case hi97 => (simp only [List.getElem?_toArray, List.getElem?_cons_succ, List.getElem?_cons_zero]; rfl)
            case hq97 => exact fun _ _ _ h => h
            case hw97 => rfl
            case hy97 => (intro wq hSw; (try dsimp only at hSw); (try go_simp); (first | done | (with_reducible rfl) | rfl | simp))
            (try simp only [Act.put, List.setIfInBounds_toArray, List.set_cons_zero, List.set_cons_succ])
            refine' wpAnyH_take (i := 24) (oi := _) (v := _) ?hi98 (by kernel_rfl) (by kernel_rfl) (by kernel_rfl) ?hq98 (Or.inl ⟨?hw98, ?hy98⟩) (by assumption) ?rest98
            case hi98 => (simp only [List.getElem?_toArray, List.getElem?_cons_succ, List.getElem?_cons_zero]; rfl)
            case hq98 => exact fun _ _ _ h => h
            case hw98 => rfl
            case hy98 => (intro wq hSw; (try dsimp only at hSw); go_simp; (try with_reducible rfl))
            (try simp only [Act.put, List.setIfInBounds_toArray, List.set_cons_zero, List.set_cons_succ])
            refine' wpAnyH_take (i := 25) (oi := _) (v := undef) ?hi99 (by kernel_rfl) (by kernel_rfl) (by kernel_rfl) ?hq99 (Or.inr ?hw99) (by assumption) ?rest99
            case hi99 => (simp only [List.getElem?_toArray, List.getElem?_cons_succ, List.getElem?_cons_zero]; rfl)
            case hq99 => exact fun _ _ _ h => h
            case hw99 => exact ⟨rfl, rfl⟩
            (try simp only [Act.put, List.setIfInBounds_toArray, List.set_cons_zero, List.set_cons_succ])
            refine' wpAnyH_take (i := 26) (oi := _) (v := undef) ?hi100 (by kernel_rfl) (by kernel_rfl) (by kernel_rfl) ?hq100 (Or.inr ?hw100) (by assumption) ?rest100
            case hi100 => (simp only [List.getElem?_toArray, List.getElem?_cons_succ, List.getElem?_cons_zero]; rfl)
            case hq100 => exact fun _ _ _ h => h
            case hw100 => exact ⟨rfl, rfl⟩
            (try simp only [Act.put, List.setIfInBounds_toArray, List.set_cons_zero, List.set_cons_succ])
            refine' wpAnyH_take (i := 27) (oi := _) (v := undef) ?hi101 (by kernel_rfl) (by kernel_rfl) (by kernel_rfl) ?hq101 (Or.inr ?hw101) (by assumption) ?rest101
            case hi101 => (simp only [List.getElem?_toArray, List.getElem?_cons_succ, List.getElem?_cons_zero]; rfl)
            case hq101 => exact fun _ _ _ h => h
            case hw101 => exact ⟨rfl, rfl⟩
            (try simp only [Act.put, List.setIfInBounds_toArray, List.set_cons_zero, List.set_cons_succ])
            refine' wpAnyH_take (i := 28) (oi := _) (v := undef) ?hi102 (by kernel_rfl) (by kernel_rfl) (by kernel_rfl) ?hq102 (Or.inr ?hw102) (by assumption) ?rest102
            case hi102 => (simp only [List.getElem?_toArray, List.getElem?_cons_succ, List.getElem?_cons_zero]; rfl)
            case hq102 => exact fun _ _ _ h => h
            case hw102 => exact ⟨rfl, rfl⟩
            (try simp only [Act.put, List.setIfInBounds_toArray, List.set_cons_zero, List.set_cons_succ])
            refine' wpAnyH_take (i := 29) (oi := _) (v := undef) ?hi103 (by kernel_rfl) (by kernel_rfl) (by kernel_rfl) ?hq103 (Or.inr ?hw103) (by assumption) ?rest103
            case hi103 => (simp only [List.getElem?_toArray, List.getElem?_cons_succ, List.getElem?_cons_zero]; rfl)
            case hq103 => exact fun _ _ _ h => h
            case hw103 => exact ⟨rfl, rfl⟩
            (try simp only [Act.put, List.setIfInBounds_toArray, List.set_cons_zero, List.set_cons_succ])
            refine' wpAnyH_take (i := 30) (oi := _) (v := undef) ?hi104 (by kernel_rfl) (by kernel_rfl) (by kernel_rfl) ?hq104 (Or.inr ?hw104) (by assumption) ?rest104
            case hi104 => (simp only [List.getElem?_toArray, List.getElem?_cons_succ, List.getElem?_cons_zero]; rfl)
            case hq104 => exact fun _ _ _ h => h
            case hw104 => exact ⟨rfl, rfl⟩
            (try simp only [Act.put, List.setIfInBounds_toArray, List.set_cons_zero, List.set_cons_succ])
            refine' wpAnyH_take (i := 31) (oi := _) (v := Value.bool false) ?hi105 (by kernel_rfl) (by kernel_rfl) (by kernel_rfl) ?hq105 (Or.inl ⟨?hw105, ?hy105⟩) (by assumption) ?rest105
            case hi105 => (simp only [List.getElem?_toArray, List.getElem?_cons_succ, List.getElem?_cons_zero]; rfl)
            case hq105 => exact fun _ _ _ h => h
            case hw105 => rfl
            case hy105 => (intro wq hSw; (try dsimp only at hSw); (try go_simp); (first | done | (with_reducible rfl) | rfl | simp))
            (try simp only [Act.put, List.setIfInBounds_toArray, List.set_cons_zero, List.set_cons_succ])
            refine' wpAnyH_take (i := 32) (oi := _) (v := Value.bool false) ?hi106 (by kernel_rfl) (by kernel_rfl) (by kernel_rfl) ?hq106 (Or.inl ⟨?hw106, ?hy106⟩) (by assumption) ?rest106
            case hi106 => (simp only [List.getElem?_toArray, List.getElem?_cons_succ, List.getElem?_cons_zero]; rfl)
            case hq106 => exact fun _ _ _ h => h
            case hw106 => rfl
            case hy106 => (intro wq hSw; (try dsimp only at hSw); (try go_simp); (first | done | (with_reducible rfl) | rfl | simp))
            (try simp only [Act.put, List.setIfInBounds_toArray, List.set_cons_zero, List.set_cons_succ])
            refine' wpAnyH_take (i := 33) (oi := _) (v := _) ?hi107 (by kernel_rfl) (by kernel_rfl) (by kernel_rfl) ?hq107 (Or.inl ⟨?hw107, ?hy107⟩) (by assumption) ?rest107
            case hi107 => (simp only [List.getElem?_toArray, List.getElem?_cons_succ, List.getElem?_cons_zero]; rfl)
            case hq107 => exact fun _ _ _ h => h
            case hw107 => rfl
            case hy107 => (intro wq hSw; (try dsimp only at hSw); go_simp; (try with_reducible rfl))
            (try simp only [Act.put, List.setIfInBounds_toArray, List.set_cons_zero, List.set_cons_succ])
            refine' wpAnyH_take (i := 34) (oi := _) (v := _) ?hi108 (by kernel_rfl) (by kernel_rfl) (by kernel_rfl) ?hq108 (Or.inl ⟨?hw108, ?hy108⟩) (by assumption) ?rest108
            case hi108 => (simp only [List.getElem?_toArray, List.getElem?_cons_succ, List.getElem?_cons_zero]; rfl)
            case hq108 => exact fun _ _ _ h => h
            case hw108 => rfl
            case hy108 => (intro wq hSw; (try dsimp only at hSw); go_simp; (try with_reducible rfl))
            (try simp only [Act.put, List.setIfInBounds_toArray, List.set_cons_zero, List.set_cons_succ])
            refine' wpAnyH_take (i := 35) (oi := _) (v := _) ?hi109 (by kernel_rfl) (by kernel_rfl) (by kernel_rfl) ?hq109 (Or.inl ⟨?hw109, ?hy109⟩) (by assumption) ?rest109
            case hi109 => (simp only [List.getElem?_toArray, List.getElem?_cons_succ, List.getElem?_cons_zero]; rfl)
            case hq109 => exact fun _ _ _ h => h
            case hw109 => rfl
            case hy109 => (intro wq hSw; (try dsimp only at hSw); go_simp; (try with_reducible rfl))
            (try simp only [Act.put, List.setIfInBounds_toArray, List.set_cons_zero, List.set_cons_succ])
            refine' wpAnyH_take (i := 36) (oi := _) (v := _) ?hi110 (by kernel_rfl) (by kernel_rfl) (by kernel_rfl) ?hq110 (Or.inl ⟨?hw110, ?hy110⟩) (by assumption) ?rest110
            case hi110 => (simp only [List.getElem?_toArray, List.getElem?_cons_succ, List.getElem?_cons_zero]; rfl)
            case hq110 => exact fun _ _ _ h => h
            case hw110 => rfl
            case hy110 => (intro wq hSw; (try dsimp only at hSw); go_simp; (try with_reducible rfl))
            (try simp only [Act.put, List.setIfInBounds_toArray, List.set_cons_zero, List.set_cons_succ])
            refine' wpAnyH_take (i := 37) (oi := _) (v := _) ?hi111 (by kernel_rfl) (by kernel_rfl) (by kernel_rfl) ?hq111 (Or.inl ⟨?hw111, ?hy111⟩) (by assumption) ?rest111
            case hi111 => (simp only [List.getElem?_toArray, List.getElem?_cons_succ, List.getElem?_cons_zero]; rfl)
            case hq111 => exact fun _ _ _ h => h
            case hw111 => rfl
            case hy111 => (intro wq hSw; (try dsimp only at hSw); go_simp; (try with_reducible rfl))
            (try simp only [Act.put, List.setIfInBounds_toArray, List.set_cons_zero, List.set_cons_succ])
            refine' wpAnyH_take (i := 38) (oi := _) (v := _) ?hi112 (by kernel_rfl) (by kernel_rfl) (by kernel_rfl) ?hq112 (Or.inl ⟨?hw112, ?hy112⟩) (by assumption) ?rest112
            case hi112 => (simp only [List.getElem?_toArray, List.getElem?_cons_succ, List.getElem?_cons_zero]; rfl)
            case hq112 => exact fun _ _ _ h => h
            case hw112 => rfl
            case hy112 => (intro wq hSw; (try dsimp only at hSw); go_simp; (try with_reducible rfl))
            (try simp only [Act.put, List.setIfInBounds_toArray, List.set_cons_zero, List.set_cons_succ])
            refine' wpAnyH_take (i := 39) (oi := _) (v := Value.bool true) ?hi113 (by kernel_rfl) (by kernel_rfl) (by kernel_rfl) ?hq113 (Or.inl ⟨?hw113, ?hy113⟩) (by assumption) ?rest113
            case hi113 => (simp only [List.getElem?_toArray, List.getElem?_cons_succ, List.getElem?_cons_zero]; rfl)
            case hq113 => exact fun _ _ _ h => h
            case hw113 => rfl
            case hy113 => (intro wq hSw; (try dsimp only at hSw); (try go_simp); (first | done | (with_reducible rfl) | rfl | simp))
            (try simp only [Act.put, List.setIfInBounds_toArray, List.set_cons_zero, List.set_cons_succ])
            refine' wpAnyH_take (i := 40) (oi := _) (v := _) ?hi114 (by kernel_rfl) (by kernel_rfl) (by kernel_rfl) ?hq114 (Or.inl ⟨?hw114, ?hy114⟩) (by assumption) ?rest114
            case hi114 => (simp only [List.getElem?_toArray, List.getElem?_cons_succ, List.getElem?_cons_zero]; rfl)
            case hq114 => exact fun _ _ _ h => h
            case hw114 => rfl
            case hy114 => (intro wq hSw; (try dsimp only at hSw); go_simp; (try with_reducible rfl))
            (try simp only [Act.put, List.setIfInBounds_toArray, List.set_cons_zero, List.set_cons_succ])
            refine' wpAnyH_take (i := 41) (oi := _) (v := _) ?hi115 (by kernel_rfl) (by kernel_rfl) (by kernel_rfl) ?hq115 (Or.inl ⟨?hw115, ?hy115⟩) (by assumption) ?rest115
            case hi115 => (simp only [List.getElem?_toArray, List.getElem?_cons_succ, List.getElem?_cons_zero]; rfl)
            case hq115 => exact fun _ _ _ h => h
            case hw115 => rfl
            case hy115 => (intro wq hSw; (try dsimp only at hSw); go_simp; (try with_reducible rfl))
            (try simp only [Act.put, List.setIfInBounds_toArray, List.set_cons_zero, List.set_cons_succ])
            refine' wpAnyH_take (i := 42) (oi := _) (v := _) ?hi116 (by kernel_rfl) (by kernel_rfl) (by kernel_rfl) ?hq116 (Or.inl ⟨?hw116, ?hy116⟩) (by assumption) ?rest116
            case hi116 => (simp only [List.getElem?_toArray, List.getElem?_cons_succ, List.getElem?_cons_zero]; rfl)
            case hq116 => exact fun _ _ _ h => h
            case hw116 => rfl
            case hy116 => (intro wq hSw; (try dsimp only at hSw); go_simp; (try with_reducible rfl))
            (try simp only [Act.put, List.setIfInBounds_toArray, List.set_cons_zero, List.set_cons_succ])
            refine' wpAnyH_take (i := 43) (oi := _) (v := _) ?hi117 (by kernel_rfl) (by kernel_rfl) (by kernel_rfl) ?hq117 (Or.inl ⟨?hw117, ?hy117⟩) (by assumption) ?rest117
            case hi117 => (simp only [List.getElem?_toArray, List.getElem?_cons_succ, List.getElem?_cons_zero]; rfl)
            case hq117 => exact fun _ _ _ h => h
            case hw117 => rfl
            case hy117 => (intro wq hSw; (try dsimp only at hSw); go_simp; (try with_reducible rfl))
            (try simp only [Act.put, List.setIfInBounds_toArray, List.set_cons_zero, List.set_cons_succ])
            refine' wpAnyH_take (i := 44) (oi := _) (v := _) ?hi118 (by kernel_rfl) (by kernel_rfl) (by kernel_rfl) ?hq118 (Or.inl ⟨?hw118, ?hy118⟩) (by assumption) ?rest118
            case hi118 => (simp only [List.getElem?_toArray, List.getElem?_cons_succ, List.getElem?_cons_zero]; rfl)
            case hq118 => exact fun _ _ _ h => h
            case hw118 => rfl
            case hy118 => (intro wq hSw; (try dsimp only at hSw); go_simp; (try with_reducible rfl))
            (try simp only [Act.put, List.setIfInBounds_toArray, List.set_cons_zero, List.set_cons_succ])
            refine' wpAnyH_take (i := 45) (oi := _) (v := _) ?hi119 (by kernel_rfl) (by kernel_rfl) (by kernel_rfl) ?hq119 (Or.inl ⟨?hw119, ?hy119⟩) (by assumption) ?rest119
            case hi119 => (simp only [List.getElem?_toArray, List.getElem?_cons_succ, List.getElem?_cons_zero]; rfl)
            case hq119 => exact fun _ _ _ h => h
            case hw119 => rfl
            case hy119 => (intro wq hSw; (try dsimp only at hSw); go_simp; (try with_reducible rfl))
            (try simp only [Act.put, List.setIfInBounds_toArray, List.set_cons_zero, List.set_cons_succ])
            refine' wpAnyH_take (i := 46) (oi := _) (v := Value.bool false) ?hi120 (by kernel_rfl) (by kernel_rfl) (by kernel_rfl) ?hq120 (Or.inl ⟨?hw120, ?hy120⟩) (by assumption) ?rest120
            case hi120 => (simp only [List.getElem?_toArray, List.getElem?_cons_succ, List.getElem?_cons_zero]; rfl)
            case hq120 => exact fun _ _ _ h => h
            case hw120 => rfl
            case hy120 => (intro wq hSw; (try dsimp only at hSw); (try go_simp); (first | done | (with_reducible rfl) | rfl | simp))
            (try simp only [Act.put, List.setIfInBounds_toArray, List.set_cons_zero, List.set_cons_succ])
            refine' wpAnyH_take (i := 47) (oi := _) (v := Value.bool false) ?hi121 (by kernel_rfl) (by kernel_rfl) (by kernel_rfl) ?hq121 (Or.inl ⟨?hw121, ?hy121⟩) (by assumption) ?rest121
            case hi121 => (simp only [List.getElem?_toArray, List.getElem?_cons_succ, List.getElem?_cons_zero]; rfl)
            case hq121 => exact fun _ _ _ h => h
            case hw121 => rfl
            case hy121 => (intro wq hSw; (try dsimp only at hSw); (try go_simp); (first | done | (with_reducible rfl) | rfl | simp))
            (try simp only [Act.put, List.setIfInBounds_toArray, List.set_cons_zero, List.set_cons_succ])
            refine' wpAnyH_take (i := 48) (oi := _) (v := Value.bool false) ?hi122 (by kernel_rfl) (by kernel_rfl) (by kernel_rfl) ?hq122 (Or.inl ⟨?hw122, ?hy122⟩) (by assumption) ?rest122
            case hi122 => (simp only [List.getElem?_toArray, List.getElem?_cons_succ, List.getElem?_cons_zero]; rfl)
            case hq122 => exact fun _ _ _ h => h
            case hw122 => rfl
            case hy122 => (intro wq hSw; (try dsimp only at hSw); (try go_simp); (first | done | (with_reducible rfl) | rfl | simp))
            (try simp only [Act.put, List.setIfInBounds_toArray, List.set_cons_zero, List.set_cons_succ])
            refine wpAnyH_done (by kernel_rfl) ?_ _
            clear HLV HW1 HW2 HW3 HDV
            go_wp2
            go_roundw
            case rel => exact ⟨k + 1, by omega, by go_num, Lib.hid (HN.out _ (by first | rfl | omega | (rw [Int.min_def]; split <;> split <;> omega)))⟩
            case measure => simp [intOf]; omega
          · clear hz hf255
            have hb0 : (x == 0) = false := beq_eq_false_iff_ne.2 hn1'
            have hb255 : (x == 255) = false := beq_eq_false_iff_ne.2 hn2'
            refine wp_region_held_drew (S := (fun w' => w'.cell? ⟨bg, 0, none⟩ = some ((.int .i64 (wd : Int))) ∧ w'.cell? ⟨bg, 1, none⟩ = some (.int .i64 (hh : Int)) ∧ w'.cell? ⟨bg, 2, none⟩ = some (.int .i64 1) ∧ w'.cell? ⟨bg, 3, none⟩ = some (.slice (some ⟨ab, ao, none⟩) xs.length c1) ∧ w'.cell? ⟨bh, 0, none⟩ = some (.int .i64 (wd : Int)) ∧ w'.cell? ⟨bh, 1, none⟩ = some (.int .i64 (hh : Int)) ∧ w'.cell? ⟨bh, 2, none⟩ = some (.int .i64 1) ∧ w'.cell? ⟨bh, 3, none⟩ = some (.slice (some ⟨yb, yo, none⟩) ys.length c2) ∧ w'.cell? ⟨ab, ao + k, none⟩ = some (.int .i64 x) ∧ w'.cell? ⟨yb, yo + k, none⟩ = some (.int .i64 y))) (by kernel_rfl) (by exact ⟨a0, a1, a2, a3, b0, b1, b2, b3, hcx, hcy⟩) (fun hHeld => ?_)
            refine' wpAnyH_take (i := 0) (oi := _) (v := _) ?hi123 (by kernel_rfl) (by kernel_rfl) (by kernel_rfl) ?hq123 (Or.inl ⟨?hw123, ?hy123⟩) (by assumption) ?rest123
            case hi123 => (simp only [List.getElem?_toArray, List.getElem?_cons_succ, List.getElem?_cons_zero]; rfl)
            case hq123 => exact fun _ _ _ h => h
            case hw123 => rfl
            case hy123 => (intro wq hSw; (try dsimp only at hSw); go_simp; (try with_reducible rfl))
            (try simp only [Act.put, List.setIfInBounds_toArray, List.set_cons_zero, List.set_cons_succ])
            refine' wpAnyH_take (i := 1) (oi := _) (v := _) ?hi124 (by kernel_rfl) (by kernel_rfl) (by kernel_rfl) ?hq124 (Or.inl ⟨?hw124, ?hy124⟩) (by assumption) ?rest124
            case hi124 => (simp only [List.getElem?_toArray, List.getElem?_cons_succ, List.getElem?_cons_zero]; rfl)
            case hq124 => exact fun _ _ _ h => h
            case hw124 => rfl
            case hy124 => (intro wq hSw; (try dsimp only at hSw); go_simp; (try with_reducible rfl))
            (try simp only [Act.put, List.setIfInBounds_toArray, List.set_cons_zero, List.set_cons_succ])
            refine' wpAnyH_take (i := 2) (oi := _) (v := _) ?hi125 (by kernel_rfl) (by kernel_rfl) (by kernel_rfl) ?hq125 (Or.inl ⟨?hw125, ?hy125⟩) (by assumption) ?rest125
            case hi125 => (simp only [List.getElem?_toArray, List.getElem?_cons_succ, List.getElem?_cons_zero]; rfl)
            case hq125 => exact fun _ _ _ h => h
            case hw125 => rfl
            case hy125 => (intro wq hSw; (try dsimp only at hSw); go_simp; (try with_reducible rfl))
            (try simp only [Act.put, List.setIfInBounds_toArray, List.set_cons_zero, List.set_cons_succ])
            refine' wpAnyH_take (i := 3) (oi := _) (v := _) ?hi126 (by kernel_rfl) (by kernel_rfl) (by kernel_rfl) ?hq126 (Or.inl ⟨?hw126, ?hy126⟩) (by assumption) ?rest126
            case hi126 => (simp only [List.getElem?_toArray, List.getElem?_cons_succ, List.getElem?_cons_zero]; rfl)
            case hq126 => exact fun _ _ _ h => h
            case hw126 => rfl
            case hy126 => (intro wq hSw; (try dsimp only at hSw); go_simp; (try with_reducible rfl))
            (try simp only [Act.put, List.setIfInBounds_toArray, List.set_cons_zero, List.set_cons_succ])
            refine' wpAnyH_take (i := 4) (oi := _) (v := _) ?hi127 (by kernel_rfl) (by kernel_rfl) (by kernel_rfl) ?hq127 (Or.inl ⟨?hw127, ?hy127⟩) (by assumption) ?rest127
            case hi127 => (simp only [List.getElem?_toArray, List.getElem?_cons_succ, List.getElem?_cons_zero]; rfl)
            case hq127 => exact fun _ _ _ h => h
            case hw127 => rfl
            case hy127 => (intro wq hSw; (try dsimp only at hSw); go_simp; (try with_reducible rfl))
            (try simp only [Act.put, List.setIfInBounds_toArray, List.set_cons_zero, List.set_cons_succ])
            refine' wpAnyH_take (i := 5) (oi := _) (v := _) ?hi128 (by kernel_rfl) (by kernel_rfl) (by kernel_rfl) ?hq128 (Or.inl ⟨?hw128, ?hy128⟩) (by assumption) ?rest128
            case hi128 => (simp only [List.getElem?_toArray, List.getElem?_cons_succ, List.getElem?_cons_zero]; rfl)
            case hq128 => exact fun _ _ _ h => h
            case hw128 => rfl
            case hy128 => (intro wq hSw; (try dsimp only at hSw); go_simp; (try with_reducible rfl))
            (try simp only [Act.put, List.setIfInBounds_toArray, List.set_cons_zero, List.set_cons_succ])
            refine' wpAnyH_take (i := 6) (oi := _) (v := _) ?hi129 (by kernel_rfl) (by kernel_rfl) (by kernel_rfl) ?hq129 (Or.inl ⟨?hw129, ?hy129⟩) (by assumption) ?rest129
            case hi129 => (simp only [List.getElem?_toArray, List.getElem?_cons_succ, List.getElem?_cons_zero]; rfl)
            case hq129 => exact fun _ _ _ h => h
            case hw129 => rfl
            case hy129 => (intro wq hSw; (try dsimp only at hSw); go_simp; (try with_reducible rfl))
            (try simp only [Act.put, List.setIfInBounds_toArray, List.set_cons_zero, List.set_cons_succ])
            refine' wpAnyH_take (i := 7) (oi := _) (v := _) ?hi130 (by kernel_rfl) (by kernel_rfl) (by kernel_rfl) ?hq130 (Or.inl ⟨?hw130, ?hy130⟩) (by assumption) ?rest130
            case hi130 => (simp only [List.getElem?_toArray, List.getElem?_cons_succ, List.getElem?_cons_zero]; rfl)
            case hq130 => exact fun _ _ _ h => h
            case hw130 => rfl
            case hy130 => (intro wq hSw; (try dsimp only at hSw); go_simp; (try with_reducible rfl))
            (try simp only [Act.put, List.setIfInBounds_toArray, List.set_cons_zero, List.set_cons_succ])
            refine' wpAnyH_take (i := 8) (oi := _) (v := _) ?hi131 (by kernel_rfl) (by kernel_rfl) (by kernel_rfl) ?hq131 (Or.inl ⟨?hw131, ?hy131⟩) (by assumption) ?rest131
            case hi131 => (simp only [List.getElem?_toArray, List.getElem?_cons_succ, List.getElem?_cons_zero]; rfl)
            case hq131 => exact fun _ _ _ h => h
            case hw131 => rfl
            case hy131 => (intro wq hSw; (try dsimp only at hSw); go_simp; (try with_reducible rfl))
            (try simp only [Act.put, List.setIfInBounds_toArray, List.set_cons_zero, List.set_cons_succ])
            refine' wpAnyH_take (i := 9) (oi := _) (v := _) ?hi132 (by kernel_rfl) (by kernel_rfl) (by kernel_rfl) ?hq132 (Or.inl ⟨?hw132, ?hy132⟩) (by assumption) ?rest132
            case hi132 => (simp only [List.getElem?_toArray, List.getElem?_cons_succ, List.getElem?_cons_zero]; rfl)
            case hq132 => exact fun _ _ _ h => h
            case hw132 => rfl
            case hy132 => (intro wq hSw; (try dsimp only at hSw); go_simp; (try with_reducible rfl))
            (try simp only [Act.put, List.setIfInBounds_toArray, List.set_cons_zero, List.set_cons_succ])
            refine' wpAnyH_take (i := 10) (oi := _) (v := _) ?hi133 (by kernel_rfl) (by kernel_rfl) (by kernel_rfl) ?hq133 (Or.inl ⟨?hw133, ?hy133⟩) (by assumption) ?rest133
            case hi133 => (simp only [List.getElem?_toArray, List.getElem?_cons_succ, List.getElem?_cons_zero]; rfl)
            case hq133 => exact fun _ _ _ h => h
            case hw133 => rfl
            case hy133 => (intro wq hSw; (try dsimp only at hSw); go_simp; (try with_reducible rfl))
            (try simp only [Act.put, List.setIfInBounds_toArray, List.set_cons_zero, List.set_cons_succ])
            refine' wpAnyH_take (i := 13) (oi := _) (v := _) ?hi134 (by kernel_rfl) (by kernel_rfl) (by kernel_rfl) ?hq134 (Or.inl ⟨?hw134, ?hy134⟩) (by assumption) ?rest134
            case hi134 => (simp only [List.getElem?_toArray, List.getElem?_cons_succ, List.getElem?_cons_zero]; rfl)
            case hq134 => exact fun _ _ _ h => h
            case hw134 => rfl
            case hy134 => (intro wq hSw; (try dsimp only at hSw); go_simp; (try with_reducible rfl))
            (try simp only [Act.put, List.setIfInBounds_toArray, List.set_cons_zero, List.set_cons_succ])
            refine' wpAnyH_take (i := 14) (oi := _) (v := Value.int .i64 (q - 1)) ?hi135 (by kernel_rfl) (by kernel_rfl) (by kernel_rfl) ?hq135 (Or.inl ⟨?hw135, ?hy135⟩) (by assumption) ?rest135
            case hi135 => (simp only [List.getElem?_toArray, List.getElem?_cons_succ, List.getElem?_cons_zero]; rfl)
            case hq135 => exact fun _ _ _ h => h
            case hw135 => rfl
            case hy135 => (intro wq hSw; (try dsimp only at hSw); (try go_simp); (first | done | (with_reducible rfl) | rfl | exact HW2.out | rw [HW2.out] | simp))
            (try simp only [Act.put, List.setIfInBounds_toArray, List.set_cons_zero, List.set_cons_succ])
            refine wpAnyH_ready (rs := [11]) (by kernel_rfl) (by simp) ?_
            refine' AllReadyH.cons (o := _) ?hi136 (fun K hK => ?rest136) AllReadyH.nil
            case hi136 => (simp only [List.getElem?_toArray, List.getElem?_cons_succ, List.getElem?_cons_zero]; rfl)
            go_simp
            go_at_call 9
            refine (HLV.out _).mono ?_
            rintro e u9 ⟨rfl, rfl⟩
            go_wp2_with fail
            refine hK.out _ _ (by (try dsimp only); exact ⟨a0, a1, a2, a3, b0, b1, b2, b3, hcx, hcy⟩) (fun hHeld => ?_)
            clear hK K
            (try simp only [Act.put, List.setIfInBounds_toArray, List.set_cons_zero, List.set_cons_succ])
            refine' wpAnyH_take (i := 12) (oi := _) (v := Value.int .i64 (255 * lv)) ?hi137 (by kernel_rfl) (by kernel_rfl) (by kernel_rfl) ?hq137 (Or.inl ⟨?hw137, ?hy137⟩) (by assumption) ?rest137
            case hi137 => (simp only [List.getElem?_toArray, List.getElem?_cons_succ, List.getElem?_cons_zero]; rfl)
            case hq137 => exact fun _ _ _ h => h
            case hw137 => rfl
            case hy137 => (intro wq hSw; (try dsimp only at hSw); (try go_simp); (first | done | (with_reducible rfl) | rfl | exact HW1.out | rw [HW1.out] | simp))
            (try simp only [Act.put, List.setIfInBounds_toArray, List.set_cons_zero, List.set_cons_succ])
            refine' wpAnyH_take (i := 15) (oi := _) (v := Value.int .i64 y) ?hi138 (by kernel_rfl) (by kernel_rfl) (by kernel_rfl) ?hq138 (Or.inl ⟨?hw138, ?hy138⟩) (by assumption) ?rest138
            case hi138 => (simp only [List.getElem?_toArray, List.getElem?_cons_succ, List.getElem?_cons_zero]; rfl)
            case hq138 => exact fun _ _ _ h => h
            case hw138 => rfl
            case hy138 => (intro wq hSw; (try dsimp only at hSw); (try go_simp); (first | done | (with_reducible rfl) | rfl | (rw [HDV.out, HW3.out]) | (rw [HDV.out]) | (simp [HDV.out, HW3.out]) | simp))
            (try simp only [Act.put, List.setIfInBounds_toArray, List.set_cons_zero, List.set_cons_succ])
            refine' wpAnyH_take (i := 16) (oi := _) (v := Value.bool false) ?hi139 (by kernel_rfl) (by kernel_rfl) (by kernel_rfl) ?hq139 (Or.inl ⟨?hw139, ?hy139⟩) (by assumption) ?rest139
            case hi139 => (simp only [List.getElem?_toArray, List.getElem?_cons_succ, List.getElem?_cons_zero]; rfl)
            case hq139 => exact fun _ _ _ h => h
            case hw139 => rfl
            case hy139 => (intro wq hSw; (try dsimp only at hSw); (try go_simp); (first | done | (with_reducible rfl) | rfl | simp))
            (try simp only [Act.put, List.setIfInBounds_toArray, List.set_cons_zero, List.set_cons_succ])
            refine' wpAnyH_take (i := 17) (oi := _) (v := _) ?hi140 (by kernel_rfl) (by kernel_rfl) (by kernel_rfl) ?hq140 (Or.inl ⟨?hw140, ?hy140⟩) (by assumption) ?rest140
            case hi140 => (simp only [List.getElem?_toArray, List.getElem?_cons_succ, List.getElem?_cons_zero]; rfl)
            case hq140 => exact fun _ _ _ h => h
            case hw140 => rfl
            case hy140 => (intro wq hSw; (try dsimp only at hSw); go_simp; (try with_reducible rfl))
            (try simp only [Act.put, List.setIfInBounds_toArray, List.set_cons_zero, List.set_cons_succ])
            refine' wpAnyH_take (i := 18) (oi := _) (v := _) ?hi141 (by kernel_rfl) (by kernel_rfl) (by kernel_rfl) ?hq141 (Or.inl ⟨?hw141, ?hy141⟩) (by assumption) ?rest141
            case hi141 => (simp only [List.getElem?_toArray, List.getElem?_cons_succ, List.getElem?_cons_zero]; rfl)
            case hq141 => exact fun _ _ _ h => h
            case hw141 => rfl
            case hy141 => (intro wq hSw; (try dsimp only at hSw); go_simp; (try with_reducible rfl))
            (try simp only [Act.put, List.setIfInBounds_toArray, List.set_cons_zero, List.set_cons_succ])
            refine' wpAnyH_take (i := 19) (oi := _) (v := _) ?hi142 (by kernel_rfl) (by kernel_rfl) (by kernel_rfl) ?hq142 (Or.inl ⟨?hw142, ?hy142⟩) (by assumption) ?rest142
            case hi142 => (simp only [List.getElem?_toArray, List.getElem?_cons_succ, List.getElem?_cons_zero]; rfl)
            case hq142 => exact fun _ _ _ h => h
            case hw142 => rfl
            case hy142 => (intro wq hSw; (try dsimp only at hSw); go_simp; (try with_reducible rfl))
            (try simp only [Act.put, List.setIfInBounds_toArray, List.set_cons_zero, List.set_cons_succ])
            refine' wpAnyH_take (i := 20) (oi := _) (v := _) ?hi143 (by kernel_rfl) (by kernel_rfl) (by kernel_rfl) ?hq143 (Or.inl ⟨?hw143, ?hy143⟩) (by assumption) ?rest143
            case hi143 => (simp only [List.getElem?_toArray, List.getElem?_cons_succ, List.getElem?_cons_zero]; rfl)
            case hq143 => exact fun _ _ _ h => h
            case hw143 => rfl
            case hy143 => (intro wq hSw; (try dsimp only at hSw); go_simp; (try with_reducible rfl))
            (try simp only [Act.put, List.setIfInBounds_toArray, List.set_cons_zero, List.set_cons_succ])
            refine' wpAnyH_take (i := 21) (oi := _) (v := _) ?hi144 (by kernel_rfl) (by kernel_rfl) (by kernel_rfl) ?hq144 (Or.inl ⟨?hw144, ?hy144⟩) (by assumption) ?rest144
            case hi144 => (simp only [List.getElem?_toArray, List.getElem?_cons_succ, List.getElem?_cons_zero]; rfl)
            case hq144 => exact fun _ _ _ h => h
            case hw144 => rfl
            case hy144 => (intro wq hSw; (try dsimp only at hSw); go_simp; (try with_reducible rfl))
            (try simp only [Act.put, List.setIfInBounds_toArray, List.set_cons_zero, List.set_cons_succ])
            refine' wpAnyH_take (i := 22) (oi := _) (v := _) ?hi145 (by kernel_rfl) (by kernel_rfl) (by kernel_rfl) ?hq145 (Or.inl ⟨?hw145, ?hy145⟩) (by assumption) ?rest145
            case hi145 => (simp only [List.getElem?_toArray, List.getElem?_cons_succ, List.getElem?_cons_zero]; rfl)
            case hq145 => exact fun _ _ _ h => h
            case hw145 => rfl
            case hy145 => (intro wq hSw; (try dsimp only at hSw); go_simp; (try with_reducible rfl))
            (try simp only [Act.put, List.setIfInBounds_toArray, List.set_cons_zero, List.set_cons_succ])
            refine' wpAnyH_take (i := 23) (oi := _) (v := Value.bool false) ?hi146 (by kernel_rfl) (by kernel_rfl) (by kernel_rfl) ?hq146 (Or.inl ⟨?hw146, ?hy146⟩) (by assumption) ?rest146
            case hi146 => (simp only [List.getElem?_toArray, List.getElem?_cons_succ, List.getElem?_cons_zero]; rfl)
            case hq146 => exact fun _ _ _ h => h
            case hw146 => rfl
            case hy146 => (intro wq hSw; (try dsimp only at hSw); (try go_simp); (first | done | (with_reducible rfl) | rfl | exact hb0 | rw [hb0] | simp))
            (try simp only [Act.put, List.setIfInBounds_toArray, List.set_cons_zero, List.set_cons_succ])
            refine' wpAnyH_take (i := 24) (oi := _) (v := _) ?hi147 (by kernel_rfl) (by kernel_rfl) (by kernel_rfl) ?hq147 (Or.inl ⟨?hw147, ?hy147⟩) (by assumption) ?rest147
            case hi147 => (simp only [List.getElem?_toArray, List.getElem?_cons_succ, List.getElem?_cons_zero]; rfl)
            case hq147 => exact fun _ _ _ h => h
            case hw147 => rfl
            case hy147 => (intro wq hSw; (try dsimp only at hSw); go_simp; (try with_reducible rfl))
            (try simp only [Act.put, List.setIfInBounds_toArray, List.set_cons_zero, List.set_cons_succ])
            refine' wpAnyH_take (i := 25) (oi := _) (v := undef) ?hi148 (by kernel_rfl) (by kernel_rfl) (by kernel_rfl) ?hq148 (Or.inr ?hw148) (by assumption) ?rest148
            case hi148 => (simp only [List.getElem?_toArray, List.getElem?_cons_succ, List.getElem?_cons_zero]; rfl)
            case hq148 => exact fun _ _ _ h => h
            case hw148 => exact ⟨rfl, rfl⟩
            (try simp only [Act.put, List.setIfInBounds_toArray, List.set_cons_zero, List.set_cons_succ])
            refine' wpAnyH_take (i := 26) (oi := _) (v := undef) ?hi149 (by kernel_rfl) (by kernel_rfl) (by kernel_rfl) ?hq149 (Or.inr ?hw149) (by assumption) ?rest149
            case hi149 => (simp only [List.getElem?_toArray, List.getElem?_cons_succ, List.getElem?_cons_zero]; rfl)
            case hq149 => exact fun _ _ _ h => h
            case hw149 => exact ⟨rfl, rfl⟩
            (try simp only [Act.put, List.setIfInBounds_toArray, List.set_cons_zero, List.set_cons_succ])
            refine' wpAnyH_take (i := 27) (oi := _) (v := undef) ?hi150 (by kernel_rfl) (by kernel_rfl) (by kernel_rfl) ?hq150 (Or.inr ?hw150) (by assumption) ?rest150
            case hi150 => (simp only [List.getElem?_toArray, List.getElem?_cons_succ, List.getElem?_cons_zero]; rfl)
            case hq150 => exact fun _ _ _ h => h
            case hw150 => exact ⟨rfl, rfl⟩
            (try simp only [Act.put, List.setIfInBounds_toArray, List.set_cons_zero, List.set_cons_succ])
            refine' wpAnyH_take (i := 28) (oi := _) (v := undef) ?hi151 (by kernel_rfl) (by kernel_rfl) (by kernel_rfl) ?hq151 (Or.inr ?hw151) (by assumption) ?rest151
            case hi151 => (simp only [List.getElem?_toArray, List.getElem?_cons_succ, List.getElem?_cons_zero]; rfl)
            case hq151 => exact fun _ _ _ h => h
            case hw151 => exact ⟨rfl, rfl⟩
            (try simp only [Act.put, List.setIfInBounds_toArray, List.set_cons_zero, List.set_cons_succ])
            refine' wpAnyH_take (i := 29) (oi := _) (v := undef) ?hi152 (by kernel_rfl) (by kernel_rfl) (by kernel_rfl) ?hq152 (Or.inr ?hw152) (by assumption) ?rest152
            case hi152 => (simp only [List.getElem?_toArray, List.getElem?_cons_succ, List.getElem?_cons_zero]; rfl)
            case hq152 => exact fun _ _ _ h => h
            case hw152 => exact ⟨rfl, rfl⟩
            (try simp only [Act.put, List.setIfInBounds_toArray, List.set_cons_zero, List.set_cons_succ])
            refine' wpAnyH_take (i := 30) (oi := _) (v := undef) ?hi153 (by kernel_rfl) (by kernel_rfl) (by kernel_rfl) ?hq153 (Or.inr ?hw153) (by assumption) ?rest153
            case hi153 => (simp only [List.getElem?_toArray, List.getElem?_cons_succ, List.getElem?_cons_zero]; rfl)
            case hq153 => exact fun _ _ _ h => h
            case hw153 => exact ⟨rfl, rfl⟩
            (try simp only [Act.put, List.setIfInBounds_toArray, List.set_cons_zero, List.set_cons_succ])
            refine' wpAnyH_take (i := 31) (oi := _) (v := Value.bool false) ?hi154 (by kernel_rfl) (by kernel_rfl) (by kernel_rfl) ?hq154 (Or.inl ⟨?hw154, ?hy154⟩) (by assumption) ?rest154
            case hi154 => (simp only [List.getElem?_toArray, List.getElem?_cons_succ, List.getElem?_cons_zero]; rfl)
            case hq154 => exact fun _ _ _ h => h
            case hw154 => rfl
            case hy154 => (intro wq hSw; (try dsimp only at hSw); (try go_simp); (first | done | (with_reducible rfl) | rfl | simp))
            (try simp only [Act.put, List.setIfInBounds_toArray, List.set_cons_zero, List.set_cons_succ])
            refine' wpAnyH_take (i := 32) (oi := _) (v := Value.bool false) ?hi155 (by kernel_rfl) (by kernel_rfl) (by kernel_rfl) ?hq155 (Or.inl ⟨?hw155, ?hy155⟩) (by assumption) ?rest155
            case hi155 => (simp only [List.getElem?_toArray, List.getElem?_cons_succ, List.getElem?_cons_zero]; rfl)
            case hq155 => exact fun _ _ _ h => h
            case hw155 => rfl
            case hy155 => (intro wq hSw; (try dsimp only at hSw); (try go_simp); (first | done | (with_reducible rfl) | rfl | simp))
            (try simp only [Act.put, List.setIfInBounds_toArray, List.set_cons_zero, List.set_cons_succ])
            refine' wpAnyH_take (i := 33) (oi := _) (v := _) ?hi156 (by kernel_rfl) (by kernel_rfl) (by kernel_rfl) ?hq156 (Or.inl ⟨?hw156, ?hy156⟩) (by assumption) ?rest156
            case hi156 => (simp only [List.getElem?_toArray, List.getElem?_cons_succ, List.getElem?_cons_zero]; rfl)
            case hq156 => exact fun _ _ _ h => h
            case hw156 => rfl
            case hy156 => (intro wq hSw; (try dsimp only at hSw); go_simp; (try with_reducible rfl))
            (try simp only [Act.put, List.setIfInBounds_toArray, List.set_cons_zero, List.set_cons_succ])
            refine' wpAnyH_take (i := 34) (oi := _) (v := _) ?hi157 (by kernel_rfl) (by kernel_rfl) (by kernel_rfl) ?hq157 (Or.inl ⟨?hw157, ?hy157⟩) (by assumption) ?rest157
            case hi157 => (simp only [List.getElem?_toArray, List.getElem?_cons_succ, List.getElem?_cons_zero]; rfl)
            case hq157 => exact fun _ _ _ h => h
            case hw157 => rfl
            case hy157 => (intro wq hSw; (try dsimp only at hSw); go_simp; (try with_reducible rfl))
            (try simp only [Act.put, List.setIfInBounds_toArray, List.set_cons_zero, List.set_cons_succ])
            refine' wpAnyH_take (i := 35) (oi := _) (v := _) ?hi158 (by kernel_rfl) (by kernel_rfl) (by kernel_rfl) ?hq158 (Or.inl ⟨?hw158, ?hy158⟩) (by assumption) ?rest158
            case hi158 => (simp only [List.getElem?_toArray, List.getElem?_cons_succ, List.getElem?_cons_zero]; rfl)
            case hq158 => exact fun _ _ _ h => h
            case hw158 => rfl
            case hy158 => (intro wq hSw; (try dsimp only at hSw); go_simp; (try with_reducible rfl))
            (try simp only [Act.put, List.setIfInBounds_toArray, List.set_cons_zero, List.set_cons_succ])
            refine' wpAnyH_take (i := 36) (oi := _) (v := _) ?hi159 (by kernel_rfl) (by kernel_rfl) (by kernel_rfl) ?hq159 (Or.inl ⟨?hw159, ?hy159⟩) (by assumption) ?rest159
            case hi159 => (simp only [List.getElem?_toArray, List.getElem?_cons_succ, List.getElem?_cons_zero]; rfl)
            case hq159 => exact fun _ _ _ h => h
            case hw159 => rfl
            case hy159 => (intro wq hSw; (try dsimp only at hSw); go_simp; (try with_reducible rfl))
            (try simp only [Act.put, List.setIfInBounds_toArray, List.set_cons_zero, List.set_cons_succ])
            refine' wpAnyH_take (i := 37) (oi := _) (v := _) ?hi160 (by kernel_rfl) (by kernel_rfl) (by kernel_rfl) ?hq160 (Or.inl ⟨?hw160, ?hy160⟩) (by assumption) ?rest160
            case hi160 => (simp only [List.getElem?_toArray, List.getElem?_cons_succ, List.getElem?_cons_zero]; rfl)
            case hq160 => exact fun _ _ _ h => h
            case hw160 => rfl
            case hy160 => (intro wq hSw; (try dsimp only at hSw); go_simp; (try with_reducible rfl))
            (try simp only [Act.put, List.setIfInBounds_toArray, List.set_cons_zero, List.set_cons_succ])
            refine' wpAnyH_take (i := 38) (oi := _) (v := _) ?hi161 (by kernel_rfl) (by kernel_rfl) (by kernel_rfl) ?hq161 (Or.inl ⟨?hw161, ?hy161⟩) (by assumption) ?rest161
            case hi161 => (simp only [List.getElem?_toArray, List.getElem?_cons_succ, List.getElem?_cons_zero]; rfl)
            case hq161 => exact fun _ _ _ h => h
            case hw161 => rfl
            case hy161 => (intro wq hSw; (try dsimp only at hSw); go_simp; (try with_reducible rfl))
            (try simp only [Act.put, List.setIfInBounds_toArray, List.set_cons_zero, List.set_cons_succ])
            refine' wpAnyH_take (i := 39) (oi := _) (v := Value.bool false) ?hi162 (by kernel_rfl) (by kernel_rfl) (by kernel_rfl) ?hq162 (Or.inl ⟨?hw162, ?hy162⟩) (by assumption) ?rest162
            case hi162 => (simp only [List.getElem?_toArray, List.getElem?_cons_succ, List.getElem?_cons_zero]; rfl)
            case hq162 => exact fun _ _ _ h => h
            case hw162 => rfl
            case hy162 => (intro wq hSw; (try dsimp only at hSw); (try go_simp); (first | done | (with_reducible rfl) | rfl | exact hb255 | rw [hb255] | simp))
            (try simp only [Act.put, List.setIfInBounds_toArray, List.set_cons_zero, List.set_cons_succ])
            refine' wpAnyH_take (i := 40) (oi := _) (v := _) ?hi163 (by kernel_rfl) (by kernel_rfl) (by kernel_rfl) ?hq163 (Or.inl ⟨?hw163, ?hy163⟩) (by assumption) ?rest163
            case hi163 => (simp only [List.getElem?_toArray, List.getElem?_cons_succ, List.getElem?_cons_zero]; rfl)
            case hq163 => exact fun _ _ _ h => h
            case hw163 => rfl
            case hy163 => (intro wq hSw; (try dsimp only at hSw); go_simp; (try with_reducible rfl))
            (try simp only [Act.put, List.setIfInBounds_toArray, List.set_cons_zero, List.set_cons_succ])
            refine' wpAnyH_take (i := 41) (oi := _) (v := undef) ?hi164 (by kernel_rfl) (by kernel_rfl) (by kernel_rfl) ?hq164 (Or.inr ?hw164) (by assumption) ?rest164
            case hi164 => (simp only [List.getElem?_toArray, List.getElem?_cons_succ, List.getElem?_cons_zero]; rfl)
            case hq164 => exact fun _ _ _ h => h
            case hw164 => exact ⟨rfl, rfl⟩
            (try simp only [Act.put, List.setIfInBounds_toArray, List.set_cons_zero, List.set_cons_succ])
            refine' wpAnyH_take (i := 42) (oi := _) (v := undef) ?hi165 (by kernel_rfl) (by kernel_rfl) (by kernel_rfl) ?hq165 (Or.inr ?hw165) (by assumption) ?rest165
            case hi165 => (simp only [List.getElem?_toArray, List.getElem?_cons_succ, List.getElem?_cons_zero]; rfl)
            case hq165 => exact fun _ _ _ h => h
            case hw165 => exact ⟨rfl, rfl⟩
            (try simp only [Act.put, List.setIfInBounds_toArray, List.set_cons_zero, List.set_cons_succ])
            refine' wpAnyH_take (i := 43) (oi := _) (v := undef) ?hi166 (by kernel_rfl) (by kernel_rfl) (by kernel_rfl) ?hq166 (Or.inr ?hw166) (by assumption) ?rest166
            case hi166 => (simp only [List.getElem?_toArray, List.getElem?_cons_succ, List.getElem?_cons_zero]; rfl)
            case hq166 => exact fun _ _ _ h => h
            case hw166 => exact ⟨rfl, rfl⟩
            (try simp only [Act.put, List.setIfInBounds_toArray, List.set_cons_zero, List.set_cons_succ])
            refine' wpAnyH_take (i := 44) (oi := _) (v := undef) ?hi167 (by kernel_rfl) (by kernel_rfl) (by kernel_rfl) ?hq167 (Or.inr ?hw167) (by assumption) ?rest167
            case hi167 => (simp only [List.getElem?_toArray, List.getElem?_cons_succ, List.getElem?_cons_zero]; rfl)
            case hq167 => exact fun _ _ _ h => h
            case hw167 => exact ⟨rfl, rfl⟩
            (try simp only [Act.put, List.setIfInBounds_toArray, List.set_cons_zero, List.set_cons_succ])
            refine' wpAnyH_take (i := 45) (oi := _) (v := undef) ?hi168 (by kernel_rfl) (by kernel_rfl) (by kernel_rfl) ?hq168 (Or.inr ?hw168) (by assumption) ?rest168
            case hi168 => (simp only [List.getElem?_toArray, List.getElem?_cons_succ, List.getElem?_cons_zero]; rfl)
            case hq168 => exact fun _ _ _ h => h
            case hw168 => exact ⟨rfl, rfl⟩
            (try simp only [Act.put, List.setIfInBounds_toArray, List.set_cons_zero, List.set_cons_succ])
            refine' wpAnyH_take (i := 46) (oi := _) (v := undef) ?hi169 (by kernel_rfl) (by kernel_rfl) (by kernel_rfl) ?hq169 (Or.inr ?hw169) (by assumption) ?rest169
            case hi169 => (simp only [List.getElem?_toArray, List.getElem?_cons_succ, List.getElem?_cons_zero]; rfl)
            case hq169 => exact fun _ _ _ h => h
            case hw169 => exact ⟨rfl, rfl⟩
            (try simp only [Act.put, List.setIfInBounds_toArray, List.set_cons_zero, List.set_cons_succ])
            refine' wpAnyH_take (i := 47) (oi := _) (v := Value.bool false) ?hi170 (by kernel_rfl) (by kernel_rfl) (by kernel_rfl) ?hq170 (Or.inl ⟨?hw170, ?hy170⟩) (by assumption) ?rest170
            case hi170 => (simp only [List.getElem?_toArray, List.getElem?_cons_succ, List.getElem?_cons_zero]; rfl)
            case hq170 => exact fun _ _ _ h => h
            case hw170 => rfl
            case hy170 => (intro wq hSw; (try dsimp only at hSw); (try go_simp); (first | done | (with_reducible rfl) | rfl | simp))
            (try simp only [Act.put, List.setIfInBounds_toArray, List.set_cons_zero, List.set_cons_succ])
            refine' wpAnyH_take (i := 48) (oi := _) (v := Value.bool false) ?hi171 (by kernel_rfl) (by kernel_rfl) (by kernel_rfl) ?hq171 (Or.inl ⟨?hw171, ?hy171⟩) (by assumption) ?rest171
            case hi171 => (simp only [List.getElem?_toArray, List.getElem?_cons_succ, List.getElem?_cons_zero]; rfl)
            case hq171 => exact fun _ _ _ h => h
            case hw171 => rfl
            case hy171 => (intro wq hSw; (try dsimp only at hSw); (try go_simp); (first | done | (with_reducible rfl) | rfl | simp))
            (try simp only [Act.put, List.setIfInBounds_toArray, List.set_cons_zero, List.set_cons_succ])
            refine wpAnyH_done (by kernel_rfl) ?_ _
            clear HLV HW1 HW2 HW3 HDV
            go_wp2
            go_roundw
            case rel => exact ⟨k + 1, by omega, by go_num, Lib.hid (HN.out _ (by first | rfl | omega | (rw [Int.min_def]; split <;> split <;> omega)))⟩
            case measure => simp [intOf]; omega
        · obtain rfl : k = xs.length := by omega
          clear hk hlt
          have HO := Lib.hid hI.out.2
          clear hI
          go_wp2_with fail
          refine (HM.out wr (some ⟨gb, 0, none⟩) c4 HO.out.rds.2 hc4 HT7.out.be).mono ?_
          rintro e u8 ⟨A9, c9, rfl, hc9, hr, hb⟩
          obtain ⟨vb, vo, rfl⟩ := rds_form hr (by rw [Hl2.out]; exact hn0)
          obtain ⟨u9, hu9⟩ : ∃ z : World, z = u8.alloc (.cells #[.int .i64 (wd : Int), .int .i64 (hh : Int), .int .i64 1, .slice (some ⟨vb, vo, none⟩) vs.length c9] 25) := ⟨_, rfl⟩
          obtain ⟨bv, hbv⟩ : ∃ z : Nat, z = u8.heap.size := ⟨_, rfl⟩
          have HI9 : Hid (TwoF w bg bh (imC wd hh 1 (.slice (some ⟨ab, ao, none⟩) xs.length c1)) (imC wd hh 1 (.slice (some ⟨yb, yo, none⟩) ys.length c2)) (some ⟨ab, ao, none⟩) (some ⟨yb, yo, none⟩) xs ys u9 ∧ Rds .i64 u9 u9.heap.size (some ⟨vb, vo, none⟩) vs ∧ Bx u9 bv 25 (imC wd hh 1 (.slice (some ⟨vb, vo, none⟩) vs.length c9))) := Lib.hid (by rw [hu9, hbv]; exact ⟨(HT7.out.call hb).alloc _, rds_alloc hr _, Bx.new u8 _ _⟩)
          have HU9 := Lib.hid hu9
          have Hbv := Lib.hid hbv
          clear hr hb hu9 hbv HT7 HO HM HT6 a0 a1 a2 a3 b0 b1 b2 b3 al bl hB
          obtain ⟨a0, a1, a2, a3⟩ := HI9.out.1.xa.im
          obtain ⟨b0, b1, b2, b3⟩ := HI9.out.1.xb.im
          rw [HU9.out] at a0 a1 a2 a3 b0 b1 b2 b3
          go_wp2
          rw [← HU9.out, ← Hbv.out]
          clear HU9 Hbv a0 a1 a2 a3 b0 b1 b2 b3
          go_loopw [13] (fun i wr => ∃ k : Nat, k ≤ xs.length ∧ i = .int .i64 (k : Int) ∧ Hid (TwoF w bg bh (imC wd hh 1 (.slice (some ⟨ab, ao, none⟩) xs.length c1)) (imC wd hh 1 (.slice (some ⟨yb, yo, none⟩) ys.length c2)) (some ⟨ab, ao, none⟩) (some ⟨yb, yo, none⟩) xs ys wr ∧ Rds .i64 wr wr.heap.size (some ⟨vb, vo, none⟩) vs ∧ Bx wr bv 25 (imC wd hh 1 (.slice (some ⟨vb, vo, none⟩) vs.length c9)))) (fun i _ => xs.length - (intOf i).toNat)
          case atStart => exact ⟨0, by omega, rfl, HI9⟩
          case round =>
            clear HI9
            obtain ⟨k, hk, rfl, hI⟩ := hrel
            rename World => wr
            obtain ⟨a0, a1, a2, a3⟩ := hI.out.1.xa.im
            obtain ⟨b0, b1, b2, b3⟩ := hI.out.1.xb.im
            obtain ⟨e0, e1, e2, e3⟩ := hI.out.2.2.im
            have al := hI.out.1.xa.lt
            have bl := hI.out.1.xb.lt
            have el := hI.out.2.2.lt
            by_cases hlt : k < xs.length
            · have hky : k < ys.length := by rw [Hl1.out]; exact hlt
              have hkv : k < vs.length := by rw [Hl2.out]; exact hlt
              have hcy := rds_at hI.out.1.rb hky
              have hcv := rds_at hI.out.2.1 hkv
              have hle := (HAll.out k hlt).2.2.2.2
              obtain ⟨y, hy⟩ : ∃ z, z = ys.getD k 0 := ⟨_, rfl⟩
              obtain ⟨v, hv⟩ : ∃ z, z = vs.getD k 0 := ⟨_, rfl⟩
              rw [← hy] at hcy hle
              rw [← hv] at hcv hle
              have hnd : decide (v < y) = false := decide_eq_false (by omega)
              have hll : (vs.length : Int) = (ys.length : Int) := by rw [Hl1.out, Hl2.out]
              have hll2 : ((vs.length : Int) != (ys.length : Int)) = false := by rw [hll]; simp
              have hkx : (k : Int) < (xs.length : Int) := by omega
              have hkyI : (k : Int) < (ys.length : Int) := by omega
              have hkvI : (k : Int) < (vs.length : Int) := by omega
              have HN : Hid (TwoF w bg bh (imC wd hh 1 (.slice (some ⟨ab, ao, none⟩) xs.length c1)) (imC wd hh 1 (.slice (some ⟨yb, yo, none⟩) ys.length c2)) (some ⟨ab, ao, none⟩) (some ⟨yb, yo, none⟩) xs ys wr.drew ∧ Rds .i64 wr.drew wr.drew.heap.size (some ⟨vb, vo, none⟩) vs ∧ Bx wr.drew bv 25 (imC wd hh 1 (.slice (some ⟨vb, vo, none⟩) vs.length c9))) := Lib.hid ⟨hI.out.1.drew, hI.out.2.1, hI.out.2.2⟩
              clear hy hv hI
              go_upto_region 19 with fail
              refine wp_region_held_drew (S := (fun w' => w'.cell? ⟨bv, 0, none⟩ = some (.int .i64 (wd : Int)) ∧ w'.cell? ⟨bv, 1, none⟩ = some (.int .i64 (hh : Int)) ∧ w'.cell? ⟨bv, 2, none⟩ = some (.int .i64 1) ∧ w'.cell? ⟨bv, 3, none⟩ = some (.slice (some ⟨vb, vo, none⟩) vs.length c9) ∧ w'.cell? ⟨bh, 0, none⟩ = some (.int .i64 (wd : Int)) ∧ w'.cell? ⟨bh, 1, none⟩ = some (.int .i64 (hh : Int)) ∧ w'.cell? ⟨bh, 2, none⟩ = some (.int .i64 1) ∧ w'.cell? ⟨bh, 3, none⟩ = some (.slice (some ⟨yb, yo, none⟩) ys.length c2) ∧ w'.cell? ⟨vb, vo + k, none⟩ = some (.int .i64 v) ∧ w'.cell? ⟨yb, yo + k, none⟩ = some (.int .i64 y))) (by kernel_rfl) (by exact ⟨e0, e1, e2, e3, b0, b1, b2, b3, hcv, hcy⟩) (fun hHeld => ?_)
              refine' wpAnyH_take (i := 0) (oi := _) (v := _) ?hi1 (by kernel_rfl) (by kernel_rfl) (by kernel_rfl) ?hq1 (Or.inl ⟨?hw1, ?hy1⟩) (by assumption) ?rest1
              case hi1 => (simp only [List.getElem?_toArray, List.getElem?_cons_succ, List.getElem?_cons_zero]; rfl)
              case hq1 => exact fun _ _ _ h => h
              case hw1 => rfl
              case hy1 => (intro wq hSw; (try dsimp only at hSw); go_simp; (try with_reducible rfl))
              (try simp only [Act.put, List.setIfInBounds_toArray, List.set_cons_zero, List.set_cons_succ])
              refine' wpAnyH_take (i := 1) (oi := _) (v := Value.bool false) ?hi2 (by kernel_rfl) (by kernel_rfl) (by kernel_rfl) ?hq2 (Or.inl ⟨?hw2, ?hy2⟩) (by assumption) ?rest2
              case hi2 => (simp only [List.getElem?_toArray, List.getElem?_cons_succ, List.getElem?_cons_zero]; rfl)
              case hq2 => exact fun _ _ _ h => h
              case hw2 => rfl
              case hy2 => (intro wq hSw; (try dsimp only at hSw); (try go_simp); (first | done | (with_reducible rfl) | rfl | simp))
              (try simp only [Act.put, List.setIfInBounds_toArray, List.set_cons_zero, List.set_cons_succ])
              refine' wpAnyH_take (i := 2) (oi := _) (v := _) ?hi3 (by kernel_rfl) (by kernel_rfl) (by kernel_rfl) ?hq3 (Or.inl ⟨?hw3, ?hy3⟩) (by assumption) ?rest3
              case hi3 => (simp only [List.getElem?_toArray, List.getElem?_cons_succ, List.getElem?_cons_zero]; rfl)
              case hq3 => exact fun _ _ _ h => h
              case hw3 => rfl
              case hy3 => (intro wq hSw; (try dsimp only at hSw); go_simp; (try with_reducible rfl))
              (try simp only [Act.put, List.setIfInBounds_toArray, List.set_cons_zero, List.set_cons_succ])
              refine' wpAnyH_take (i := 3) (oi := _) (v := _) ?hi4 (by kernel_rfl) (by kernel_rfl) (by kernel_rfl) ?hq4 (Or.inl ⟨?hw4, ?hy4⟩) (by assumption) ?rest4
              case hi4 => (simp only [List.getElem?_toArray, List.getElem?_cons_succ, List.getElem?_cons_zero]; rfl)
              case hq4 => exact fun _ _ _ h => h
              case hw4 => rfl
              case hy4 => (intro wq hSw; (try dsimp only at hSw); go_simp; (try with_reducible rfl))
              (try simp only [Act.put, List.setIfInBounds_toArray, List.set_cons_zero, List.set_cons_succ])
              refine' wpAnyH_take (i := 4) (oi := _) (v := _) ?hi5 (by kernel_rfl) (by kernel_rfl) (by kernel_rfl) ?hq5 (Or.inl ⟨?hw5, ?hy5⟩) (by assumption) ?rest5
              case hi5 => (simp only [List.getElem?_toArray, List.getElem?_cons_succ, List.getElem?_cons_zero]; rfl)
              case hq5 => exact fun _ _ _ h => h
              case hw5 => rfl
              case hy5 => (intro wq hSw; (try dsimp only at hSw); go_simp; (try with_reducible rfl))
              (try simp only [Act.put, List.setIfInBounds_toArray, List.set_cons_zero, List.set_cons_succ])
              refine' wpAnyH_take (i := 5) (oi := _) (v := _) ?hi6 (by kernel_rfl) (by kernel_rfl) (by kernel_rfl) ?hq6 (Or.inl ⟨?hw6, ?hy6⟩) (by assumption) ?rest6
              case hi6 => (simp only [List.getElem?_toArray, List.getElem?_cons_succ, List.getElem?_cons_zero]; rfl)
              case hq6 => exact fun _ _ _ h => h
              case hw6 => rfl
              case hy6 => (intro wq hSw; (try dsimp only at hSw); go_simp; (try with_reducible rfl))
              (try simp only [Act.put, List.setIfInBounds_toArray, List.set_cons_zero, List.set_cons_succ])
              refine' wpAnyH_take (i := 6) (oi := _) (v := _) ?hi7 (by kernel_rfl) (by kernel_rfl) (by kernel_rfl) ?hq7 (Or.inl ⟨?hw7, ?hy7⟩) (by assumption) ?rest7
              case hi7 => (simp only [List.getElem?_toArray, List.getElem?_cons_succ, List.getElem?_cons_zero]; rfl)
              case hq7 => exact fun _ _ _ h => h
              case hw7 => rfl
              case hy7 => (intro wq hSw; (try dsimp only at hSw); go_simp; (try with_reducible rfl))
              (try simp only [Act.put, List.setIfInBounds_toArray, List.set_cons_zero, List.set_cons_succ])
              refine' wpAnyH_take (i := 7) (oi := _) (v := _) ?hi8 (by kernel_rfl) (by kernel_rfl) (by kernel_rfl) ?hq8 (Or.inl ⟨?hw8, ?hy8⟩) (by assumption) ?rest8
              case hi8 => (simp only [List.getElem?_toArray, List.getElem?_cons_succ, List.getElem?_cons_zero]; rfl)
              case hq8 => exact fun _ _ _ h => h
              case hw8 => rfl
              case hy8 => (intro wq hSw; (try dsimp only at hSw); go_simp; (try with_reducible rfl))
              (try simp only [Act.put, List.setIfInBounds_toArray, List.set_cons_zero, List.set_cons_succ])
              refine' wpAnyH_take (i := 8) (oi := _) (v := _) ?hi9 (by kernel_rfl) (by kernel_rfl) (by kernel_rfl) ?hq9 (Or.inl ⟨?hw9, ?hy9⟩) (by assumption) ?rest9
              case hi9 => (simp only [List.getElem?_toArray, List.getElem?_cons_succ, List.getElem?_cons_zero]; rfl)
              case hq9 => exact fun _ _ _ h => h
              case hw9 => rfl
              case hy9 => (intro wq hSw; (try dsimp only at hSw); go_simp; (try with_reducible rfl))
              (try simp only [Act.put, List.setIfInBounds_toArray, List.set_cons_zero, List.set_cons_succ])
              refine' wpAnyH_take (i := 9) (oi := _) (v := Value.bool false) ?hi10 (by kernel_rfl) (by kernel_rfl) (by kernel_rfl) ?hq10 (Or.inl ⟨?hw10, ?hy10⟩) (by assumption) ?rest10
              case hi10 => (simp only [List.getElem?_toArray, List.getElem?_cons_succ, List.getElem?_cons_zero]; rfl)
              case hq10 => exact fun _ _ _ h => h
              case hw10 => rfl
              case hy10 => (intro wq hSw; (try dsimp only at hSw); (try go_simp); (first | done | (with_reducible rfl) | rfl | exact hll2 | rw [hll2] | simp [hll] | simp))
              (try simp only [Act.put, List.setIfInBounds_toArray, List.set_cons_zero, List.set_cons_succ])
              refine' wpAnyH_take (i := 10) (oi := _) (v := Value.bool false) ?hi11 (by kernel_rfl) (by kernel_rfl) (by kernel_rfl) ?hq11 (Or.inl ⟨?hw11, ?hy11⟩) (by assumption) ?rest11
              case hi11 => (simp only [List.getElem?_toArray, List.getElem?_cons_succ, List.getElem?_cons_zero]; rfl)
              case hq11 => exact fun _ _ _ h => h
              case hw11 => rfl
              case hy11 => (intro wq hSw; (try dsimp only at hSw); (try go_simp); (first | done | (with_reducible rfl) | rfl | simp))
              (try simp only [Act.put, List.setIfInBounds_toArray, List.set_cons_zero, List.set_cons_succ])
              refine' wpAnyH_take (i := 11) (oi := _) (v := _) ?hi12 (by kernel_rfl) (by kernel_rfl) (by kernel_rfl) ?hq12 (Or.inl ⟨?hw12, ?hy12⟩) (by assumption) ?rest12
              case hi12 => (simp only [List.getElem?_toArray, List.getElem?_cons_succ, List.getElem?_cons_zero]; rfl)
              case hq12 => exact fun _ _ _ h => h
              case hw12 => rfl
              case hy12 => (intro wq hSw; (try dsimp only at hSw); go_simp; (try with_reducible rfl))
              (try simp only [Act.put, List.setIfInBounds_toArray, List.set_cons_zero, List.set_cons_succ])
              refine' wpAnyH_take (i := 12) (oi := _) (v := _) ?hi13 (by kernel_rfl) (by kernel_rfl) (by kernel_rfl) ?hq13 (Or.inl ⟨?hw13, ?hy13⟩) (by assumption) ?rest13
              case hi13 => (simp only [List.getElem?_toArray, List.getElem?_cons_succ, List.getElem?_cons_zero]; rfl)
              case hq13 => exact fun _ _ _ h => h
              case hw13 => rfl
              case hy13 => (intro wq hSw; (try dsimp only at hSw); go_simp; (try with_reducible rfl))
              (try simp only [Act.put, List.setIfInBounds_toArray, List.set_cons_zero, List.set_cons_succ])
              refine' wpAnyH_take (i := 13) (oi := _) (v := _) ?hi14 (by kernel_rfl) (by kernel_rfl) (by kernel_rfl) ?hq14 (Or.inl ⟨?hw14, ?hy14⟩) (by assumption) ?rest14
              case hi14 => (simp only [List.getElem?_toArray, List.getElem?_cons_succ, List.getElem?_cons_zero]; rfl)
              case hq14 => exact fun _ _ _ h => h
              case hw14 => rfl
              case hy14 => (intro wq hSw; (try dsimp only at hSw); go_simp; (try with_reducible rfl))
              (try simp only [Act.put, List.setIfInBounds_toArray, List.set_cons_zero, List.set_cons_succ])
              refine' wpAnyH_take (i := 14) (oi := _) (v := _) ?hi15 (by kernel_rfl) (by kernel_rfl) (by kernel_rfl) ?hq15 (Or.inl ⟨?hw15, ?hy15⟩) (by assumption) ?rest15
              case hi15 => (simp only [List.getElem?_toArray, List.getElem?_cons_succ, List.getElem?_cons_zero]; rfl)
              case hq15 => exact fun _ _ _ h => h
              case hw15 => rfl
              case hy15 => (intro wq hSw; (try dsimp only at hSw); go_simp; (try with_reducible rfl))
              (try simp only [Act.put, List.setIfInBounds_toArray, List.set_cons_zero, List.set_cons_succ])
              refine' wpAnyH_take (i := 15) (oi := _) (v := _) ?hi16 (by kernel_rfl) (by kernel_rfl) (by kernel_rfl) ?hq16 (Or.inl ⟨?hw16, ?hy16⟩) (by assumption) ?rest16
              case hi16 => (simp only [List.getElem?_toArray, List.getElem?_cons_succ, List.getElem?_cons_zero]; rfl)
              case hq16 => exact fun _ _ _ h => h
              case hw16 => rfl
              case hy16 => (intro wq hSw; (try dsimp only at hSw); go_simp; (try with_reducible rfl))
              (try simp only [Act.put, List.setIfInBounds_toArray, List.set_cons_zero, List.set_cons_succ])
              refine' wpAnyH_take (i := 16) (oi := _) (v := _) ?hi17 (by kernel_rfl) (by kernel_rfl) (by kernel_rfl) ?hq17 (Or.inl ⟨?hw17, ?hy17⟩) (by assumption) ?rest17
              case hi17 => (simp only [List.getElem?_toArray, List.getElem?_cons_succ, List.getElem?_cons_zero]; rfl)
              case hq17 => exact fun _ _ _ h => h
              case hw17 => rfl
              case hy17 => (intro wq hSw; (try dsimp only at hSw); go_simp; (try with_reducible rfl))
              (try simp only [Act.put, List.setIfInBounds_toArray, List.set_cons_zero, List.set_cons_succ])
              refine' wpAnyH_take (i := 17) (oi := _) (v := _) ?hi18 (by kernel_rfl) (by kernel_rfl) (by kernel_rfl) ?hq18 (Or.inl ⟨?hw18, ?hy18⟩) (by assumption) ?rest18
              case hi18 => (simp only [List.getElem?_toArray, List.getElem?_cons_succ, List.getElem?_cons_zero]; rfl)
              case hq18 => exact fun _ _ _ h => h
              case hw18 => rfl
              case hy18 => (intro wq hSw; (try dsimp only at hSw); go_simp; (try with_reducible rfl))
              (try simp only [Act.put, List.setIfInBounds_toArray, List.set_cons_zero, List.set_cons_succ])
              refine' wpAnyH_take (i := 18) (oi := _) (v := _) ?hi19 (by kernel_rfl) (by kernel_rfl) (by kernel_rfl) ?hq19 (Or.inl ⟨?hw19, ?hy19⟩) (by assumption) ?rest19
              case hi19 => (simp only [List.getElem?_toArray, List.getElem?_cons_succ, List.getElem?_cons_zero]; rfl)
              case hq19 => exact fun _ _ _ h => h
              case hw19 => rfl
              case hy19 => (intro wq hSw; (try dsimp only at hSw); go_simp; (try with_reducible rfl))
              (try simp only [Act.put, List.setIfInBounds_toArray, List.set_cons_zero, List.set_cons_succ])
              refine' wpAnyH_take (i := 19) (oi := _) (v := _) ?hi20 (by kernel_rfl) (by kernel_rfl) (by kernel_rfl) ?hq20 (Or.inl ⟨?hw20, ?hy20⟩) (by assumption) ?rest20
              case hi20 => (simp only [List.getElem?_toArray, List.getElem?_cons_succ, List.getElem?_cons_zero]; rfl)
              case hq20 => exact fun _ _ _ h => h
              case hw20 => rfl
              case hy20 => (intro wq hSw; (try dsimp only at hSw); go_simp; (try with_reducible rfl))
              (try simp only [Act.put, List.setIfInBounds_toArray, List.set_cons_zero, List.set_cons_succ])
              refine' wpAnyH_take (i := 20) (oi := _) (v := _) ?hi21 (by kernel_rfl) (by kernel_rfl) (by kernel_rfl) ?hq21 (Or.inl ⟨?hw21, ?hy21⟩) (by assumption) ?rest21
              case hi21 => (simp only [List.getElem?_toArray, List.getElem?_cons_succ, List.getElem?_cons_zero]; rfl)
              case hq21 => exact fun _ _ _ h => h
              case hw21 => rfl
              case hy21 => (intro wq hSw; (try dsimp only at hSw); go_simp; (try with_reducible rfl))
              (try simp only [Act.put, List.setIfInBounds_toArray, List.set_cons_zero, List.set_cons_succ])
              refine' wpAnyH_take (i := 21) (oi := _) (v := _) ?hi22 (by kernel_rfl) (by kernel_rfl) (by kernel_rfl) ?hq22 (Or.inl ⟨?hw22, ?hy22⟩) (by assumption) ?rest22
              case hi22 => (simp only [List.getElem?_toArray, List.getElem?_cons_succ, List.getElem?_cons_zero]; rfl)
              case hq22 => exact fun _ _ _ h => h
              case hw22 => rfl
              case hy22 => (intro wq hSw; (try dsimp only at hSw); go_simp; (try with_reducible rfl))
              (try simp only [Act.put, List.setIfInBounds_toArray, List.set_cons_zero, List.set_cons_succ])
              refine' wpAnyH_take (i := 22) (oi := _) (v := Value.bool false) ?hi23 (by kernel_rfl) (by kernel_rfl) (by kernel_rfl) ?hq23 (Or.inl ⟨?hw23, ?hy23⟩) (by assumption) ?rest23
              case hi23 => (simp only [List.getElem?_toArray, List.getElem?_cons_succ, List.getElem?_cons_zero]; rfl)
              case hq23 => exact fun _ _ _ h => h
              case hw23 => rfl
              case hy23 => (intro wq hSw; (try dsimp only at hSw); (try go_simp); (first | done | (with_reducible rfl) | rfl | exact hnd | rw [hnd] | simp))
              (try simp only [Act.put, List.setIfInBounds_toArray, List.set_cons_zero, List.set_cons_succ])
              refine' wpAnyH_take (i := 23) (oi := _) (v := Value.bool false) ?hi24 (by kernel_rfl) (by kernel_rfl) (by kernel_rfl) ?hq24 (Or.inl ⟨?hw24, ?hy24⟩) (by assumption) ?rest24
              case hi24 => (simp only [List.getElem?_toArray, List.getElem?_cons_succ, List.getElem?_cons_zero]; rfl)
              case hq24 => exact fun _ _ _ h => h
              case hw24 => rfl
              case hy24 => (intro wq hSw; (try dsimp only at hSw); (try go_simp); (first | done | (with_reducible rfl) | rfl | simp))
              (try simp only [Act.put, List.setIfInBounds_toArray, List.set_cons_zero, List.set_cons_succ])
              refine wpAnyH_done (by kernel_rfl) ?_ _
              go_wp2
              go_roundw
              case rel => exact ⟨k + 1, by omega, by go_num, HN⟩
              case measure => simp [intOf]; omega
            · have HB := Lib.hid hI.out.1.be
              have hkx : ¬ (k : Int) < (xs.length : Int) := by omega
              clear hI
              go_wp2
              go_ret
              exact ⟨rfl, HB.out⟩

/-! ### From the walk to the statement. -/
theorem own : ownKnob Tryd.prog.godebug = none := by kernel_rfl
theorem laidOut : laidOutB Tryd.prog = true := by kernel_rfl
set_option maxRecDepth 100000 in
theorem lifted (os : Os) (started : os.Started) (H : Type) (enc : TypeId × Value → H) :
    ReturnsInHanded {} Tryd.checked os 3 .any (fun w args => (Rows.fnOrderImageSpec.pre enc Tryd.prog Tryd.f3 [] false w args ∧ laidMetH Tryd.prog laidTab w) ∧ sizedMet enc Tryd.prog Tryd.f3 (OpenSpec.ofChange Rows.fnOrderImageSpec) false w args) (Rows.fnOrderImageSpec.post enc Tryd.prog Tryd.f3 false true false false) := by
  refine returnsInHanded_of_change_and (C := Tryd.checked) (X := fun w _ => laidMetH Tryd.prog laidTab w) (fun _ _ _ hh h => h.of_heap hh) own started (by kernel_rfl) Tryd.func3
    (ChangeSpec.witness_shaped (enc := enc) (C := Tryd.checked) (os := os) (X := fun w _ => laidMetH Tryd.prog laidTab w) false (World.doorLaid Tryd.prog doorSteps os) #[.slice none 0 0] 8 rfl (World.shaped_of_RefB (by kernel_rfl) (by kernel_rfl)) (by kernel_rfl) (by kernel_rfl) (by kernel_rfl) (door_met os _)) ?_
  intro W base args ds gs before hval0 hW _ _ hL _
  have hval : ∀ (j : Nat) t v, Tryd.f3.params[j]? = some t → args[j]? = some v → Value.okWide Tryd.prog W .any base t v := hval0
  have hW' := hW
  obtain ⟨p, q, hA0, hV, rfl, hfz, hnd⟩ := hW
  have hA : DataW.TrodAll enc Tryd.prog W 0 (fun _ => true) true Tryd.f3.params.toList args.toList ds p := hA0
  rw [Tryd.params3] at hA hval
  obtain ⟨v0, vs0, d0, ds0, p0, q0, hargs, rfl, rfl, h0, r0⟩ := trodAll_cons hA
  obtain ⟨rfl, rfl, rfl⟩ := trodAll_nil r0
  obtain rfl : args = #[v0] := by cases args; simp_all
  have hV2 : DataW.TrodVars enc Tryd.prog W (fun _ => true) ["loop.example/pixelworks/impl.matrix"] gs q := hV
  obtain ⟨g1, rfl⟩ : ∃ g, gs = [g] := by
    obtain ⟨_, _, _, _, d, _, h, _⟩ := trodVars_one hV2
    exact ⟨d, h⟩
  obtain ⟨a0, len0, cap0, rfl⟩ := okWide_slice Tryd.underlying22 (hval 0 22 v0 rfl rfl)
  have k0 := h0
  have lt0 : ∀ x ∈ p0, x.block < W.heap.size := by obtain ⟨m, hm⟩ := k0; exact DataW.trod_lt m _ _ _ hm
  obtain ⟨z0, hl0, hc0, w0⟩ : ∃ zs : List Int, len0 = zs.length ∧ zs.length ≤ cap0 ∧ Rdw .u8 W W.heap.size a0 zs := by
    obtain ⟨fuel, hf⟩ := h0
    rcases open_ints Tryd.underlying22 Tryd.underlying5 (by kernel_rfl) hf with ⟨hcs, _⟩ | ⟨x, l, c, zs, hcs, _, hl, hm, hz, _, hcell, hwz⟩
    · simp [Value.cells] at hcs
      obtain ⟨rfl, rfl, rfl⟩ := hcs
      exact ⟨[], rfl, Nat.le_refl _, Rdw.nil⟩
    · simp [Value.cells] at hcs
      obtain ⟨rfl, rfl, rfl⟩ := hcs
      exact ⟨zs.take len0, by simp at hz ⊢; omega, by simp at hz ⊢; omega, Rdw.of_row hl hm (by simpa using hz) hcell hwz⟩
  subst hl0
  clear hA0 hval0
  refine (walk W a0 cap0 z0 hc0 w0 (tab_of hL)).mono fun e W' ⟨he, bel⟩ => ?_
  subst he
  exact ⟨_, rfl, _, _, _, [], _, _, hW', trodAll_mk1 (shut_bool Tryd.underlying4 _), (trodAll_cons_mk (Below.trod laidOut (by kernel_rfl) (of_decide_eq_true (by kernel_rfl)) k0 bel lt0) trodAll_mk0), Below.trodVars laidOut bel (by kernel_rfl) hV2, bel.frame _, fun h => by cases h⟩

theorem over : Rows.fnOrderImageRow.holds Tryd.pinned (OpenSpec.ofChange Rows.fnOrderImageSpec) :=
  OpenClaim.holds_of_wide 3 Tryd.f3 rfl rfl rfl rfl rfl rfl rfl ⟨rfl, rfl, rfl, rfl, rfl⟩ rfl rfl rfl rfl rfl (by kernel_rfl) Tryd.func3 (by kernel_rfl)
    (of_decide_eq_true (by kernel_rfl)) (by unfold Func.isWrapper; first | (rw [if_pos (by decide +kernel)]; kernel_rfl) | (rw [if_neg (by decide +kernel)]; exact ⟨rfl, rfl⟩))
    (fun os started H enc _ => lifted os started H enc)

theorem proved : Rows.FnOrderImageCardSaid :=
  Claim7.holds_tied_plain_at .later [] [.data] true _ _
    over (fun _ h => by cases h) (by kernel_rfl) (fun _ h => by cases h) fnOrderImage_row_tie rfl ⟨rfl, rfl⟩ (by kernel_rfl) rfl
    (fun f fn hf hfn => by
      obtain rfl : f = 3 := Option.some.inj ((show Tryd.prog.funcNamed "loop.example/pixelworks/laws.FnOrderImage" = some 3 by kernel_rfl).symm.trans hf) |>.symm
      obtain rfl : fn = Tryd.f3 := (Option.some.inj (Tryd.func3.symm.trans hfn)).symm
      exact ⟨by kernel_rfl, fun j t ht => by
        rw [Tryd.params3] at ht
        have hm : t ∈ [22] := by simpa using Array.mem_of_getElem? ht
        have hall : ([22].all fun u => !Tryd.prog.wantsStandIn u) = true := by kernel_rfl
        exact (show Tryd.prog.wantsStandIn t = false by simpa using List.all_eq_true.1 hall t hm)⟩)
    (by kernel_rfl)
end Go.Proofs.YtdmdgdmnbgchoaaDoor.fnOrderImage
