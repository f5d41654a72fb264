/- Whatever the code: what FindImage tells of two drawn images is what the model tells; no place has a part that is nearer, and the part at its place has its sum. -/
import Derived.Test.YtfjcbdpepbcjcaaRows
import Derived.WalkKit
import Derived.ProofKit
import Derived.OpenShut
import Derived.ShutString
import Derived.ChangeOld
import Derived.Below
import Derived.Test.YtfjcbdpepbcjcaaFndJ
import Derived.Test.YtfjcbdpepbcjcaaFndI
import Derived.Test.YtfjcbdpepbcjcaaFndL
import Derived.Test.YtfjcbdpepbcjcaaImgC
import Derived.Test.YtfjcbdpepbcjcaaDrawFnd
import Derived.Deep.RegionHeld3
namespace Go.Proofs.Ytfjcbdpepbcjcaa.fnFindImage
open Go.ChangeShapes Go.WideShapes Go.ChangeAt Go.RowKit
open Go.ChangeMaps (open_string shut_string)
set_option linter.unusedVariables false

/-- Two images that are read while calls go by, and their boxes. -/
structure TwoF (w : World) (g h : Nat) (ca cb : Array Value) (A1 A2 : Option Addr) (xs ys : List Int) (u : World) : Prop where
  ra : Rds .i64 u u.heap.size A1 xs
  rb : Rds .i64 u u.heap.size A2 ys
  xa : Bx u g 30 ca
  xb : Bx u h 30 cb
  be : Below w.heap.size w u
theorem bx_call {u u' : World} {b : Nat} {T : TypeId} {cs : Array Value} (h : Bx u b T cs) (hb : Below u.heap.size u u') : Bx u' b T cs := (hb.block b h.lt).trans h
theorem rds_call {u u' : World} {A : Option Addr} {xs : List Int} (h : Rds .i64 u u.heap.size A xs) (hb : Below u.heap.size u u') : Rds .i64 u' u'.heap.size A xs := (h.below hb).more hb.size
theorem rds_alloc {u : World} {A : Option Addr} {xs : List Int} (h : Rds .i64 u u.heap.size A xs) (o : Obj) : Rds .i64 (u.alloc o) (u.alloc o).heap.size A xs := (h.alloc (Nat.le_refl _) o).more (by simp)
theorem TwoF.call {w u u' : World} {g h : Nat} {ca cb : Array Value} {A1 A2 : Option Addr} {xs ys : List Int} (t : TwoF w g h ca cb A1 A2 xs ys u) (hb : Below u.heap.size u u') : TwoF w g h ca cb A1 A2 xs ys u' :=
  ⟨rds_call t.ra hb, rds_call t.rb hb, bx_call t.xa hb, bx_call t.xb hb, t.be.trans (hb.mono t.be.size)⟩
theorem TwoF.alloc {w u : World} {g h : Nat} {ca cb : Array Value} {A1 A2 : Option Addr} {xs ys : List Int} (t : TwoF w g h ca cb A1 A2 xs ys u) (o : Obj) : TwoF w g h ca cb A1 A2 xs ys (u.alloc o) :=
  ⟨rds_alloc t.ra o, rds_alloc t.rb o, t.xa.alloc o, t.xb.alloc o, t.be.alloc t.be.size o⟩
theorem TwoF.drew {w u : World} {g h : Nat} {ca cb : Array Value} {A1 A2 : Option Addr} {xs ys : List Int} (t : TwoF w g h ca cb A1 A2 xs ys u) : TwoF w g h ca cb A1 A2 xs ys u.drew :=
  ⟨t.ra, t.rb, t.xa, t.xb, t.be.drew⟩
set_option maxHeartbeats 32000000 in
theorem walk (w : World) (a0 : Option Addr) (cap0 : Nat) (z0 : List Int) (hc0 : z0.length ≤ cap0) (w0 : Rdw .u8 w w.heap.size a0 z0) :
    Calls Try.prog 5 #[.slice a0 z0.length cap0] w fun e w' => e = .returned (.bool true) ∧ Below w.heap.size w w' := by
  have hm := w0.2.1
  unfold maxLen at hm
  by_cases hlen : 1048576 < z0.length
  · go_enter Try.func5, Try.ntmps5
    go_wp2
    go_ret
    exact ⟨rfl, Below.refl _ _⟩
  · have HD := Lib.hid (drawFnd_any a0 cap0 z0 w hc0 w0)
    clear w0 hc0
    go_enter Try.func5, Try.ntmps5
    go_wp2_with fail
    refine HD.out.mono ?_
    rintro e w1 ⟨W, H, P, A1, c1, xs, W', H', P', A2, c2, ys, rfl, ⟨hx1, hy1⟩, hc1, hc2, hr1, hr2, hb1, _, _⟩
    obtain ⟨u, hu⟩ : ∃ u, u = (w1.alloc (.cells #[.int .i64 W, .int .i64 H, .int .i64 P, .slice A1 xs.length c1] 30)).alloc (.cells #[.int .i64 W', .int .i64 H', .int .i64 P', .slice A2 ys.length c2] 30) := ⟨_, rfl⟩
    obtain ⟨bg, hbg⟩ : ∃ b, b = w1.heap.size := ⟨_, rfl⟩
    obtain ⟨bh, hbh⟩ : ∃ b, b = w1.heap.size + 1 := ⟨_, rfl⟩
    have HT1 : Hid (TwoF w bg bh (imC W H P (.slice A1 xs.length c1)) (imC W' H' P' (.slice A2 ys.length c2)) A1 A2 xs ys u) := Lib.hid (by
      rw [hu]
      have xb := Bx.new (w1.alloc (.cells #[.int .i64 W, .int .i64 H, .int .i64 P, .slice A1 xs.length c1] 30)) 30 (imC W' H' P' (.slice A2 ys.length c2))
      refine ⟨((hr1.alloc (Nat.le_refl _) _).alloc (by simp) _).more (by simp <;> omega), ((hr2.alloc (Nat.le_refl _) _).alloc (by simp) _).more (by simp <;> omega), by rw [hbg]; exact (Bx.new w1 _ _).alloc _, by rw [hbh]; simpa [imC] using xb, (hb1.alloc hb1.size _).alloc (by have := hb1.size; simp; omega) _⟩)
    have HU := Lib.hid hu
    have Hbg := Lib.hid hbg
    have Hbh := Lib.hid hbh
    clear hr1 hr2 hb1 hu hbg hbh
    obtain ⟨ok, hok⟩ : ∃ b, b = fdB W H P xs W' H' P' ys := ⟨_, rfl⟩
    obtain ⟨n, hn⟩ : ∃ n : Int, n = cond ok (fdG W.toNat P.toNat xs W'.toNat H'.toNat ys (fdK W.toNat H.toNat P.toNat xs W'.toNat H'.toNat ys)) (-1) := ⟨_, rfl⟩
    obtain ⟨x0, hx0⟩ : ∃ x : Int, x = cond ok ((fdK W.toNat H.toNat P.toNat xs W'.toNat H'.toNat ys % (W.toNat - W'.toNat + 1) : Nat) : Int) 0 := ⟨_, rfl⟩
    obtain ⟨y0, hy0⟩ : ∃ x : Int, x = cond ok ((fdK W.toNat H.toNat P.toNat xs W'.toNat H'.toNat ys / (W.toNat - W'.toNat + 1) : Nat) : Int) 0 := ⟨_, rfl⟩
    obtain ⟨bW, hbW⟩ : ∃ x : Int, x = cond ok W' 0 := ⟨_, rfl⟩
    obtain ⟨bH, hbH⟩ : ∃ x : Int, x = cond ok H' 0 := ⟨_, rfl⟩
    have HI : Hid (∀ u, TwoF w bg bh (imC W H P (.slice A1 xs.length c1)) (imC W' H' P' (.slice A2 ys.length c2)) A1 A2 xs ys u → Calls Try.prog 12 #[.agg #[.int .i64 W, .int .i64 H, .int .i64 P, .slice A1 xs.length c1], .agg #[.int .i64 W', .int .i64 H', .int .i64 P', .slice A2 ys.length c2]] u fun e w' => e = .returned (.tuple #[.agg #[.int .i64 x0, .int .i64 y0, .int .i64 bW, .int .i64 bH], .int .i64 n]) ∧ Below u.heap.size u w') := Lib.hid (fun u t => by
      rw [hn, hx0, hy0, hbW, hbH, hok]; exact i_FindImage W H P W' H' P' A1 A2 c1 c2 xs ys u t.ra (by omega) hc1 t.rb (by omega) hc2)
    have HS : Hid (∀ u, TwoF w bg bh (imC W H P (.slice A1 xs.length c1)) (imC W' H' P' (.slice A2 ys.length c2)) A1 A2 xs ys u → Calls Try.prog 10 #[.agg #[.int .i64 W, .int .i64 H, .int .i64 P, .slice A1 xs.length c1], .agg #[.int .i64 W', .int .i64 H', .int .i64 P', .slice A2 ys.length c2]] u fun e w' => e = .returned (.tuple #[.agg #[.int .i64 x0, .int .i64 y0, .int .i64 bW, .int .i64 bH], .int .i64 n]) ∧ Below u.heap.size u w') := Lib.hid (fun u t => by
      rw [hn, hx0, hy0, hbW, hbH, hok]; exact s_FindImage W H P W' H' P' A1 A2 c1 c2 xs ys u t.ra (by omega) hc1 t.rb (by omega) hc2)
    have Hn := Lib.hid (And.intro hn (And.intro hx0 (And.intro hy0 (And.intro hbW hbH))))
    have HOK := Lib.hid hok
    clear hn hok hx0 hy0 hbW hbH
    go_wp2_with fail
    rw [← HU.out, ← Hbh.out, ← Hbg.out]
    clear HU Hbg Hbh
    refine (HI.out u HT1.out).mono ?_
    rintro e u2 ⟨rfl, hb⟩
    have HTc := Lib.hid (HT1.out.call hb)
    obtain ⟨u3, hu3⟩ : ∃ x, x = u2.alloc (.cells #[.int .i64 x0, .int .i64 y0, .int .i64 bW, .int .i64 bH] 27) := ⟨_, rfl⟩
    obtain ⟨bb, hbb⟩ : ∃ b, b = u2.heap.size := ⟨_, rfl⟩
    have HT3 : Hid (TwoF w bg bh (imC W H P (.slice A1 xs.length c1)) (imC W' H' P' (.slice A2 ys.length c2)) A1 A2 xs ys u3) := Lib.hid (by rw [hu3]; exact HTc.out.alloc _)
    have HX3 : Hid (Bx u3 bb 27 #[.int .i64 x0, .int .i64 y0, .int .i64 bW, .int .i64 bH]) := Lib.hid (by rw [hu3, hbb]; exact Bx.new u2 _ _)
    have HU3 := Lib.hid hu3
    have Hbb := Lib.hid hbb
    clear hb HT1 HI HTc hu3 hbb
    obtain ⟨a0, a1, a2, a3⟩ := HT3.out.xa.im
    obtain ⟨b0, b1, b2, b3⟩ := HT3.out.xb.im
    rw [HU3.out] at a0 a1 a2 a3 b0 b1 b2 b3
    go_wp2_with fail
    rw [← HU3.out, ← Hbb.out]
    clear HU3 Hbb
    refine (HS.out u3 HT3.out).mono ?_
    rintro e u4 ⟨rfl, hb⟩
    have HTc := Lib.hid (HT3.out.call hb)
    have HXc := Lib.hid (bx_call HX3.out hb)
    obtain ⟨u5, hu5⟩ : ∃ x, x = u4.alloc (.cells #[.int .i64 x0, .int .i64 y0, .int .i64 bW, .int .i64 bH] 27) := ⟨_, rfl⟩
    obtain ⟨bk, hbk⟩ : ∃ b, b = u4.heap.size := ⟨_, rfl⟩
    have HT5 : Hid (TwoF w bg bh (imC W H P (.slice A1 xs.length c1)) (imC W' H' P' (.slice A2 ys.length c2)) A1 A2 xs ys u5) := Lib.hid (by rw [hu5]; exact HTc.out.alloc _)
    have HX5 : Hid (Bx u5 bb 27 #[.int .i64 x0, .int .i64 y0, .int .i64 bW, .int .i64 bH]) := Lib.hid (by rw [hu5]; exact HXc.out.alloc _)
    have HK5 : Hid (Bx u5 bk 27 #[.int .i64 x0, .int .i64 y0, .int .i64 bW, .int .i64 bH]) := Lib.hid (by rw [hu5, hbk]; exact Bx.new u4 _ _)
    have HU5 := Lib.hid hu5
    have Hbk := Lib.hid hbk
    clear hb HT3 HX3 HTc HXc HS hu5 hbk a0 a1 a2 a3 b0 b1 b2 b3
    obtain ⟨a0, a1, a2, a3⟩ := HT5.out.xa.im
    obtain ⟨b0, b1, b2, b3⟩ := HT5.out.xb.im
    obtain ⟨e0, e1, e2, e3⟩ := (show Bx u5 bb 27 (imC x0 y0 bW (.int .i64 bH)) from HX5.out).im
    obtain ⟨k0, k1, k2, k3⟩ := (show Bx u5 bk 27 (imC x0 y0 bW (.int .i64 bH)) from HK5.out).im
    rw [HU5.out] at a0 a1 a2 a3 b0 b1 b2 b3 e0 e1 e2 e3 k0 k1 k2 k3
    rw [Hbk.out] at k0 k1 k2 k3
    cases ok
    · have hn1 : n = -1 := Hn.out.1
      have HB := Lib.hid HT5.out.be
      rw [HU5.out] at HB
      clear Hn HOK HT5 HX5 HK5
      subst hn1
      go_wp2
      go_ret
      exact ⟨by simp, HB.out⟩
    · obtain ⟨w', hh, p, pw, ph, X0, Y0, N, rfl, rfl, rfl, rfl, rfl, rfl, d1, d2, d3, d4, hk1, hk2, hkn, hN0, hX0, hY0, hAll, hBest⟩ := fnd_law HOK.out.symm
      have hnq := Hn.out
      simp only [cond_true, Int.toNat_natCast] at hnq
      rw [hk1, hk2, hkn] at hnq
      obtain ⟨rfl, rfl, rfl, rfl, rfl⟩ := hnq
      have hnn : ¬ n < 0 := by omega
      obtain ⟨C, hC⟩ : ∃ C : Nat → Nat → List Int, ∀ x y, C x y = cropL w' p xs x y pw ph := ⟨_, fun _ _ => rfl⟩
      have HC : Hid (∀ u (x y : Nat), x + pw ≤ w' → y + ph ≤ hh → TwoF w bg bh (imC w' hh p (.slice A1 xs.length c1)) (imC pw ph p (.slice A2 ys.length c2)) A1 A2 xs ys u → Calls Try.prog 18 #[.agg #[.int .i64 (w' : Int), .int .i64 (hh : Int), .int .i64 (p : Int), .slice A1 xs.length c1], .agg #[.int .i64 (x : Int), .int .i64 (y : Int), .int .i64 (pw : Int), .int .i64 (ph : Int)]] u (ShIB pw ph p (C x y) true u)) := Lib.hid (fun u x y hx hy t => by
        have h : Calls _ _ _ _ _ := (i_CropImage w' hh p x y pw ph A1 c1 xs u t.ra (by omega) hc1).mono (fun _ _ h => SetR.sh h)
        rw [(hAll x y hx hy).1] at h
        simp only [Int.toNat_natCast] at h
        rw [← hC] at h
        exact h)
      have HG : Hid (∀ u (x y : Nat) A c, x + pw ≤ w' → y + ph ≤ hh → TwoF w bg bh (imC w' hh p (.slice A1 xs.length c1)) (imC pw ph p (.slice A2 ys.length c2)) A1 A2 xs ys u → Rds .i64 u u.heap.size A (C x y) → (C x y).length ≤ c → Calls Try.prog 19 #[.agg #[.int .i64 (pw : Int), .int .i64 (ph : Int), .int .i64 (p : Int), .slice A (C x y).length c], .agg #[.int .i64 (pw : Int), .int .i64 (ph : Int), .int .i64 (p : Int), .slice A2 ys.length c2]] u fun e w' => ∃ g, e = .returned (.int .i64 g) ∧ ¬ g < n ∧ Below u.heap.size u w') := Lib.hid (fun u x y A c hx hy t hr hc => by
        have h3 := hAll x y hx hy
        rw [← hC] at h3
        exact (i_GapOf pw ph p pw ph p A A2 c c2 (C x y) ys u hr (by omega) hc t.rb (by omega) hc2).mono (fun e v h => ⟨_, h.1, by omega, h.2⟩))
      have HB0 : Hid (∀ u A c, TwoF w bg bh (imC w' hh p (.slice A1 xs.length c1)) (imC pw ph p (.slice A2 ys.length c2)) A1 A2 xs ys u → Rds .i64 u u.heap.size A (C X0 Y0) → (C X0 Y0).length ≤ c → Calls Try.prog 19 #[.agg #[.int .i64 (pw : Int), .int .i64 (ph : Int), .int .i64 (p : Int), .slice A (C X0 Y0).length c], .agg #[.int .i64 (pw : Int), .int .i64 (ph : Int), .int .i64 (p : Int), .slice A2 ys.length c2]] u fun e w' => e = .returned (.int .i64 n) ∧ Below u.heap.size u w') := Lib.hid (fun u A c t hr hc => by
        have h3 := (hAll X0 Y0 hX0 hY0).2.1
        have h4 := hBest
        rw [← hC] at h3 h4
        have h := i_GapOf pw ph p pw ph p A A2 c c2 (C X0 Y0) ys u hr (by omega) hc t.rb (by omega) hc2
        rw [h4] at h
        exact h)
      clear HOK Hn hC hAll hBest HX5 HK5 hN0
      go_wp2_with fail
      rw [← HU5.out]
      clear HU5 Hbk a0 a1 a2 a3 b0 b1 b2 b3 e0 e1 e2 e3 k0 k1 k2 k3
      refine (HC.out u5 X0 Y0 hX0 hY0 HT5.out).mono ?_
      rintro e u6 ⟨A9, c9, rfl, hc9, hr, hb⟩
      have HTc := Lib.hid (HT5.out.call hb)
      have HRc := Lib.hid hr
      obtain ⟨u7, hu7⟩ : ∃ x, x = u6.alloc (.cells #[.int .i64 (pw : Int), .int .i64 (ph : Int), .int .i64 (p : Int), .slice A9 (C X0 Y0).length c9] 30) := ⟨_, rfl⟩
      obtain ⟨b9, hb9⟩ : ∃ b, b = u6.heap.size := ⟨_, rfl⟩
      have HI7 : Hid (TwoF w bg bh (imC w' hh p (.slice A1 xs.length c1)) (imC pw ph p (.slice A2 ys.length c2)) A1 A2 xs ys u7 ∧ Rds .i64 u7 u7.heap.size A9 (C X0 Y0) ∧ Bx u7 b9 30 (imC pw ph p (.slice A9 (C X0 Y0).length c9))) := Lib.hid (by rw [hu7, hb9]; exact ⟨HTc.out.alloc _, rds_alloc HRc.out _, Bx.new u6 _ _⟩)
      have HU7 := Lib.hid hu7
      have Hb9 := Lib.hid hb9
      clear hb hr HTc HRc HT5 hu7 hb9
      obtain ⟨a0, a1, a2, a3⟩ := HI7.out.1.xa.im
      obtain ⟨b0, b1, b2, b3⟩ := HI7.out.1.xb.im
      rw [HU7.out] at a0 a1 a2 a3 b0 b1 b2 b3
      go_wp2
      rw [← HU7.out, ← Hb9.out]
      clear HU7 Hb9 a0 a1 a2 a3 b0 b1 b2 b3
      go_loopw [11] (fun i wr => ∃ y : Nat, y ≤ 20 ∧ i = .int .i64 (y : Int) ∧ Hid (TwoF w bg bh (imC w' hh p (.slice A1 xs.length c1)) (imC pw ph p (.slice A2 ys.length c2)) A1 A2 xs ys wr ∧ Rds .i64 wr wr.heap.size A9 (C X0 Y0) ∧ Bx wr b9 30 (imC pw ph p (.slice A9 (C X0 Y0).length c9)))) (fun i _ => (21 - intOf i).toNat)
      case atStart => exact ⟨0, by omega, rfl, HI7⟩
      case round =>
        clear HI7
        obtain ⟨y, hy20, rfl, hI⟩ := hrel
        rename World => wy
        obtain ⟨a0, a1, a2, a3⟩ := hI.out.1.xa.im
        obtain ⟨b0, b1, b2, b3⟩ := hI.out.1.xb.im
        have al := hI.out.1.xa.lt
        have bl := hI.out.1.xb.lt
        by_cases hy : (y : Int) + (ph : Int) ≤ (hh : Int)
        · go_wp2
          clear a0 a1 a2 a3 b0 b1 b2 b3 al bl
          go_loopw [12] (fun i wr => ∃ x : Nat, x ≤ 20 ∧ i = .int .i64 (x : Int) ∧ Hid (TwoF w bg bh (imC w' hh p (.slice A1 xs.length c1)) (imC pw ph p (.slice A2 ys.length c2)) A1 A2 xs ys wr ∧ Rds .i64 wr wr.heap.size A9 (C X0 Y0) ∧ Bx wr b9 30 (imC pw ph p (.slice A9 (C X0 Y0).length c9)))) (fun i _ => (21 - intOf i).toNat)
          case atStart => exact ⟨0, by omega, rfl, hI⟩
          case round =>
            clear hI
            obtain ⟨x, hx20, rfl, hI⟩ := hrel
            rename World => wx
            obtain ⟨a0, a1, a2, a3⟩ := hI.out.1.xa.im
            obtain ⟨b0, b1, b2, b3⟩ := hI.out.1.xb.im
            have al := hI.out.1.xa.lt
            have bl := hI.out.1.xb.lt
            by_cases hx : (x : Int) + (pw : Int) ≤ (w' : Int)
            · have hxn : x + pw ≤ w' := by omega
              have hyn : y + ph ≤ hh := by omega
              have HT := Lib.hid hI.out.1
              have HR := Lib.hid hI.out.2.1
              have HX := Lib.hid hI.out.2.2
              clear hI
              go_wp2_with fail
              refine (HC.out wx x y hxn hyn HT.out).mono ?_
              rintro e v6 ⟨D, d, rfl, hd, hr, hb⟩
              obtain ⟨v7, hv7⟩ : ∃ z : World, z = v6.alloc (.cells #[.int .i64 (pw : Int), .int .i64 (ph : Int), .int .i64 (p : Int), .slice D (C x y).length d] 30) := ⟨_, rfl⟩
              obtain ⟨b13, hb13⟩ : ∃ b : Nat, b = v6.heap.size := ⟨_, rfl⟩
              have HN7 : Hid (TwoF w bg bh (imC w' hh p (.slice A1 xs.length c1)) (imC pw ph p (.slice A2 ys.length c2)) A1 A2 xs ys v7 ∧ Rds .i64 v7 v7.heap.size A9 (C X0 Y0) ∧ Bx v7 b9 30 (imC pw ph p (.slice A9 (C X0 Y0).length c9))) := Lib.hid (by rw [hv7]; exact ⟨(HT.out.call hb).alloc _, rds_alloc (rds_call HR.out hb) _, (bx_call HX.out hb).alloc _⟩)
              have HR7 : Hid (Rds .i64 v7 v7.heap.size D (C x y)) := Lib.hid (by rw [hv7]; exact rds_alloc hr _)
              have HX7 : Hid (Bx v7 b13 30 (imC pw ph p (.slice D (C x y).length d))) := Lib.hid (by rw [hv7, hb13]; exact Bx.new v6 _ _)
              have HV7 := Lib.hid hv7
              have HB13 := Lib.hid hb13
              clear hr hb HT HR HX hv7 hb13 a0 a1 a2 a3 b0 b1 b2 b3 al bl
              obtain ⟨b0, b1, b2, b3⟩ := HN7.out.1.xb.im
              obtain ⟨e0, e1, e2, e3⟩ := HX7.out.im
              rw [HV7.out] at b0 b1 b2 b3 e0 e1 e2 e3
              rw [HB13.out] at e0 e1 e2 e3
              go_wp2_with fail
              rw [← HV7.out]
              clear b0 b1 b2 b3 e0 e1 e2 e3
              refine (HG.out v7 x y D d hxn hyn HN7.out.1 HR7.out hd).mono ?_
              rintro e v8 ⟨g, rfl, hg, hb⟩
              have HN8 : Hid (TwoF w bg bh (imC w' hh p (.slice A1 xs.length c1)) (imC pw ph p (.slice A2 ys.length c2)) A1 A2 xs ys v8 ∧ Rds .i64 v8 v8.heap.size A9 (C X0 Y0) ∧ Bx v8 b9 30 (imC pw ph p (.slice A9 (C X0 Y0).length c9))) := Lib.hid ⟨HN7.out.1.call hb, rds_call HN7.out.2.1 hb, bx_call HN7.out.2.2 hb⟩
              clear hb HN7 HR7 HX7 HV7
              go_wp2
              go_roundw
              case rel => exact ⟨x + 1, by omega, by go_num, HN8⟩
              case measure => simp [intOf]; omega
            · go_wp2
              go_roundw
              case rel => exact ⟨y + 1, by omega, by go_num, hI⟩
              case measure => simp [intOf]; omega
        · have HT := Lib.hid hI.out.1
          have HR := Lib.hid hI.out.2.1
          have HX := Lib.hid hI.out.2.2
          clear hI
          obtain ⟨e0, e1, e2, e3⟩ := HX.out.im
          have el := HX.out.lt
          go_wp2_with fail
          refine (HB0.out wy A9 c9 HT.out HR.out hc9).mono ?_
          rintro e v6 ⟨rfl, hb⟩
          have HB := Lib.hid (HT.out.call hb).be
          clear hb HT HR HX a0 a1 a2 a3 b0 b1 b2 b3 al bl e0 e1 e2 e3 el
          go_wp2
          go_ret
          exact ⟨by simp, HB.out⟩

/-! ### From the walk to the statement. -/
theorem own : ownKnob Try.prog.godebug = none := by kernel_rfl
theorem laidOut : laidOutB Try.prog = true := by kernel_rfl
set_option maxRecDepth 100000 in
theorem lifted (os : Os) (started : os.Started) (H : Type) (enc : TypeId × Value → H) :
    ReturnsInHanded {} Try.checked os 5 .any (Rows.fnFindImageSpec.pre6 enc Try.prog Try.f5 Rows.fnFindImageRow.domain false) (Rows.fnFindImageSpec.post enc Try.prog Try.f5 false true false false) := by
  refine returnsInHanded_of_change (C := Try.checked) own started (by kernel_rfl) Try.func5
    (ChangeSpec.witness6 (enc := enc) (C := Try.checked) false ⟨#[], #[.slice none 0 0], []⟩ 8 (by kernel_rfl) (by kernel_rfl) (by kernel_rfl) (by kernel_rfl)) ?_
  intro W base args ds gs before hval0 hW hcnd _
  have hval : ∀ (j : Nat) t v, Try.f5.params[j]? = some t → args[j]? = some v → Value.okWide Try.prog W .any base t v := hval0
  have hW' := hW
  obtain ⟨p, q, hA0, hV, rfl, hfz, hnd⟩ := hW
  have hA : DataW.TrodAll enc Try.prog W 0 (fun _ => true) true Try.f5.params.toList args.toList ds p := hA0
  rw [Try.params5] at hA hval
  obtain ⟨v0, vs0, d0, ds0, p0, q0, hargs, rfl, rfl, h0, r0⟩ := trodAll_cons hA
  obtain ⟨rfl, rfl, rfl⟩ := trodAll_nil r0
  obtain rfl : args = #[v0] := by cases args; simp_all
  obtain ⟨rfl, rfl⟩ := trodVars_none hV
  obtain ⟨a0, len0, cap0, rfl⟩ := okWide_slice Try.underlying36 (hval 0 36 v0 rfl rfl)
  have k0 := h0
  have lt0 : ∀ x ∈ p0, x.block < W.heap.size := by obtain ⟨m, hm⟩ := k0; exact DataW.trod_lt m _ _ _ hm
  obtain ⟨z0, hl0, hc0, w0⟩ : ∃ zs : List Int, len0 = zs.length ∧ zs.length ≤ cap0 ∧ Rdw .u8 W W.heap.size a0 zs := by
    obtain ⟨fuel, hf⟩ := h0
    rcases open_ints Try.underlying36 Try.underlying5 (by kernel_rfl) hf with ⟨hcs, _⟩ | ⟨x, l, c, zs, hcs, _, hl, hm, hz, _, hcell, hwz⟩
    · simp [Value.cells] at hcs
      obtain ⟨rfl, rfl, rfl⟩ := hcs
      exact ⟨[], rfl, Nat.le_refl _, Rdw.nil⟩
    · simp [Value.cells] at hcs
      obtain ⟨rfl, rfl, rfl⟩ := hcs
      exact ⟨zs.take len0, by simp at hz ⊢; omega, by simp at hz ⊢; omega, Rdw.of_row hl hm (by simpa using hz) hcell hwz⟩
  subst hl0
  clear hA0 hval0
  refine (walk W a0 cap0 z0 hc0 w0).mono fun e W' ⟨he, bel⟩ => ?_
  subst he
  exact ⟨_, rfl, _, _, _, [], _, [], hW', trodAll_mk1 (shut_bool Try.underlying4 _), (trodAll_cons_mk (Below.trod laidOut (by kernel_rfl) (of_decide_eq_true (by kernel_rfl)) k0 bel lt0) trodAll_mk0), rfl, bel.frame _, fun h => by cases h⟩

theorem over : Rows.fnFindImageRow.holds Try.pinned (OpenSpec.ofChange Rows.fnFindImageSpec) :=
  OpenClaim.holds_of_wide 5 Try.f5 rfl rfl rfl rfl rfl rfl rfl ⟨rfl, rfl, rfl, rfl, rfl⟩ rfl rfl rfl rfl rfl (by kernel_rfl) Try.func5 (by kernel_rfl)
    (of_decide_eq_true (by kernel_rfl)) (by unfold Func.isWrapper; first | (rw [if_pos (by decide +kernel)]; kernel_rfl) | (rw [if_neg (by decide +kernel)]; exact ⟨rfl, rfl⟩))
    (fun os started H enc _ => lifted os started H enc)

theorem proved : Rows.FnFindImageSaid := over
end Go.Proofs.Ytfjcbdpepbcjcaa.fnFindImage
