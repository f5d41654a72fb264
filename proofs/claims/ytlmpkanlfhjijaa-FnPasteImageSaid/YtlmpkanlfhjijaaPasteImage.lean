/- Whatever the code: a pasted image is what the model tells; it shows the part where the part has pixels, the image elsewhere, and pasting again changes nothing. -/
import Derived.Test.YtlmpkanlfhjijaaRows
import Derived.WalkKit
import Derived.ProofKit
import Derived.OpenShut
import Derived.ShutString
import Derived.ChangeOld
import Derived.Below
import Derived.Test.YtlmpkanlfhjijaaPasteL
import Derived.Test.YtlmpkanlfhjijaaDrawPst
import Derived.Test.YtlmpkanlfhjijaaLEqImg
import Derived.Test.YtlmpkanlfhjijaaPixI
import Derived.Deep.RegionHeld3
namespace Go.Proofs.Ytlmpkanlfhjijaa.fnPasteImage
open Go.ChangeShapes Go.WideShapes Go.ChangeAt Go.RowKit
open Go.ChangeMaps (open_string shut_string)
set_option linter.unusedVariables false

theorem rds_call {u u' : World} {A : Option Addr} {xs : List Int} (h : Rds .i64 u u.heap.size A xs) (hb : Below u.heap.size u u') : Rds .i64 u' u'.heap.size A xs := (h.below hb).more hb.size
theorem bx_call {u u' : World} {b : Nat} {T : TypeId} {cs : Array Value} (h : Bx u b T cs) (hb : Below u.heap.size u u') : Bx u' b T cs := (hb.block b h.lt).trans h
theorem rds_alloc {u : World} {A : Option Addr} {xs : List Int} (h : Rds .i64 u u.heap.size A xs) (o : Obj) : Rds .i64 (u.alloc o) (u.alloc o).heap.size A xs := (h.alloc (Nat.le_refl _) o).more (by simp)
/-- Two images that are read while calls go by, and their boxes. -/
structure TwoB (w : World) (g h : Nat) (ca cb : Array Value) (A1 A2 : Option Addr) (xs ys : List Int) (u : World) : Prop where
  ra : Rds .i64 u u.heap.size A1 xs
  rb : Rds .i64 u u.heap.size A2 ys
  xa : Bx u g 25 ca
  xb : Bx u h 25 cb
  be : Below w.heap.size w u
theorem TwoB.call {w u u' : World} {g h : Nat} {ca cb : Array Value} {A1 A2 : Option Addr} {xs ys : List Int} (t : TwoB w g h ca cb A1 A2 xs ys u) (hb : Below u.heap.size u u') : TwoB w g h ca cb A1 A2 xs ys u' :=
  ⟨rds_call t.ra hb, rds_call t.rb hb, bx_call t.xa hb, bx_call t.xb hb, t.be.trans (hb.mono t.be.size)⟩
theorem TwoB.drew {w u : World} {g h : Nat} {ca cb : Array Value} {A1 A2 : Option Addr} {xs ys : List Int} (t : TwoB w g h ca cb A1 A2 xs ys u) : TwoB w g h ca cb A1 A2 xs ys u.drew :=
  ⟨t.ra, t.rb, t.xa, t.xb, t.be.drew⟩
theorem TwoB.alloc {w u : World} {g h : Nat} {ca cb : Array Value} {A1 A2 : Option Addr} {xs ys : List Int} (t : TwoB w g h ca cb A1 A2 xs ys u) (o : Obj) : TwoB w g h ca cb A1 A2 xs ys (u.alloc o) :=
  ⟨rds_alloc t.ra o, rds_alloc t.rb o, t.xa.alloc o, t.xb.alloc o, t.be.alloc t.be.size o⟩
theorem set_c {b : Bool} {W H P : Int} {L : List Int} {u w' : World} {e : Ending} (h : SetR b W H P L u e w') : ∃ A c, e = .returned (.tuple #[.agg #[.int .i64 (cond b W 0), .int .i64 (cond b H 0), .int .i64 (cond b P 0), .slice A (cond b L []).length c], .bool b]) ∧ (cond b L []).length ≤ c ∧ Rds .i64 w' w'.heap.size A (cond b L []) ∧ Below u.heap.size u w' := by
  obtain ⟨v, rfl, hO, hb⟩ := h
  obtain ⟨A, c, rfl, hc⟩ := hO.slice
  exact ⟨A, c, rfl, hc, hO.rds.2, hb⟩
/-- What a pasted image shows, and that pasting again changes nothing. -/
theorem pst_law {W H P X Y PW PH PP : Int} {xs ps : List Int} (hk : pasteOk W H P xs X Y PW PH PP ps = true) :
    (pasteL W.toNat H.toNat P.toNat xs X Y PW.toNat PH.toNat ps).length ≤ 1024 ∧ (W ≤ 16 ∧ H ≤ 16) ∧
    (∀ x y : Nat, (x : Int) < W → (y : Int) < H → pxv W H P (pasteL W.toNat H.toNat P.toNat xs X Y PW.toNat PH.toNat ps) x y = (if (pxv PW PH PP ps ((x : Int) - X) ((y : Int) - Y)).length = 0 then pxv W H P xs x y else pxv PW PH PP ps ((x : Int) - X) ((y : Int) - Y)) ∧ (pxv W H P xs x y).length ≤ 4 ∧ (pxv PW PH PP ps ((x : Int) - X) ((y : Int) - Y)).length ≤ 4) ∧
    pasteOk W H P (pasteL W.toNat H.toNat P.toNat xs X Y PW.toNat PH.toNat ps) X Y PW PH PP ps = true ∧
    pasteL W.toNat H.toNat P.toNat (pasteL W.toNat H.toNat P.toNat xs X Y PW.toNat PH.toNat ps) X Y PW.toNat PH.toNat ps = pasteL W.toNat H.toNat P.toNat xs X Y PW.toNat PH.toNat ps := by
  unfold pasteOk at hk
  rw [Bool.and_eq_true, Bool.and_eq_true] at hk
  obtain ⟨hv, hv2, hr⟩ := hk
  have hr' := hr
  simp only [Bool.and_eq_true, decide_eq_true_eq] at hr'
  obtain ⟨hPP, hX, hY⟩ := hr'
  have hv0 := hv
  have hv1 := hv2
  obtain ⟨w, h, p, rfl, rfl, rfl, w0, w1, h0, h1, p0, p1, hl, hb⟩ := vim_nat hv
  obtain ⟨pw, ph, pp, rfl, rfl, rfl, a0, a1, b0, b1, c0, c1, hpl, hpb⟩ := vim_nat hv2
  obtain rfl : p = pp := by omega
  simp only [Int.toNat_natCast]
  have hon : ∀ x y : Nat, onIm pw ph ((x : Int) - X) ((y : Int) - Y) = decide (Y ≤ y ∧ X ≤ x ∧ (x : Int) - X < pw ∧ ((y : Int) - Y < ph ∨ ((y : Int) - Y = ph ∧ (x : Int) - X < (0 : Nat)))) := fun x y => by
    unfold onIm
    rw [Bool.eq_iff_iff]
    simp only [Bool.and_eq_true, decide_eq_true_eq]
    omega
  have hpa : ∀ (M : Nat → Nat → Nat → Int) (x y j : Nat), paF (px pw p ps) M X Y pw ph 0 x y j = if onIm pw ph ((x : Int) - X) ((y : Int) - Y) = true then px pw p ps ((x : Int) - X).toNat ((y : Int) - Y).toNat j else M x y j := fun M x y j => by
    rw [hon]
    unfold paF
    simp only [decide_eq_true_eq]
  have hF : ∀ x y j, x < w → y < h → j < p → 0 ≤ paF (px pw p ps) (px w p xs) X Y pw ph 0 x y j ∧ paF (px pw p ps) (px w p xs) X Y pw ph 0 x y j ≤ 255 := fun x y j hx hy hj => by
    rw [hpa]
    split
    · rename_i ho
      have ho' := ho
      unfold onIm at ho'
      simp only [Bool.and_eq_true, decide_eq_true_eq] at ho'
      have a := pxc_bytes hpl hpb ((x : Int) - X).toNat ((y : Int) - Y).toNat j (by omega) (by omega) hj
      rwa [img_pxc (H := ph) hj] at a
    · have a := pxc_bytes hl hb x y j hx hy hj
      rwa [img_pxc (H := h) hj] at a
  have hvu : vim w h p (pasteL w h p xs X Y pw ph ps) = true := vim_img w0 w1 h0 h1 p0 p1 hF
  refine ⟨img_bd _ w1 h1 p1, by omega, fun x y hx hy => ?_, ?_, ?_⟩
  · have ho : onIm w h x y = true := by simp only [onIm, Bool.and_eq_true, decide_eq_true_eq]; omega
    have e2 : pxv w h p xs x y = pxl w p xs x y := by unfold pxv; rw [hv0, ho]; simp
    have e1 : pxv w h p (pasteL w h p xs X Y pw ph ps) x y = (List.range p).map (paF (px pw p ps) (px w p xs) X Y pw ph 0 x y) := pxv_img hvu (by omega) (by omega)
    cases hh : onIm pw ph ((x : Int) - X) ((y : Int) - Y)
    · have e3 : pxv pw ph p ps ((x : Int) - X) ((y : Int) - Y) = [] := by unfold pxv; rw [hh, Bool.and_false]; rfl
      rw [e1, e2, e3]
      refine ⟨?_, by rw [pxl_len]; omega, by simp⟩
      rw [if_pos (show ([] : List Int).length = 0 from rfl)]
      unfold pxl
      refine List.map_congr_left fun j hj => ?_
      rw [hpa, hh]; rfl
    · have e3 : pxv pw ph p ps ((x : Int) - X) ((y : Int) - Y) = pxl pw p ps ((x : Int) - X).toNat ((y : Int) - Y).toNat := by unfold pxv; rw [hv1, hh]; rfl
      rw [e1, e2, e3]
      refine ⟨?_, by rw [pxl_len]; omega, by rw [pxl_len]; omega⟩
      rw [if_neg (by rw [pxl_len]; omega)]
      unfold pxl
      refine List.map_congr_left fun j hj => ?_
      rw [hpa, hh]; rfl
  · unfold pasteOk
    rw [hvu, hv1, hr]; rfl
  · refine (img_eq (img_len _ _ _ _) fun x y j hx hy hj => ?_).symm
    have e : px w p (pasteL w h p xs X Y pw ph ps) x y j = paF (px pw p ps) (px w p xs) X Y pw ph 0 x y j := img_px _ hx hy hj
    show px w p (pasteL w h p xs X Y pw ph ps) x y j = paF (px pw p ps) (px w p (pasteL w h p xs X Y pw ph ps)) X Y pw ph 0 x y j
    rw [hpa (px w p (pasteL w h p xs X Y pw ph ps)) x y j]
    split
    · rename_i ho
      rw [e, hpa, if_pos ho]
    · rfl
set_option maxHeartbeats 32000000 in
theorem walk (w : World) (a0 : Option Addr) (cap0 : Nat) (z0 : List Int) (hc0 : z0.length ≤ cap0) (w0 : Rdw .u8 w w.heap.size a0 z0) :
    Calls Try.prog 3 #[.slice a0 z0.length cap0] w fun e w' => e = .returned (.bool true) ∧ Below w.heap.size w w' := by
  have hm := w0.2.1
  unfold maxLen at hm
  by_cases hlen : 1048576 < z0.length
  · go_enter Try.func3, Try.ntmps3
    go_wp2
    go_ret
    exact ⟨rfl, Below.refl _ _⟩
  · have HD := Lib.hid (drawPst_any a0 cap0 z0 w hc0 w0)
    clear w0 hc0
    go_enter Try.func3, Try.ntmps3
    go_wp2_with fail
    refine HD.out.mono ?_
    rintro e w1 ⟨W, H, P, A1, c1, xs, px, py, W', H', P', A2, c2, ys, rfl, ⟨⟨hx1, hy1⟩, hpx, hpy⟩, hc1, hc2, hr1, hr2, hb1⟩
    obtain ⟨u, hu⟩ : ∃ u, u = (w1.alloc (.cells #[.int .i64 W, .int .i64 H, .int .i64 P, .slice A1 xs.length c1] 25)).alloc (.cells #[.int .i64 W', .int .i64 H', .int .i64 P', .slice A2 ys.length c2] 25) := ⟨_, rfl⟩
    obtain ⟨bg, hbg⟩ : ∃ b, b = w1.heap.size := ⟨_, rfl⟩
    obtain ⟨bh, hbh⟩ : ∃ b, b = w1.heap.size + 1 := ⟨_, rfl⟩
    have HT1 : Hid (TwoB w bg bh (imC W H P (.slice A1 xs.length c1)) (imC W' H' P' (.slice A2 ys.length c2)) A1 A2 xs ys u) := Lib.hid (by
      rw [hu]
      have xb := Bx.new (w1.alloc (.cells #[.int .i64 W, .int .i64 H, .int .i64 P, .slice A1 xs.length c1] 25)) 25 (imC W' H' P' (.slice A2 ys.length c2))
      exact ⟨rds_alloc (rds_alloc hr1 _) _, rds_alloc (rds_alloc hr2 _) _, by rw [hbg]; exact (Bx.new w1 _ _).alloc _, by rw [hbh]; simpa [imC] using xb, (hb1.alloc hb1.size _).alloc (by have := hb1.size; simp; omega) _⟩)
    obtain ⟨ok, hok⟩ : ∃ ok, ok = pasteOk W H P xs px py W' H' P' ys := ⟨_, rfl⟩
    obtain ⟨M, hM⟩ : ∃ M, M = pasteL W.toNat H.toNat P.toNat xs px py W'.toNat H'.toNat ys := ⟨_, rfl⟩
    obtain ⟨X, hX⟩ : ∃ X, X = cond ok W 0 := ⟨_, rfl⟩
    obtain ⟨Y, hY⟩ : ∃ X, X = cond ok H 0 := ⟨_, rfl⟩
    obtain ⟨Z, hZ⟩ : ∃ X, X = cond ok P 0 := ⟨_, rfl⟩
    obtain ⟨L, hL⟩ : ∃ X, X = cond ok M [] := ⟨_, rfl⟩
    have HI : Hid (∀ u, TwoB w bg bh (imC W H P (.slice A1 xs.length c1)) (imC W' H' P' (.slice A2 ys.length c2)) A1 A2 xs ys u → Calls Try.prog 9 #[.agg #[.int .i64 W, .int .i64 H, .int .i64 P, .slice A1 xs.length c1], .int .i64 px, .int .i64 py, .agg #[.int .i64 W', .int .i64 H', .int .i64 P', .slice A2 ys.length c2]] u fun e w' => ∃ A c, e = .returned (.tuple #[.agg #[.int .i64 X, .int .i64 Y, .int .i64 Z, .slice A L.length c], .bool ok]) ∧ L.length ≤ c ∧ Rds .i64 w' w'.heap.size A L ∧ Below u.heap.size u w') := Lib.hid (fun u t => by
      rw [hX, hY, hZ, hL, hok, hM]; exact (i_PasteImage W H P px py W' H' P' A1 A2 c1 c2 xs ys u t.ra (by omega) hc1 t.rb (by omega) hc2).mono (fun e w' h => set_c h))
    have HS : Hid (∀ u, TwoB w bg bh (imC W H P (.slice A1 xs.length c1)) (imC W' H' P' (.slice A2 ys.length c2)) A1 A2 xs ys u → Calls Try.prog 10 #[.agg #[.int .i64 W, .int .i64 H, .int .i64 P, .slice A1 xs.length c1], .int .i64 px, .int .i64 py, .agg #[.int .i64 W', .int .i64 H', .int .i64 P', .slice A2 ys.length c2]] u fun e w' => ∃ A c, e = .returned (.tuple #[.agg #[.int .i64 X, .int .i64 Y, .int .i64 Z, .slice A L.length c], .bool ok]) ∧ L.length ≤ c ∧ Rds .i64 w' w'.heap.size A L ∧ Below u.heap.size u w') := Lib.hid (fun u t => by
      rw [hX, hY, hZ, hL, hok, hM]; exact (s_PasteImage W H P px py W' H' P' A1 A2 c1 c2 xs ys u t.ra (by omega) hc1 t.rb (by omega) hc2).mono (fun e w' h => set_c h))
    have HQ : Hid (ok = true → (X = W ∧ Y = H ∧ Z = P) ∧ L.length ≤ 1024 ∧ (W ≤ 16 ∧ H ≤ 16) ∧ (∀ x y : Nat, (x : Int) < W → (y : Int) < H → pxv W H P L x y = (if (pxv W' H' P' ys ((x : Int) - px) ((y : Int) - py)).length = 0 then pxv W H P xs x y else pxv W' H' P' ys ((x : Int) - px) ((y : Int) - py)) ∧ (pxv W H P xs x y).length ≤ 4 ∧ (pxv W' H' P' ys ((x : Int) - px) ((y : Int) - py)).length ≤ 4) ∧
      pasteOk W H P L px py W' H' P' ys = true ∧ pasteL W.toNat H.toNat P.toNat L px py W'.toNat H'.toNat ys = L) := Lib.hid (fun h => by
        have k := pst_law (hok.symm.trans h)
        rw [hX, hY, hZ, hL, h, hM]
        exact ⟨⟨rfl, rfl, rfl⟩, k⟩)
    have hLl : L.length ≤ 1024 := by
      cases hk : ok
      · rw [hL, hk]; simp
      · exact (HQ.out hk).2.1
    have HU := Lib.hid hu
    have Hbg := Lib.hid hbg
    have Hbh := Lib.hid hbh
    clear hr1 hr2 hb1 hu hbg hbh hok hM hX hY hZ hL
    go_wp2_with fail
    rw [← HU.out, ← Hbh.out, ← Hbg.out]
    clear HU Hbg Hbh
    refine (HI.out u HT1.out).mono ?_
    rintro e w2 ⟨B1, d1, rfl, hd1, hr, hb⟩
    obtain ⟨u2, hu⟩ : ∃ x, x = w2.alloc (.cells #[.int .i64 X, .int .i64 Y, .int .i64 Z, .slice B1 L.length d1] 25) := ⟨_, rfl⟩
    obtain ⟨b2, hbk⟩ : ∃ b, b = w2.heap.size := ⟨_, rfl⟩
    have HT2 : Hid (TwoB w bg bh (imC W H P (.slice A1 xs.length c1)) (imC W' H' P' (.slice A2 ys.length c2)) A1 A2 xs ys u2) := Lib.hid (by rw [hu]; exact (HT1.out.call hb).alloc _)
    have HR2 : Hid (Rds .i64 u2 u2.heap.size B1 L) := Lib.hid (by rw [hu]; exact rds_alloc hr _)
    have HX2 : Hid (Bx u2 b2 25 (imC X Y Z (.slice B1 L.length d1))) := Lib.hid (by rw [hu, hbk]; exact Bx.new _ _ _)
    have HU2 := Lib.hid hu
    have HBk2 := Lib.hid hbk
    clear hu hbk hr hb HT1 HI
    obtain ⟨a0, a1, a2, a3⟩ := HT2.out.xa.im
    obtain ⟨e0, e1, e2, e3⟩ := HT2.out.xb.im
    rw [HU2.out] at a0 a1 a2 a3 e0 e1 e2 e3
    go_wp2_with fail
    rw [← HU2.out, ← HBk2.out]
    clear HU2 HBk2 a0 a1 a2 a3 e0 e1 e2 e3
    refine (HS.out u2 HT2.out).mono ?_
    rintro e w3 ⟨B2, d2, rfl, hd2, hr, hb⟩
    obtain ⟨u3, hu⟩ : ∃ x, x = w3.alloc (.cells #[.int .i64 X, .int .i64 Y, .int .i64 Z, .slice B2 L.length d2] 25) := ⟨_, rfl⟩
    obtain ⟨b3, hbk⟩ : ∃ b, b = w3.heap.size := ⟨_, rfl⟩
    have HT3 : Hid (TwoB w bg bh (imC W H P (.slice A1 xs.length c1)) (imC W' H' P' (.slice A2 ys.length c2)) A1 A2 xs ys u3) := Lib.hid (by rw [hu]; exact (HT2.out.call hb).alloc _)
    have HR3 : Hid (Rds .i64 u3 u3.heap.size B1 L) := Lib.hid (by rw [hu]; exact rds_alloc (rds_call HR2.out hb) _)
    have HS3 : Hid (Rds .i64 u3 u3.heap.size B2 L) := Lib.hid (by rw [hu]; exact rds_alloc hr _)
    have HX3 : Hid (Bx u3 b2 25 (imC X Y Z (.slice B1 L.length d1))) := Lib.hid (by rw [hu]; exact (bx_call HX2.out hb).alloc _)
    have HY3 : Hid (Bx u3 b3 25 (imC X Y Z (.slice B2 L.length d2))) := Lib.hid (by rw [hu, hbk]; exact Bx.new _ _ _)
    have HU3 := Lib.hid hu
    have HBk3 := Lib.hid hbk
    clear hu hbk hr hb HT2 HS HR2 HX2
    obtain ⟨a0, a1, a2, a3⟩ := HX3.out.im
    obtain ⟨e0, e1, e2, e3⟩ := HY3.out.im
    rw [HU3.out] at a0 a1 a2 a3 e0 e1 e2 e3
    rw [HBk3.out] at e0 e1 e2 e3
    go_wp2_with fail
    rw [← HU3.out, ← HBk3.out]
    clear HU3 HBk3 a0 a1 a2 a3 e0 e1 e2 e3
    refine (lEqImg_same X Y Z B1 B2 d1 d2 _ _ L u3 rfl rfl HR3.out HS3.out (by omega)).mono ?_
    rintro e w4 ⟨rfl, hb⟩
    have HT4 := Lib.hid (HT3.out.call hb)
    have HR4 := Lib.hid (rds_call HR3.out hb)
    have HS4 := Lib.hid (rds_call HS3.out hb)
    have HX4 := Lib.hid (bx_call HX3.out hb)
    have HY4 := Lib.hid (bx_call HY3.out hb)
    clear hb HT3 HR3 HS3 HX3 HY3
    cases ok
    · obtain ⟨a0, a1, a2, a3⟩ := HX4.out.im
      obtain ⟨e0, e1, e2, e3⟩ := HY4.out.im
      go_wp2_with fail
      refine (lEqImg_same X Y Z B1 B2 d1 d2 _ _ L w4 rfl rfl HR4.out HS4.out (by omega)).mono ?_
      rintro e w5 ⟨rfl, hb⟩
      have HB := Lib.hid (HT4.out.call hb).be
      clear hb HT4 HR4 HS4 HX4 HY4 a0 a1 a2 a3 e0 e1 e2 e3
      go_wp2
      go_ret
      exact ⟨rfl, HB.out⟩
    · obtain ⟨⟨hX, hY, hZ⟩, _, ⟨hW16, hH16⟩, k1, k2, k3⟩ := HQ.out rfl
      obtain ⟨PP, hPP⟩ : ∃ F : Nat → Nat → List Int, ∀ x y, F x y = pxv W' H' P' ys ((x : Int) - px) ((y : Int) - py) := ⟨_, fun _ _ => rfl⟩
      obtain ⟨PM, hPM⟩ : ∃ F : Nat → Nat → List Int, ∀ x y, F x y = pxv W H P xs (x : Int) (y : Int) := ⟨_, fun _ _ => rfl⟩
      obtain ⟨PU, hPU⟩ : ∃ F : Nat → Nat → List Int, ∀ x y, F x y = pxv W H P L (x : Int) (y : Int) := ⟨_, fun _ _ => rfl⟩
      have HE : Hid (∀ x y : Nat, (x : Int) < W → (y : Int) < H → PU x y = (if (PP x y).length = 0 then PM x y else PP x y) ∧ (PM x y).length ≤ 4 ∧ (PP x y).length ≤ 4) := Lib.hid (fun x y hx hy => by rw [hPU, hPP, hPM]; exact k1 x y hx hy)
      have HPp : Hid (∀ (x y : Nat) u, Rds .i64 u u.heap.size A2 ys → Calls Try.prog 12 #[.agg #[.int .i64 W', .int .i64 H', .int .i64 P', .slice A2 ys.length c2], .int .i64 ((x : Int) - px), .int .i64 ((y : Int) - py)] u (Shows (PP x y) u)) := Lib.hid (fun x y u h => by rw [hPP]; exact i_PixelAt W' H' P' A2 c2 ys _ _ u h (by omega) hc2)
      have HPm : Hid (∀ (x y : Nat) u, Rds .i64 u u.heap.size A1 xs → Calls Try.prog 12 #[.agg #[.int .i64 W, .int .i64 H, .int .i64 P, .slice A1 xs.length c1], .int .i64 (x : Int), .int .i64 (y : Int)] u (Shows (PM x y) u)) := Lib.hid (fun x y u h => by rw [hPM]; exact i_PixelAt W H P A1 c1 xs x y u h (by omega) hc1)
      have HPu : Hid (∀ (x y : Nat) u, Rds .i64 u u.heap.size B1 L → Calls Try.prog 12 #[.agg #[.int .i64 X, .int .i64 Y, .int .i64 Z, .slice B1 L.length d1], .int .i64 (x : Int), .int .i64 (y : Int)] u (Shows (PU x y) u)) := Lib.hid (fun x y u h => by rw [hPU, hX, hY, hZ]; exact i_PixelAt W H P B1 d1 L x y u h (by omega) hd1)
      have HA : Hid (∀ u, Rds .i64 u u.heap.size B1 L → Rds .i64 u u.heap.size A2 ys → Calls Try.prog 9 #[.agg #[.int .i64 X, .int .i64 Y, .int .i64 Z, .slice B1 L.length d1], .int .i64 px, .int .i64 py, .agg #[.int .i64 W', .int .i64 H', .int .i64 P', .slice A2 ys.length c2]] u fun e w' => ∃ A c, e = .returned (.tuple #[.agg #[.int .i64 X, .int .i64 Y, .int .i64 Z, .slice A L.length c], .bool true]) ∧ L.length ≤ c ∧ Rds .i64 w' w'.heap.size A L ∧ Below u.heap.size u w') := Lib.hid (fun u h h2 => by
        rw [hX, hY, hZ]
        refine (i_PasteImage W H P px py W' H' P' B1 A2 d1 c2 L ys u h (by omega) hd1 h2 (by omega) hc2).mono ?_
        intro e w' h
        have h' := set_c h
        rw [k2, k3] at h'
        exact h')
      have HI0 : Hid (TwoB w bg bh (imC W H P (.slice A1 xs.length c1)) (imC W' H' P' (.slice A2 ys.length c2)) A1 A2 xs ys w4 ∧ Rds .i64 w4 w4.heap.size B1 L ∧ Bx w4 b2 25 (imC X Y Z (.slice B1 L.length d1))) := Lib.hid ⟨HT4.out, HR4.out, HX4.out⟩
      clear k1 k2 k3 hPP hPM hPU hX hY hZ HQ HT4 HR4 HS4 HX4 HY4
      go_wp2
      go_loopw [11] (fun i wr => ∃ y : Nat, i = .int .i64 (y : Int) ∧ Hid (TwoB w bg bh (imC W H P (.slice A1 xs.length c1)) (imC W' H' P' (.slice A2 ys.length c2)) A1 A2 xs ys wr ∧ Rds .i64 wr wr.heap.size B1 L ∧ Bx wr b2 25 (imC X Y Z (.slice B1 L.length d1)))) (fun i _ => (H - intOf i).toNat)
      case atStart => exact ⟨0, rfl, HI0⟩
      case round =>
        clear HI0
        obtain ⟨y, rfl, hI⟩ := hrel
        rename World => wy
        obtain ⟨a0, a1, a2, a3⟩ := hI.out.1.xa.im
        have al := hI.out.1.xa.lt
        by_cases hy : (y : Int) < H
        · go_wp2
          clear a0 a1 a2 a3 al
          go_loopw [12] (fun i wr => ∃ x : Nat, i = .int .i64 (x : Int) ∧ Hid (TwoB w bg bh (imC W H P (.slice A1 xs.length c1)) (imC W' H' P' (.slice A2 ys.length c2)) A1 A2 xs ys wr ∧ Rds .i64 wr wr.heap.size B1 L ∧ Bx wr b2 25 (imC X Y Z (.slice B1 L.length d1)))) (fun i _ => (W - intOf i).toNat)
          case atStart => exact ⟨0, rfl, hI⟩
          case round =>
            clear hI
            obtain ⟨x, rfl, hI⟩ := hrel
            rename World => wx
            obtain ⟨a0, a1, a2, a3⟩ := hI.out.1.xa.im
            have al := hI.out.1.xa.lt
            by_cases hx : (x : Int) < W
            · obtain ⟨hpu, hpl, hql⟩ := HE.out x y hx hy
              have HT := Lib.hid hI.out.1
              have HR := Lib.hid hI.out.2.1
              have HX := Lib.hid hI.out.2.2
              have HPp' := Lib.hid (HPp.out x y)
              have HPm' := Lib.hid (HPm.out x y)
              have HPu' := Lib.hid (HPu.out x y)
              obtain ⟨b0, b1, b2', b3'⟩ := HT.out.xb.im
              have bl := HT.out.xb.lt
              clear hI HE HPp HPm HPu
              generalize PU x y = pu at *
              generalize PM x y = pm at *
              generalize PP x y = pp at *
              go_wp2_with fail
              refine (HPp'.out _ HT.out.rb).mono ?_
              rintro e w5 ⟨D, d, rfl, hd, hr, hb⟩
              have HT5 := Lib.hid (HT.out.call hb)
              have HR5 := Lib.hid (rds_call HR.out hb)
              have HX5 := Lib.hid (bx_call HX.out hb)
              have HD5 := Lib.hid hr
              clear hr hb HT HR HX a0 a1 a2 a3 al b0 b1 b2' b3' bl
              by_cases hpp : pp.length = 0
              · rw [if_pos hpp] at hpu
                subst hpu
                have hpz : ((pp.length : Int) == 0) = true := by rw [hpp]; rfl
                clear HD5
                obtain ⟨e0, e1, e2, e3⟩ := HT5.out.xa.im
                have el := HT5.out.xa.lt
                go_wp2_with fail
                refine (HPm'.out _ HT5.out.ra).mono ?_
                rintro e w6 ⟨D, d, rfl, hd, hr, hb⟩
                have HT6 := Lib.hid (HT5.out.call hb)
                have HR6 := Lib.hid (rds_call HR5.out hb)
                have HX6 := Lib.hid (bx_call HX5.out hb)
                have HD6 := Lib.hid hr
                clear hr hb HT5 HR5 HX5 e0 e1 e2 e3 el
                obtain ⟨e0, e1, e2, e3⟩ := HX6.out.im
                have el := HX6.out.lt
                go_wp2_with fail
                refine (HPu'.out _ HR6.out).mono ?_
                rintro e w7 ⟨E, f, rfl, hf, hr, hb⟩
                have HT7 := Lib.hid (HT6.out.call hb)
                have HR7 := Lib.hid (rds_call HR6.out hb)
                have HX7 := Lib.hid (bx_call HX6.out hb)
                have HD7 := Lib.hid (rds_call HD6.out hb)
                have HE7 := Lib.hid hr
                clear hr hb HT6 HR6 HX6 HD6 e0 e1 e2 e3 el
                go_wp2_with fail
                refine (lEqualInts_any E D f d pu pu w7.heap.size w7.heap.size w7 HE7.out HD7.out (by omega) (by omega)).mono ?_
                rintro e w8 ⟨rfl, m, rfl⟩
                have HN : Hid (TwoB w bg bh (imC W H P (.slice A1 xs.length c1)) (imC W' H' P' (.slice A2 ys.length c2)) A1 A2 xs ys (w7.drewN m) ∧ Rds .i64 (w7.drewN m) (w7.drewN m).heap.size B1 L ∧ Bx (w7.drewN m) b2 25 (imC X Y Z (.slice B1 L.length d1))) := Lib.hid (by
                  have hb : Below w7.heap.size w7 (w7.drewN m) := ⟨rfl, rfl, rfl, Nat.le_refl _, fun _ _ => rfl⟩
                  exact ⟨HT7.out.call hb, rds_call HR7.out hb, bx_call HX7.out hb⟩)
                clear HT7 HR7 HX7 HD7 HE7
                rw [decide_eq_true (rfl : pu = pu)]
                go_wp2
                go_roundw
                case rel => exact ⟨x + 1, by go_num, HN⟩
                case measure => simp [intOf]; omega
              · rw [if_neg hpp] at hpu
                subst hpu
                have hpz : ((pu.length : Int) == 0) = false := beq_eq_false_iff_ne.2 (by omega)
                have HT6 := HT5
                have HR6 := HR5
                have HX6 := HX5
                have HD6 := HD5
                generalize w5 = w6 at *
                clear HT5 HR5 HX5 HD5
                obtain ⟨e0, e1, e2, e3⟩ := HX6.out.im
                have el := HX6.out.lt
                go_wp2_with fail
                refine (HPu'.out _ HR6.out).mono ?_
                rintro e w7 ⟨E, f, rfl, hf, hr, hb⟩
                have HT7 := Lib.hid (HT6.out.call hb)
                have HR7 := Lib.hid (rds_call HR6.out hb)
                have HX7 := Lib.hid (bx_call HX6.out hb)
                have HD7 := Lib.hid (rds_call HD6.out hb)
                have HE7 := Lib.hid hr
                clear hr hb HT6 HR6 HX6 HD6 e0 e1 e2 e3 el
                go_wp2_with fail
                refine (lEqualInts_any E D f d pu pu w7.heap.size w7.heap.size w7 HE7.out HD7.out (by omega) (by omega)).mono ?_
                rintro e w8 ⟨rfl, m, rfl⟩
                have HN : Hid (TwoB w bg bh (imC W H P (.slice A1 xs.length c1)) (imC W' H' P' (.slice A2 ys.length c2)) A1 A2 xs ys (w7.drewN m) ∧ Rds .i64 (w7.drewN m) (w7.drewN m).heap.size B1 L ∧ Bx (w7.drewN m) b2 25 (imC X Y Z (.slice B1 L.length d1))) := Lib.hid (by
                  have hb : Below w7.heap.size w7 (w7.drewN m) := ⟨rfl, rfl, rfl, Nat.le_refl _, fun _ _ => rfl⟩
                  exact ⟨HT7.out.call hb, rds_call HR7.out hb, bx_call HX7.out hb⟩)
                clear HT7 HR7 HX7 HD7 HE7
                rw [decide_eq_true (rfl : pu = pu)]
                go_wp2
                go_roundw
                case rel => exact ⟨x + 1, by go_num, HN⟩
                case measure => simp [intOf]; omega
            · go_wp2
              go_roundw
              case rel => exact ⟨y + 1, by go_num, hI⟩
              case measure => simp [intOf]; omega
        · have HT := Lib.hid hI.out.1
          have HR := Lib.hid hI.out.2.1
          have HX := Lib.hid hI.out.2.2
          clear hI a0 a1 a2 a3 al
          obtain ⟨a0, a1, a2, a3⟩ := HT.out.xa.im
          have al := HT.out.xa.lt
          obtain ⟨b0, b1, b2', b3'⟩ := HT.out.xb.im
          have bl := HT.out.xb.lt
          obtain ⟨e0, e1, e2, e3⟩ := HX.out.im
          have el := HX.out.lt
          go_wp2_with fail
          refine (HA.out _ HR.out HT.out.rb).mono ?_
          rintro e w5 ⟨B3, d3, rfl, hd3, hr, hb⟩
          obtain ⟨u5, hu⟩ : ∃ x, x = w5.alloc (.cells #[.int .i64 X, .int .i64 Y, .int .i64 Z, .slice B3 L.length d3] 25) := ⟨_, rfl⟩
          obtain ⟨b5, hbk⟩ : ∃ b, b = w5.heap.size := ⟨_, rfl⟩
          have HT5 : Hid (TwoB w bg bh (imC W H P (.slice A1 xs.length c1)) (imC W' H' P' (.slice A2 ys.length c2)) A1 A2 xs ys u5) := Lib.hid (by rw [hu]; exact (HT.out.call hb).alloc _)
          have HR5 : Hid (Rds .i64 u5 u5.heap.size B1 L) := Lib.hid (by rw [hu]; exact rds_alloc (rds_call HR.out hb) _)
          have HX5 : Hid (Bx u5 b2 25 (imC X Y Z (.slice B1 L.length d1))) := Lib.hid (by rw [hu]; exact (bx_call HX.out hb).alloc _)
          have HV5 : Hid (Rds .i64 u5 u5.heap.size B3 L) := Lib.hid (by rw [hu]; exact rds_alloc hr _)
          have HY5 : Hid (Bx u5 b5 25 (imC X Y Z (.slice B3 L.length d3))) := Lib.hid (by rw [hu, hbk]; exact Bx.new _ _ _)
          have HU5 := Lib.hid hu
          have HBk5 := Lib.hid hbk
          clear hu hbk hr hb HT HR HX a0 a1 a2 a3 al b0 b1 b2' b3' bl e0 e1 e2 e3 el
          obtain ⟨a0, a1, a2, a3⟩ := HX5.out.im
          obtain ⟨e0, e1, e2, e3⟩ := HY5.out.im
          rw [HU5.out] at a0 a1 a2 a3 e0 e1 e2 e3
          rw [HBk5.out] at e0 e1 e2 e3
          go_wp2_with fail
          rw [← HU5.out]
          clear HU5 HBk5 a0 a1 a2 a3 e0 e1 e2 e3
          refine (lEqImg_same X Y Z B3 B1 d3 d1 _ _ L u5 rfl rfl HV5.out HR5.out (by omega)).mono ?_
          rintro e w6 ⟨rfl, hb⟩
          have HB := Lib.hid (HT5.out.call hb).be
          clear hb HT5 HR5 HX5 HV5 HY5
          go_wp2
          go_ret
          exact ⟨rfl, HB.out⟩

/-! ### From the walk to the statement. -/
theorem own : ownKnob Try.prog.godebug = none := by kernel_rfl
theorem laidOut : laidOutB Try.prog = true := by kernel_rfl
set_option maxRecDepth 100000 in
theorem lifted (os : Os) (started : os.Started) (H : Type) (enc : TypeId × Value → H) :
    ReturnsInHanded {} Try.checked os 3 .any (Rows.fnPasteImageSpec.pre6 enc Try.prog Try.f3 Rows.fnPasteImageRow.domain false) (Rows.fnPasteImageSpec.post enc Try.prog Try.f3 false true false false) := by
  refine returnsInHanded_of_change (C := Try.checked) own started (by kernel_rfl) Try.func3
    (ChangeSpec.witness6 (enc := enc) (C := Try.checked) false ⟨#[], #[.slice none 0 0], []⟩ 8 (by kernel_rfl) (by kernel_rfl) (by kernel_rfl) (by kernel_rfl)) ?_
  intro W base args ds gs before hval0 hW hcnd _
  have hval : ∀ (j : Nat) t v, Try.f3.params[j]? = some t → args[j]? = some v → Value.okWide Try.prog W .any base t v := hval0
  have hW' := hW
  obtain ⟨p, q, hA0, hV, rfl, hfz, hnd⟩ := hW
  have hA : DataW.TrodAll enc Try.prog W 0 (fun _ => true) true Try.f3.params.toList args.toList ds p := hA0
  rw [Try.params3] at hA hval
  obtain ⟨v0, vs0, d0, ds0, p0, q0, hargs, rfl, rfl, h0, r0⟩ := trodAll_cons hA
  obtain ⟨rfl, rfl, rfl⟩ := trodAll_nil r0
  obtain rfl : args = #[v0] := by cases args; simp_all
  obtain ⟨rfl, rfl⟩ := trodVars_none hV
  obtain ⟨a0, len0, cap0, rfl⟩ := okWide_slice Try.underlying22 (hval 0 22 v0 rfl rfl)
  have k0 := h0
  have lt0 : ∀ x ∈ p0, x.block < W.heap.size := by obtain ⟨m, hm⟩ := k0; exact DataW.trod_lt m _ _ _ hm
  obtain ⟨z0, hl0, hc0, w0⟩ : ∃ zs : List Int, len0 = zs.length ∧ zs.length ≤ cap0 ∧ Rdw .u8 W W.heap.size a0 zs := by
    obtain ⟨fuel, hf⟩ := h0
    rcases open_ints Try.underlying22 Try.underlying5 (by kernel_rfl) hf with ⟨hcs, _⟩ | ⟨x, l, c, zs, hcs, _, hl, hm, hz, _, hcell, hwz⟩
    · simp [Value.cells] at hcs
      obtain ⟨rfl, rfl, rfl⟩ := hcs
      exact ⟨[], rfl, Nat.le_refl _, Rdw.nil⟩
    · simp [Value.cells] at hcs
      obtain ⟨rfl, rfl, rfl⟩ := hcs
      exact ⟨zs.take len0, by simp at hz ⊢; omega, by simp at hz ⊢; omega, Rdw.of_row hl hm (by simpa using hz) hcell hwz⟩
  subst hl0
  clear hA0 hval0
  refine (walk W a0 cap0 z0 hc0 w0).mono fun e W' ⟨he, bel⟩ => ?_
  subst he
  exact ⟨_, rfl, _, _, _, [], _, [], hW', trodAll_mk1 (shut_bool Try.underlying4 _), (trodAll_cons_mk (Below.trod laidOut (by kernel_rfl) (of_decide_eq_true (by kernel_rfl)) k0 bel lt0) trodAll_mk0), rfl, bel.frame _, fun h => by cases h⟩

theorem over : Rows.fnPasteImageRow.holds Try.pinned (OpenSpec.ofChange Rows.fnPasteImageSpec) :=
  OpenClaim.holds_of_wide 3 Try.f3 rfl rfl rfl rfl rfl rfl rfl ⟨rfl, rfl, rfl, rfl, rfl⟩ rfl rfl rfl rfl rfl (by kernel_rfl) Try.func3 (by kernel_rfl)
    (of_decide_eq_true (by kernel_rfl)) (by unfold Func.isWrapper; first | (rw [if_pos (by decide +kernel)]; kernel_rfl) | (rw [if_neg (by decide +kernel)]; exact ⟨rfl, rfl⟩))
    (fun os started H enc _ => lifted os started H enc)

theorem proved : Rows.FnPasteImageSaid := over
end Go.Proofs.Ytlmpkanlfhjijaa.fnPasteImage
