/- Contract of crop and CropImage in the model. -/
import Derived.Test.YtfjcbdpepbcjcaaBoxI
namespace Go.Proofs.Ytfjcbdpepbcjcaa
open Go.RowKit Go.Shelf
set_option linter.unusedSimpArgs false
set_option linter.unusedVariables false

theorem pixelAt_at (W H P : Nat) (hW : W ≤ 16) (hH : H ≤ 16) (hP : 1 ≤ P) (hP4 : P ≤ 4) (A : Option Addr) (c : Nat) (xs : List Int) (hl : xs.length = W * H * P) (hlc : xs.length ≤ c) (x y : Nat) (hx : x < W) (hy : y < H) (X Y : Int) (hX : X = (x : Int)) (hY : Y = (y : Int)) (w : World) (hr : Rds .i64 w w.heap.size A xs) :
    Calls Try.prog 56 #[.agg #[.int .i64 (W : Int), .int .i64 (H : Int), .int .i64 (P : Int), .slice A xs.length c], .int .i64 X, .int .i64 Y] w (Made (pxl W P xs x y) w) := by
  subst hX hY
  exact pixelAt_any W H P hW hH hP hP4 A c xs hl hlc x y hx hy w hr
set_option maxHeartbeats 8000000 in
theorem crop_any (W H P X0 Y0 bw bh : Nat) (hW1 : 1 ≤ W) (hW : W ≤ 16) (hH1 : 1 ≤ H) (hH : H ≤ 16) (hP1 : 1 ≤ P) (hP : P ≤ 4) (hbw : 1 ≤ bw) (hbh : 1 ≤ bh) (hXw : X0 + bw ≤ W) (hYh : Y0 + bh ≤ H) (A : Option Addr) (c : Nat) (xs : List Int) (hl : xs.length = W * H * P) (hlc : xs.length ≤ c) (w : World) (hx : Rds .i64 w w.heap.size A xs) :
    Calls Try.prog 59 #[.agg #[.int .i64 (W : Int), .int .i64 (H : Int), .int .i64 (P : Int), .slice A xs.length c], .int .i64 (X0 : Int), .int .i64 (Y0 : Int), .int .i64 (bw : Int), .int .i64 (bh : Int)] w (MadeI bw bh P (cropL W P xs X0 Y0 bw bh) w) := by
  have hbw16 : bw ≤ 16 := by omega
  have hbh16 : bh ≤ 16 := by omega
  have Hx := Lib.hid hx
  have HLn := Lib.hid hl
  obtain ⟨u1, hu⟩ : ∃ u1, u1 = (w.alloc (.cells #[.int .i64 (W : Int), .int .i64 (H : Int), .int .i64 (P : Int), .slice A xs.length c] 30)).alloc (.cells #[.int .i64 0, .int .i64 0, .int .i64 0, .slice none 0 0] 30) := ⟨_, rfl⟩
  have hsz1 : w.heap.size + 2 ≤ u1.heap.size := by rw [hu]; simp
  have hB1 : Below w.heap.size w u1 := by rw [hu]; exact ((Below.refl w.heap.size w).alloc (Nat.le_refl _) _).alloc (by simp) _
  have hM : Bx u1 w.heap.size 30 (imC W H P (.slice A xs.length c)) := by rw [hu]; exact (Bx.new w 30 _).alloc _
  have hR : Bx u1 (w.heap.size + 1) 30 (imC 0 0 0 (.slice none 0 0)) := by rw [hu]; have := Bx.new (w.alloc (.cells #[.int .i64 (W : Int), .int .i64 (H : Int), .int .i64 (P : Int), .slice A xs.length c] 30)) 30 (imC 0 0 0 (.slice none 0 0)); simpa [imC] using this
  have HU := Lib.hid hu
  unfold cropL
  clear hx hu hl
  obtain ⟨m0, m1, m2, m3⟩ := hM.im
  go_enter Try.func59, Try.ntmps59
  go_wp2_with fail
  rw [← HU.out]
  clear HU
  refine (newImage_any bw bh P hbw16 hbh16 hP u1).mono ?_
  rintro e u2 ⟨v2, rfl, hO2, hB2⟩
  have hzl : (zeros (bw * bh * P)).length = bw * bh * P := by simp [zeros]
  obtain ⟨g, c2, rfl, hg1, hg2⟩ := hO2.form (by rw [hzl]; exact Nat.mul_pos (Nat.mul_pos (by omega) (by omega)) hP1)
  have hsz2 := hB2.size
  obtain ⟨b3, hb3⟩ : ∃ b3, b3 = u2.heap.size := ⟨_, rfl⟩
  obtain ⟨n, hn⟩ : ∃ n, n = (zeros (bw * bh * P)).length := ⟨_, rfl⟩
  obtain ⟨O0, hO0⟩ : ∃ O0, O0 = px bw P (zeros (bw * bh * P)) := ⟨_, rfl⟩
  have hgb : b3 ≠ g := by omega
  have HI0 : Hid (Own (u2.alloc (.cells #[.int .i64 (bw : Int), .int .i64 (bh : Int), .int .i64 (P : Int), .slice (some ⟨g, 0, none⟩) n c2] 30)) (w.heap.size + 2) (.slice (some ⟨g, 0, none⟩) n c2) (zeros (bw * bh * P)) ∧ n = (zeros (bw * bh * P)).length ∧ Fill bw bh P (fun X Y => X) (fun X Y => Y) (fun X Y => pxc W P xs (X0 + X) (Y0 + Y)) O0 0 0 (zeros (bw * bh * P)) ∧ Bx (u2.alloc (.cells #[.int .i64 (bw : Int), .int .i64 (bh : Int), .int .i64 (P : Int), .slice (some ⟨g, 0, none⟩) n c2] 30)) w.heap.size 30 (imC W H P (.slice A xs.length c)) ∧ Bx (u2.alloc (.cells #[.int .i64 (bw : Int), .int .i64 (bh : Int), .int .i64 (P : Int), .slice (some ⟨g, 0, none⟩) n c2] 30)) (w.heap.size + 1) 30 (imC 0 0 0 (.slice none 0 0)) ∧ Bx (u2.alloc (.cells #[.int .i64 (bw : Int), .int .i64 (bh : Int), .int .i64 (P : Int), .slice (some ⟨g, 0, none⟩) n c2] 30)) b3 30 (imC bw bh P (.slice (some ⟨g, 0, none⟩) n c2)) ∧ Below w.heap.size w (u2.alloc (.cells #[.int .i64 (bw : Int), .int .i64 (bh : Int), .int .i64 (P : Int), .slice (some ⟨g, 0, none⟩) n c2] 30))) :=
    Lib.hid ⟨by rw [hn]; exact (hO2.alloc _).base_le (by omega), hn, by rw [hO0]; exact Fill.start hzl, (hM.below hB2).alloc _, (hR.below hB2).alloc _, by rw [hb3]; exact Bx.new u2 _ _, (hB1.trans (hB2.mono (by omega))).alloc (by omega) _⟩
  have hsu : w.heap.size + 2 ≤ u2.heap.size := by omega
  rw [← hn]
  have HB3 := Lib.hid hb3
  have HNn := Lib.hid hn
  clear hO2 hB2 hM hR hB1 hb3 hn hO0 hg1 hg2 hsz2 hzl m0 m1 m2 m3
  go_wp2
  (try rw [← HB3.out])
  go_loopw [12] (fun iy wr => ∃ (y : Nat) (ys : List Int), y ≤ bh ∧ iy = .int .i64 y ∧ Hid (Own wr (w.heap.size + 2) (.slice (some ⟨g, 0, none⟩) n c2) ys ∧ n = ys.length ∧ Fill bw bh P (fun X Y => X) (fun X Y => Y) (fun X Y => pxc W P xs (X0 + X) (Y0 + Y)) O0 y 0 ys ∧ Bx wr w.heap.size 30 (imC W H P (.slice A xs.length c)) ∧ Bx wr (w.heap.size + 1) 30 (imC 0 0 0 (.slice none 0 0)) ∧ Bx wr b3 30 (imC bw bh P (.slice (some ⟨g, 0, none⟩) n c2)) ∧ Below w.heap.size w wr)) (fun iy _ => bh - (intOf iy).toNat)
  case atStart => exact ⟨0, _, Nat.zero_le _, rfl, HI0⟩
  case round =>
    obtain ⟨y, ys, hy, rfl, hI⟩ := hrel
    obtain ⟨hO, hn, hF, hM, hR, hT, hB⟩ := hI.out
    obtain ⟨m0, m1, m2, m3⟩ := hM.im
    obtain ⟨t0, t1, t2, t3⟩ := hT.im
    by_cases hylt : y < bh
    · clear hO hn hF hM hR hT hB
      go_wp2
      clear m0 m1 m2 m3 t0 t1 t2 t3
      go_loopw [13] (fun ix wr => ∃ (x : Nat) (ys : List Int), x ≤ bw ∧ ix = .int .i64 x ∧ Hid (Own wr (w.heap.size + 2) (.slice (some ⟨g, 0, none⟩) n c2) ys ∧ n = ys.length ∧ Fill bw bh P (fun X Y => X) (fun X Y => Y) (fun X Y => pxc W P xs (X0 + X) (Y0 + Y)) O0 y x ys ∧ Bx wr w.heap.size 30 (imC W H P (.slice A xs.length c)) ∧ Bx wr (w.heap.size + 1) 30 (imC 0 0 0 (.slice none 0 0)) ∧ Bx wr b3 30 (imC bw bh P (.slice (some ⟨g, 0, none⟩) n c2)) ∧ Below w.heap.size w wr)) (fun ix _ => bw - (intOf ix).toNat)
      case atStart => exact ⟨0, ys, Nat.zero_le _, rfl, hI⟩
      case round =>
        obtain ⟨x, ys, hx, rfl, hJ⟩ := hrel
        clear hI
        obtain ⟨hO, hn, hF, hM, hR, hT, hB⟩ := hJ.out
        obtain ⟨m0, m1, m2, m3⟩ := hM.im
        obtain ⟨t0, t1, t2, t3⟩ := hT.im
        have hml := hM.lt
        have htl := hT.lt
        by_cases hxlt : x < bw
        · have HO := Lib.hid hO
          have HF := Lib.hid hF
          have HM := Lib.hid hM
          have HRb := Lib.hid hR
          have HT := Lib.hid hT
          have HB := Lib.hid hB
          have Hn := Lib.hid hn
          have hgl := (hO.lt g rfl).2
          have hgw := (hO.lt g rfl).1
          have HXr := Lib.hid ((Hx.out.belowTo hB (Nat.le_refl _)).more hB.size)
          have HPX := Lib.hid (show (X0 : Int) + (x : Int) = ((X0 + x : Nat) : Int) by omega)
          have HPY := Lib.hid (show (Y0 : Int) + (y : Int) = ((Y0 + y : Nat) : Int) by omega)
          have HTX := Lib.hid (show (x : Int) = ((x : Nat) : Int) by omega)
          have HTY := Lib.hid (show (y : Int) = ((y : Nat) : Int) by omega)
          clear hO hn hF hM hR hT hB hJ
          have rw0 : IntKind.i64.wrap ((X0 : Int) + (x : Int)) = (X0 : Int) + (x : Int) := IntWalk.i64_in _ (by omega)
          have rw1 : IntKind.i64.wrap ((Y0 : Int) + (y : Int)) = (Y0 : Int) + (y : Int) := IntWalk.i64_in _ (by omega)
          go_wp2
          go_region_held3 (fun w' => (w'.cell? ⟨w.heap.size, 0, none⟩ = some (.int .i64 (W : Int)) ∧ w'.cell? ⟨w.heap.size, 1, none⟩ = some (.int .i64 (H : Int)) ∧ w'.cell? ⟨w.heap.size, 2, none⟩ = some (.int .i64 (P : Int)) ∧ w'.cell? ⟨w.heap.size, 3, none⟩ = some (.slice A xs.length c)) ∧ w'.cell? ⟨b3, 0, none⟩ = some (.int .i64 (bw : Int)) ∧ w'.cell? ⟨b3, 1, none⟩ = some (.int .i64 (bh : Int)) ∧ w'.cell? ⟨b3, 2, none⟩ = some (.int .i64 (P : Int)) ∧ w'.cell? ⟨b3, 3, none⟩ = some (.slice (some ⟨g, 0, none⟩) n c2))
            (first | (with_reducible exact ⟨⟨k0, k1, k2, k3⟩, k4, k5, k6, k7⟩) | (with_reducible exact ⟨⟨d0, d1, d2, d3⟩, d4, d5, d6, d7⟩) | exact ⟨⟨m0, m1, m2, m3⟩, t0, t1, t2, t3⟩ | go_keep)
            (first | (go_at_call 56; refine (pixelAt_at W H P hW hH hP1 hP A c xs HLn.out hlc (X0 + x) (Y0 + y) (by omega) (by omega) _ _ (by exact HPX.out) (by exact HPY.out) _ (by exact HXr.out)).mono ?_; rintro e w5 ⟨v5, rfl, hO5, hB5⟩; obtain ⟨A5, c5, rfl, hc5⟩ := hO5.slice; obtain ⟨d0, d1, d2, d3⟩ := keep4 hB5 (by exact hml) m0 m1 m2 m3; obtain ⟨d4, d5, d6, d7⟩ := keep4 hB5 (by exact htl) t0 t1 t2 t3; have HO5 := Lib.hid hO5; have HB5 : Hid (Below wr.heap.size wr w5) := Lib.hid ((Below.refl wr.heap.size wr).drew.trans hB5); clear hO5 hB5) | (go_at_call 55; refine (setPixel_at bw bh P (by omega) (by omega) hP (w.heap.size + 2) g c2 n ys Hn.out HF.out.1 (x) (y) (by omega) (by omega) _ _ (by first | exact HTX.out | rfl) (by first | exact HTY.out | rfl) A5 c5 _ (pxl W P xs (X0 + x) (Y0 + y)) rfl (pxl_len _ _ _ _ _) _ (by exact HO.out.below HB5.out (Nat.le_refl _)) (by exact HO5.out.rds.2) (fun a ha => by subst ha; have h5 := (HO5.out.lt a.block rfl).1; have : wr.heap.size ≤ a.block := h5; omega)).mono ?_; rintro e w6 ⟨rfl, hO6, hG6⟩; have hz5 := HB5.out.size; obtain ⟨k0, k1, k2, k3⟩ := keep4g hG6 (by omega) (show w.heap.size ≠ g by omega) d0 d1 d2 d3; obtain ⟨k4, k5, k6, k7⟩ := keep4g hG6 (by omega) hgb d4 d5 d6 d7; have HN : Hid (Own w6 (w.heap.size + 2) (.slice (some ⟨g, 0, none⟩) n c2) (setk bw P (x) (y) (pxl W P xs (X0 + x) (Y0 + y)) ys P) ∧ n = (setk bw P (x) (y) (pxl W P xs (X0 + x) (Y0 + y)) ys P).length ∧ Fill bw bh P (fun X Y => X) (fun X Y => Y) (fun X Y => pxc W P xs (X0 + X) (Y0 + Y)) O0 y (x + 1) (setk bw P (x) (y) (pxl W P xs (X0 + x) (Y0 + y)) ys P) ∧ Bx w6 w.heap.size 30 (imC W H P (.slice A xs.length c)) ∧ Bx w6 (w.heap.size + 1) 30 (imC 0 0 0 (.slice none 0 0)) ∧ Bx w6 b3 30 (imC bw bh P (.slice (some ⟨g, 0, none⟩) n c2)) ∧ Below w.heap.size w w6) := Lib.hid ⟨hO6, by rw [setk_len]; exact Hn.out, HF.out.step (by omega) (by omega) (fun X Y hX hY => by constructor <;> intro h <;> omega) (fun p hp => by rw [pxl_get _ _ _ _ _ _ hp]; show _ = pxc W P xs _ _ p; (try rw [img_pxc (H := H) hp]); (try (congr 1 <;> omega))), (HM.out.below HB5.out).kept hG6 (by simp; omega), (HRb.out.below HB5.out).kept hG6 (by simp; omega), (HT.out.below HB5.out).kept hG6 (by simp; exact fun h => hgb h), (HB.out.trans (HB5.out.mono HB.out.size)).grown hG6 (by have := HB.out.size; omega) (fun k hk => by injection hk with hk; omega)⟩; clear hO6 hG6))
          all_goals
            clear d0 d1 d2 d3 d4 d5 d6 d7 k0 k1 k2 k3 k4 k5 k6 k7 m0 m1 m2 m3 t0 t1 t2 t3 rw0 rw1
            (try go_wp2)
            go_roundw
            case rel => exact ⟨x + 1, _, by omega, by go_num, HN⟩
            case measure => simp [intOf]; omega
        · have hxW : x = bw := by omega
          rw [hxW] at hF
          clear hxW
          have HN : Hid (Own wr (w.heap.size + 2) (.slice (some ⟨g, 0, none⟩) n c2) ys ∧ n = ys.length ∧ Fill bw bh P (fun X Y => X) (fun X Y => Y) (fun X Y => pxc W P xs (X0 + X) (Y0 + Y)) O0 (y + 1) 0 ys ∧ Bx wr w.heap.size 30 (imC W H P (.slice A xs.length c)) ∧ Bx wr (w.heap.size + 1) 30 (imC 0 0 0 (.slice none 0 0)) ∧ Bx wr b3 30 (imC bw bh P (.slice (some ⟨g, 0, none⟩) n c2)) ∧ Below w.heap.size w wr) := Lib.hid ⟨hO, hn, hF.row (fun X Y hX hY => by omega), hM, hR, hT, hB⟩
          clear hO hn hF hM hR hT hB hJ
          go_wp2
          go_roundw
          case rel => exact ⟨y + 1, ys, by omega, by go_num, HN⟩
          case measure => simp [intOf]; omega
    · have hyH : y = bh := by omega
      have hE : ys = img bw bh P (fun X Y => pxc W P xs (X0 + X) (Y0 + Y)) := (by rw [← hyH]; subst hyH; exact hF.done (fun X Y hX hY => by omega))
      obtain ⟨r0, r1, r2, r3⟩ := hR.im
      have f0 := hR.fz 0
      have f1 := hR.fz 1
      have f2 := hR.fz 2
      have f3 := hR.fz 3
      have hO' := hO
      rw [hE] at hO'
      have hn' := hn
      rw [hE] at hn'
      have HE := Lib.hid (im_end (w := w) (r := w.heap.size + 1) (base := w.heap.size + 2) hO' (by omega) (by omega) hB (.int .i64 (bw : Int)) (.int .i64 (bh : Int)) (.int .i64 (P : Int)) (.slice (some ⟨g, 0, none⟩) n c2))
      clear hO hn hF hM hR hT hB hI hE hO' hn' hyH
      go_wp2
      exact bodyPost_ret (v := .agg #[.int .i64 (bw : Int), .int .i64 (bh : Int), .int .i64 (P : Int), .slice (some ⟨g, 0, none⟩) n c2]) (by simp [results, Try.results59, go_sem, r0, r1, r2, r3]) rfl ⟨_, rfl, HE.out.1, HE.out.2⟩
set_option maxHeartbeats 8000000 in
theorem s_CropImage (W H P bx by_ bw bh : Int) (A : Option Addr) (c : Nat) (xs : List Int) (w : World) (hx : Rds .i64 w w.heap.size A xs) (hl : xs.length ≤ 2000000) (hlc : xs.length ≤ c) :
    Calls Try.prog 37 #[.agg #[.int .i64 W, .int .i64 H, .int .i64 P, .slice A xs.length c], .agg #[.int .i64 bx, .int .i64 by_, .int .i64 bw, .int .i64 bh]] w (SetR (cropOk W H P xs bx by_ bw bh) bw bh P (cropL W.toNat P.toNat xs bx.toNat by_.toNat bw.toNat bh.toNat) w) := by
  obtain ⟨u0, hu⟩ : ∃ u0, u0 = ((w.alloc (.cells #[.int .i64 W, .int .i64 H, .int .i64 P, .slice A xs.length c] 30)).alloc (.cells #[.int .i64 bx, .int .i64 by_, .int .i64 bw, .int .i64 bh] 27)).alloc (.cells #[.int .i64 0, .int .i64 0, .int .i64 0, .slice none 0 0] 30) := ⟨_, rfl⟩
  obtain ⟨r, hr⟩ : ∃ r, r = w.heap.size + 2 := ⟨_, rfl⟩
  obtain ⟨pb, hpb⟩ : ∃ pb, pb = w.heap.size + 1 := ⟨_, rfl⟩
  have Hsz : Hid (u0.heap.size = w.heap.size + 3) := Lib.hid (by rw [hu]; simp)
  have HB0 : Hid (Below w.heap.size w u0) := Lib.hid (by rw [hu]; exact (((Below.refl w.heap.size w).alloc (Nat.le_refl _) _).alloc (by simp) _).alloc (by simp <;> omega) _)
  have HM0 : Hid (Bx u0 w.heap.size 30 (imC W H P (.slice A xs.length c))) := Lib.hid (by rw [hu]; exact Bx.at2.1)
  have HP0 : Hid (Bx u0 pb 27 #[.int .i64 bx, .int .i64 by_, .int .i64 bw, .int .i64 bh]) := Lib.hid (by rw [hu, hpb]; exact Bx.at2.2.1)
  have HR0 : Hid (Bx u0 r 30 (imC 0 0 0 (.slice none 0 0))) := Lib.hid (by rw [hu, hr]; exact Bx.at2.2.2)
  have Hx := Lib.hid ((hx.below HB0.out).more (by have := Hsz.out; omega : w.heap.size ≤ u0.heap.size))
  have HxW := Lib.hid hx
  have HU := Lib.hid hu
  have Hr := Lib.hid hr
  have Hpb := Lib.hid hpb
  have hrw : w.heap.size ≤ r := by omega
  have HOK : Hid (cropOk W H P xs bx by_ bw bh = (vim W H P xs && fitB bx by_ bw bh W H)) := Lib.hid rfl
  clear hx hu hr hpb
  go_enter Try.func37, Try.ntmps37
  go_wp2_with fail
  rw [← HU.out]
  (try rw [← Hr.out])
  (try rw [← Hpb.out])
  clear HU
  refine (sVimg_any W H P A c xs u0 Hx.out hl).mono ?_
  rintro e u1 ⟨rfl, hB⟩
  have HM1 := Lib.hid (HM0.out.below hB)
  have HP1 := Lib.hid (HP0.out.below hB)
  have HR1 := Lib.hid (HR0.out.below hB)
  have HB1 := Lib.hid (HB0.out.trans (hB.mono (by have := Hsz.out; omega)))
  have hsz1 : w.heap.size + 3 ≤ u1.heap.size := by have := Hsz.out; have := hB.size; omega
  have Hx1 := Lib.hid ((Hx.out.belowTo hB (Nat.le_refl _)).more hB.size)
  clear hB Hx HB0 HM0 HR0 HP0 Hsz
  cases hv : vim W H P xs
  · have HF : Hid (cropOk W H P xs bx by_ bw bh = false) := Lib.hid (by rw [HOK.out, hv]; rfl)
    obtain ⟨r0, r1, r2, r3⟩ := HR1.out.im
    have f0 := HR1.out.fz 0
    have f1 := HR1.out.fz 1
    have f2 := HR1.out.fz 2
    have f3 := HR1.out.fz 3
    go_wp2
    exact bodyPost_ret (v := .tuple #[.agg #[.int .i64 0, .int .i64 0, .int .i64 0, .slice none 0 0], .bool false]) (by simp [results, Try.results37, go_sem, r0, r1, r2, r3]) rfl (SetR.noR HF.out hrw HB1.out _ _ _ _)
  · obtain ⟨W, H, P, rfl, rfl, rfl, hW1, hW, hH1, hH, hP1, hP, hln, hby⟩ := vim_nat hv
    have HLn := Lib.hid hln
    have HV := Lib.hid hv
    obtain ⟨m0, m1, m2, m3⟩ := HM1.out.im
    obtain ⟨p0, p1, p2, p3⟩ := bx4 HP1.out
    clear hv hln hby
    go_wp2_with fail
    refine (vbox_any bx by_ bw bh W H P _ ⟨by omega, by omega⟩ ⟨by omega, by omega⟩ u1).mono ?_
    rintro e u2 ⟨rfl, hB2⟩
    have HB2 := Lib.hid (HB1.out.trans (hB2.mono (by omega)))
    have HM2 := Lib.hid (HM1.out.below hB2)
    have HP2 := Lib.hid (HP1.out.below hB2)
    have HR2 := Lib.hid (HR1.out.below hB2)
    have Hx2 := Lib.hid ((Hx1.out.belowTo hB2 (Nat.le_refl _)).more hB2.size)
    have hz2 : w.heap.size + 3 ≤ u2.heap.size := by have := hB2.size; omega
    clear m0 m1 m2 m3 p0 p1 p2 p3 hB2 HM1 HR1 HB1 HP1 Hx1
    obtain ⟨m0, m1, m2, m3⟩ := HM2.out.im
    obtain ⟨p0, p1, p2, p3⟩ := bx4 HP2.out
    cases ho : fitB bx by_ bw bh W H
    · have HF : Hid (cropOk W H P xs bx by_ bw bh = false) := Lib.hid (by rw [HOK.out, ho, HV.out]; rfl)
      obtain ⟨r0, r1, r2, r3⟩ := HR2.out.im
      have f0 := HR2.out.fz 0
      have f1 := HR2.out.fz 1
      have f2 := HR2.out.fz 2
      have f3 := HR2.out.fz 3
      clear ho
      go_wp2
      exact bodyPost_ret (v := .tuple #[.agg #[.int .i64 0, .int .i64 0, .int .i64 0, .slice none 0 0], .bool false]) (by simp [results, Try.results37, go_sem, r0, r1, r2, r3]) rfl (SetR.noR HF.out hrw HB2.out _ _ _ _)
    · have HT : Hid (cropOk W H P xs bx by_ bw bh = true) := Lib.hid (by rw [HOK.out, ho, HV.out]; rfl)
      obtain ⟨X0, Y0, bw, bh, rfl, rfl, rfl, rfl, hbw, hbh, hXw, hYh⟩ := fit_nat ho
      have hrlt : r < u2.heap.size := by have := Hr.out; omega
      have hplt : pb < u2.heap.size := by have := Hpb.out; omega
      have hbw16 : bw ≤ 16 := by omega
      have hbh16 : bh ≤ 16 := by omega
      clear ho
      go_wp2_with fail
      refine (crop_any W H P X0 Y0 bw bh hW1 hW hH1 hH hP1 hP hbw hbh hXw hYh A c xs HLn.out hlc u2 Hx2.out).mono ?_
      rintro e u3 ⟨v3, rfl, hO3, hB3⟩
      obtain ⟨A3, c3, rfl, hc3⟩ := hO3.slice
      have hR3 := HR2.out.below hB3
      obtain ⟨r0, r1, r2, r3⟩ := hR3.im
      have f0 := hR3.fz 0
      have f1 := hR3.fz 1
      have f2 := hR3.fz 2
      have f3 := hR3.fz 3
      have HE : Hid (∀ v0 v1 v2 v3 : Value, SetR (cropOk W H P xs X0 Y0 bw bh) bw bh P (cropL W P xs X0 Y0 bw bh) w (.returned (.tuple #[.agg #[.int .i64 (bw : Int), .int .i64 (bh : Int), .int .i64 (P : Int), .slice A3 (cropL W P xs X0 Y0 bw bh).length c3], .bool true])) ((((u3.setCell ⟨r, 0, none⟩ v0).setCell ⟨r, 1, none⟩ v1).setCell ⟨r, 2, none⟩ v2).setCell ⟨r, 3, none⟩ v3)) := Lib.hid fun v0 v1 v2 v3 =>
        SetR.yesR HT.out hrw hO3 hrlt (HB2.out.trans (hB3.mono (by omega))) v0 v1 v2 v3
      clear hR3 hO3 hB3 hc3
      go_wp2
      exact bodyPost_ret (v := .tuple #[.agg #[.int .i64 (bw : Int), .int .i64 (bh : Int), .int .i64 (P : Int), .slice A3 (cropL W P xs X0 Y0 bw bh).length c3], .bool true]) (by simp [results, Try.results37, go_sem, r0, r1, r2, r3]) rfl (HE.out _ _ _ _)
end Go.Proofs.Ytfjcbdpepbcjcaa
