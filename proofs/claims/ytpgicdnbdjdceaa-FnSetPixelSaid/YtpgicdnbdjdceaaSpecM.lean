/- Contracts of the loops of the model over all pixels: mirror and transpose. -/
import Derived.Test.YtpgicdnbdjdceaaSpecP
import Derived.Test.YtpgicdnbdjdceaaGridF
import Derived.Test.YtpgicdnbdjdceaaImgB
namespace Go.Proofs.Ytpgicdnbdjdceaa
open Go.RowKit
set_option linter.unusedSimpArgs false
set_option linter.unusedVariables false

theorem keep4g {W W' : World} {g r : Nat} {u0 u1 u2 u3 : Option Value} (hG : W.grownBy W' (some r)) (hg : g < W.heap.size) (hne : g ≠ r) (c0 : W.cell? ⟨g, 0, none⟩ = u0) (c1 : W.cell? ⟨g, 1, none⟩ = u1) (c2 : W.cell? ⟨g, 2, none⟩ = u2) (c3 : W.cell? ⟨g, 3, none⟩ = u3) :
    W'.cell? ⟨g, 0, none⟩ = u0 ∧ W'.cell? ⟨g, 1, none⟩ = u1 ∧ W'.cell? ⟨g, 2, none⟩ = u2 ∧ W'.cell? ⟨g, 3, none⟩ = u3 :=
  ⟨(World.cell?_of_block (hG.block g hg (by simpa using hne))).trans c0, (World.cell?_of_block (hG.block g hg (by simpa using hne))).trans c1, (World.cell?_of_block (hG.block g hg (by simpa using hne))).trans c2, (World.cell?_of_block (hG.block g hg (by simpa using hne))).trans c3⟩
theorem setPixel_at (W H P : Nat) (hW : W ≤ 16) (hH : H ≤ 16) (hP4 : P ≤ 4) (base g c n : Nat) (ys : List Int) (hn : n = ys.length) (hl : ys.length = W * H * P) (x y : Nat) (hx : x < W) (hy : y < H) (X Y : Int) (hX : X = (x : Int)) (hY : Y = (y : Int)) (A : Option Addr) (c' m : Nat) (q : List Int) (hm : m = q.length) (hq : q.length = P)
    (w : World) (hO : Own w base (.slice (some ⟨g, 0, none⟩) n c) ys) (hr : Rds .i64 w w.heap.size A q) (hA : ∀ a : Addr, A = some a → a.block ≠ g) :
    Calls Try.prog 66 #[.agg #[.int .i64 (W : Int), .int .i64 (H : Int), .int .i64 (P : Int), .slice (some ⟨g, 0, none⟩) n c], .int .i64 X, .int .i64 Y, .slice A m c'] w
      fun e w' => e = .returned (.tuple #[]) ∧ Own w' base (.slice (some ⟨g, 0, none⟩) n c) (setk W P x y q ys P) ∧ w.grownBy w' (some g) := by
  subst hX hY
  exact setPixel_any W H P hW hH hP4 base g c n ys hn hl x y hx hy A c' m q hm hq w hO hr hA
set_option maxHeartbeats 8000000 in
theorem sMirror_any (W H P : Nat) (hW1 : 1 ≤ W) (hW : W ≤ 16) (hH1 : 1 ≤ H) (hH : H ≤ 16) (hP1 : 1 ≤ P) (hP : P ≤ 4) (A : Option Addr) (c : Nat) (xs : List Int) (hl : xs.length = W * H * P) (hlc : xs.length ≤ c) (w : World) (hx : Rds .i64 w w.heap.size A xs) :
    Calls Try.prog 54 #[.agg #[.int .i64 (W : Int), .int .i64 (H : Int), .int .i64 (P : Int), .slice A xs.length c]] w (MadeI W H P (mirL W H P xs) w) := by
  have hN : xs.length ≤ 1024 := by rw [hl]; have h1 := Nat.mul_le_mul hW hH; have := Nat.mul_le_mul h1 hP; omega
  have hpos : 0 < xs.length := by rw [hl]; exact Nat.mul_pos (Nat.mul_pos hW1 hH1) hP1
  have Hx := Lib.hid hx
  have HLn := Lib.hid hl
  obtain ⟨u0, hu⟩ : ∃ u0, u0 = (w.alloc (.cells #[.int .i64 (W : Int), .int .i64 (H : Int), .int .i64 (P : Int), .slice A xs.length c] 25)).alloc (.cells #[.int .i64 0, .int .i64 0, .int .i64 0, .slice none 0 0] 25) := ⟨_, rfl⟩
  have Hsz : Hid (u0.heap.size = w.heap.size + 2) := Lib.hid (by rw [hu]; simp)
  have HB0 : Hid (Below w.heap.size w u0) := Lib.hid (by rw [hu]; exact ((Below.refl w.heap.size w).alloc (Nat.le_refl _) _).alloc (by simp) _)
  have HM0 : Hid (Bx u0 w.heap.size 25 (imC W H P (.slice A xs.length c))) := Lib.hid (by rw [hu]; exact (Bx.new w 25 _).alloc _)
  have HR0 : Hid (Bx u0 (w.heap.size + 1) 25 (imC 0 0 0 (.slice none 0 0))) := Lib.hid (by rw [hu]; have := Bx.new (w.alloc (.cells #[.int .i64 (W : Int), .int .i64 (H : Int), .int .i64 (P : Int), .slice A xs.length c] 25)) 25 (imC 0 0 0 (.slice none 0 0)); simpa [imC] using this)
  have HU := Lib.hid hu
  clear hx hu hl
  go_enter Try.func54, Try.ntmps54
  go_wp2_with fail
  rw [← HU.out]
  clear HU
  refine (sCopyImage_any W H P A c xs u0 ((Hx.out.below HB0.out).more (by have := Hsz.out; omega)) (by omega)).mono ?_
  rintro e u2 ⟨v2, rfl, hO2, hB2⟩
  obtain ⟨g, c2, rfl, hg1, hg2⟩ := hO2.form hpos
  have hsz2 := hB2.size
  obtain ⟨b3, hb3⟩ : ∃ b3, b3 = u2.heap.size := ⟨_, rfl⟩
  obtain ⟨n, hn⟩ : ∃ n, n = xs.length := ⟨_, rfl⟩
  obtain ⟨O0, hO0⟩ : ∃ O0, O0 = px W P xs := ⟨_, rfl⟩
  have hgb : b3 ≠ g := by omega
  have HI0 : Hid (Own (u2.alloc (.cells #[.int .i64 (W : Int), .int .i64 (H : Int), .int .i64 (P : Int), .slice (some ⟨g, 0, none⟩) n c2] 25)) (w.heap.size + 2) (.slice (some ⟨g, 0, none⟩) n c2) xs ∧ n = xs.length ∧ Fill W H P (fun X Y => W - 1 - X) (fun X Y => Y) (fun X Y => pxc W P xs (W - 1 - X) Y) O0 0 0 xs ∧ Bx (u2.alloc (.cells #[.int .i64 (W : Int), .int .i64 (H : Int), .int .i64 (P : Int), .slice (some ⟨g, 0, none⟩) n c2] 25)) w.heap.size 25 (imC W H P (.slice A xs.length c)) ∧ Bx (u2.alloc (.cells #[.int .i64 (W : Int), .int .i64 (H : Int), .int .i64 (P : Int), .slice (some ⟨g, 0, none⟩) n c2] 25)) (w.heap.size + 1) 25 (imC 0 0 0 (.slice none 0 0)) ∧ Bx (u2.alloc (.cells #[.int .i64 (W : Int), .int .i64 (H : Int), .int .i64 (P : Int), .slice (some ⟨g, 0, none⟩) n c2] 25)) b3 25 (imC W H P (.slice (some ⟨g, 0, none⟩) n c2)) ∧ Below w.heap.size w (u2.alloc (.cells #[.int .i64 (W : Int), .int .i64 (H : Int), .int .i64 (P : Int), .slice (some ⟨g, 0, none⟩) n c2] 25))) :=
    Lib.hid ⟨by rw [hn]; exact (hO2.alloc _).base_le (by have := Hsz.out; omega), hn, by rw [hO0]; exact Fill.start HLn.out, (HM0.out.below hB2).alloc _, (HR0.out.below hB2).alloc _, by rw [hb3]; exact Bx.new u2 _ _, (HB0.out.trans (hB2.mono (by have := Hsz.out; omega))).alloc (by have := Hsz.out; omega) _⟩
  have hsu : w.heap.size + 2 ≤ u2.heap.size := by have := Hsz.out; omega
  rw [← hn]
  have HB3 := Lib.hid hb3
  have HNn := Lib.hid hn
  clear hO2 hB2 HM0 HR0 HB0 Hsz hb3 hn hO0 hg1 hg2 hsz2
  go_wp2
  (try rw [← HB3.out])
  go_loopw [4] (fun iy wr => ∃ (y : Nat) (ys : List Int), y ≤ H ∧ iy = .int .i64 y ∧ Hid (Own wr (w.heap.size + 2) (.slice (some ⟨g, 0, none⟩) n c2) ys ∧ n = ys.length ∧ Fill W H P (fun X Y => W - 1 - X) (fun X Y => Y) (fun X Y => pxc W P xs (W - 1 - X) (Y)) O0 y 0 ys ∧ Bx wr w.heap.size 25 (imC W H P (.slice A xs.length c)) ∧ Bx wr (w.heap.size + 1) 25 (imC 0 0 0 (.slice none 0 0)) ∧ Bx wr b3 25 (imC W H P (.slice (some ⟨g, 0, none⟩) n c2)) ∧ Below w.heap.size w wr)) (fun iy _ => H - (intOf iy).toNat)
  case atStart => exact ⟨0, _, Nat.zero_le _, rfl, HI0⟩
  case round =>
    obtain ⟨y, ys, hy, rfl, hI⟩ := hrel
    obtain ⟨hO, hn, hF, hM, hR, hT, hB⟩ := hI.out
    obtain ⟨m0, m1, m2, m3⟩ := hM.im
    obtain ⟨t0, t1, t2, t3⟩ := hT.im
    by_cases hylt : y < H
    · clear hO hn hF hM hR hT hB
      go_wp2
      clear m0 m1 m2 m3 t0 t1 t2 t3
      go_loopw [5] (fun ix wr => ∃ (x : Nat) (ys : List Int), x ≤ W ∧ ix = .int .i64 x ∧ Hid (Own wr (w.heap.size + 2) (.slice (some ⟨g, 0, none⟩) n c2) ys ∧ n = ys.length ∧ Fill W H P (fun X Y => W - 1 - X) (fun X Y => Y) (fun X Y => pxc W P xs (W - 1 - X) (Y)) O0 y x ys ∧ Bx wr w.heap.size 25 (imC W H P (.slice A xs.length c)) ∧ Bx wr (w.heap.size + 1) 25 (imC 0 0 0 (.slice none 0 0)) ∧ Bx wr b3 25 (imC W H P (.slice (some ⟨g, 0, none⟩) n c2)) ∧ Below w.heap.size w wr)) (fun ix _ => W - (intOf ix).toNat)
      case atStart => exact ⟨0, ys, Nat.zero_le _, rfl, hI⟩
      case round =>
        obtain ⟨x, ys, hx, rfl, hJ⟩ := hrel
        clear hI
        obtain ⟨hO, hn, hF, hM, hR, hT, hB⟩ := hJ.out
        obtain ⟨m0, m1, m2, m3⟩ := hM.im
        obtain ⟨t0, t1, t2, t3⟩ := hT.im
        have hml := hM.lt
        have htl := hT.lt
        by_cases hxlt : x < W
        · have HO := Lib.hid hO
          have HF := Lib.hid hF
          have HM := Lib.hid hM
          have HRb := Lib.hid hR
          have HT := Lib.hid hT
          have HB := Lib.hid hB
          have Hn := Lib.hid hn
          have hgl := (hO.lt g rfl).2
          have hgw := (hO.lt g rfl).1
          have HXr := Lib.hid ((Hx.out.belowTo hB (Nat.le_refl _)).more hB.size)
          have HTX := Lib.hid (show (W : Int) - 1 - (x : Int) = ((W - 1 - x : Nat) : Int) by omega)
          have HTY := Lib.hid (show (y : Int) = ((y : Nat) : Int) by omega)
          clear hO hn hF hM hR hT hB hJ
          have rw0 : IntKind.i64.wrap ((W : Int) - 1) = (W : Int) - 1 := IntWalk.i64_in _ (by omega)
          have rw1 : IntKind.i64.wrap ((W : Int) - 1 - (x : Int)) = (W : Int) - 1 - (x : Int) := IntWalk.i64_in _ (by omega)
          go_wp2
          go_region_held3 (fun w' => (w'.cell? ⟨w.heap.size, 0, none⟩ = some (.int .i64 (W : Int)) ∧ w'.cell? ⟨w.heap.size, 1, none⟩ = some (.int .i64 (H : Int)) ∧ w'.cell? ⟨w.heap.size, 2, none⟩ = some (.int .i64 (P : Int)) ∧ w'.cell? ⟨w.heap.size, 3, none⟩ = some (.slice A xs.length c)) ∧ w'.cell? ⟨b3, 0, none⟩ = some (.int .i64 (W : Int)) ∧ w'.cell? ⟨b3, 1, none⟩ = some (.int .i64 (H : Int)) ∧ w'.cell? ⟨b3, 2, none⟩ = some (.int .i64 (P : Int)) ∧ w'.cell? ⟨b3, 3, none⟩ = some (.slice (some ⟨g, 0, none⟩) n c2))
            (first | (with_reducible exact ⟨⟨k0, k1, k2, k3⟩, k4, k5, k6, k7⟩) | (with_reducible exact ⟨⟨d0, d1, d2, d3⟩, d4, d5, d6, d7⟩) | exact ⟨⟨m0, m1, m2, m3⟩, t0, t1, t2, t3⟩ | go_keep)
            (first | (go_at_call 67; refine (pixelAt_any W H P hW hH hP1 hP A c xs HLn.out hlc x y hxlt hylt _ (by exact HXr.out)).mono ?_; rintro e w5 ⟨v5, rfl, hO5, hB5⟩; obtain ⟨A5, c5, rfl, hc5⟩ := hO5.slice; obtain ⟨d0, d1, d2, d3⟩ := keep4 hB5 (by exact hml) m0 m1 m2 m3; obtain ⟨d4, d5, d6, d7⟩ := keep4 hB5 (by exact htl) t0 t1 t2 t3; have HO5 := Lib.hid hO5; have HB5 : Hid (Below wr.heap.size wr w5) := Lib.hid ((Below.refl wr.heap.size wr).drew.trans hB5); clear hO5 hB5) | (go_at_call 66; refine (setPixel_at W H P (by omega) (by omega) hP (w.heap.size + 2) g c2 n ys Hn.out HF.out.1 (W - 1 - x) (y) (by omega) (by omega) _ _ (by first | exact HTX.out | rfl) (by first | exact HTY.out | rfl) A5 c5 _ (pxl W P xs x y) rfl (pxl_len _ _ _ _ _) _ (by exact HO.out.below HB5.out (Nat.le_refl _)) (by exact HO5.out.rds.2) (fun a ha => by subst ha; have h5 := (HO5.out.lt a.block rfl).1; have : wr.heap.size ≤ a.block := h5; omega)).mono ?_; rintro e w6 ⟨rfl, hO6, hG6⟩; have hz5 := HB5.out.size; obtain ⟨k0, k1, k2, k3⟩ := keep4g hG6 (by omega) (show w.heap.size ≠ g by omega) d0 d1 d2 d3; obtain ⟨k4, k5, k6, k7⟩ := keep4g hG6 (by omega) hgb d4 d5 d6 d7; have HN : Hid (Own w6 (w.heap.size + 2) (.slice (some ⟨g, 0, none⟩) n c2) (setk W P (W - 1 - x) (y) (pxl W P xs x y) ys P) ∧ n = (setk W P (W - 1 - x) (y) (pxl W P xs x y) ys P).length ∧ Fill W H P (fun X Y => W - 1 - X) (fun X Y => Y) (fun X Y => pxc W P xs (W - 1 - X) (Y)) O0 y (x + 1) (setk W P (W - 1 - x) (y) (pxl W P xs x y) ys P) ∧ Bx w6 w.heap.size 25 (imC W H P (.slice A xs.length c)) ∧ Bx w6 (w.heap.size + 1) 25 (imC 0 0 0 (.slice none 0 0)) ∧ Bx w6 b3 25 (imC W H P (.slice (some ⟨g, 0, none⟩) n c2)) ∧ Below w.heap.size w w6) := Lib.hid ⟨hO6, by rw [setk_len]; exact Hn.out, HF.out.step (by omega) (by omega) (fun X Y hX hY => by constructor <;> intro h <;> omega) (fun p hp => by rw [pxl_get _ _ _ _ _ _ hp]; show _ = pxc W P xs _ _ p; (try rw [img_pxc (H := H) hp]); (try (congr 1 <;> omega))), (HM.out.below HB5.out).kept hG6 (by simp; omega), (HRb.out.below HB5.out).kept hG6 (by simp; omega), (HT.out.below HB5.out).kept hG6 (by simp; exact fun h => hgb h), (HB.out.trans (HB5.out.mono HB.out.size)).grown hG6 (by have := HB.out.size; omega) (fun k hk => by injection hk with hk; omega)⟩; clear hO6 hG6))
          all_goals
            clear d0 d1 d2 d3 d4 d5 d6 d7 k0 k1 k2 k3 k4 k5 k6 k7 m0 m1 m2 m3 t0 t1 t2 t3 rw0 rw1
            (try go_wp2)
            go_roundw
            case rel => exact ⟨x + 1, _, by omega, by go_num, HN⟩
            case measure => simp [intOf]; omega
        · have hxW : x = W := by omega
          subst hxW
          have HN : Hid (Own wr (w.heap.size + 2) (.slice (some ⟨g, 0, none⟩) n c2) ys ∧ n = ys.length ∧ Fill x H P (fun X Y => x - 1 - X) (fun X Y => Y) (fun X Y => pxc x P xs (x - 1 - X) (Y)) O0 (y + 1) 0 ys ∧ Bx wr w.heap.size 25 (imC x H P (.slice A xs.length c)) ∧ Bx wr (w.heap.size + 1) 25 (imC 0 0 0 (.slice none 0 0)) ∧ Bx wr b3 25 (imC x H P (.slice (some ⟨g, 0, none⟩) n c2)) ∧ Below w.heap.size w wr) := Lib.hid ⟨hO, hn, hF.row (fun X Y hX hY => by omega), hM, hR, hT, hB⟩
          clear hO hn hF hM hR hT hB hJ
          go_wp2
          go_roundw
          case rel => exact ⟨y + 1, ys, by omega, by go_num, HN⟩
          case measure => simp [intOf]; omega
    · have hyH : y = H := by omega
      have hE : ys = img W H P (fun X Y => pxc W P xs (W - 1 - X) (Y)) := (by rw [← hyH]; subst hyH; exact hF.done (fun X Y hX hY => by omega))
      obtain ⟨r0, r1, r2, r3⟩ := hR.im
      have f0 := hR.fz 0
      have f1 := hR.fz 1
      have f2 := hR.fz 2
      have f3 := hR.fz 3
      have hO' := hO
      rw [hE] at hO'
      have hn' := hn
      rw [hE] at hn'
      have HE := Lib.hid (im_end (w := w) (r := w.heap.size + 1) (base := w.heap.size + 2) hO' (by omega) (by omega) hB (.int .i64 (W : Int)) (.int .i64 (H : Int)) (.int .i64 (P : Int)) (.slice (some ⟨g, 0, none⟩) n c2))
      clear hO hn hF hM hR hT hB hI hE hO' hn' hyH
      go_wp2
      exact bodyPost_ret (v := .agg #[.int .i64 (W : Int), .int .i64 (H : Int), .int .i64 (P : Int), .slice (some ⟨g, 0, none⟩) n c2]) (by simp [results, Try.results54, go_sem, r0, r1, r2, r3]) rfl ⟨_, rfl, HE.out.1, HE.out.2⟩
set_option maxHeartbeats 8000000 in
theorem s_MirrorImage (W H P : Int) (A : Option Addr) (c : Nat) (xs : List Int) (w : World) (hx : Rds .i64 w w.heap.size A xs) (hl : xs.length ≤ 2000000) (hlc : xs.length ≤ c) :
    Calls Try.prog 18 #[.agg #[.int .i64 W, .int .i64 H, .int .i64 P, .slice A xs.length c]] w (MadeIf (vim W H P xs) W H P (mirL W.toNat H.toNat P.toNat xs) w) := by
  obtain ⟨u0, hu⟩ : ∃ u0, u0 = (w.alloc (.cells #[.int .i64 W, .int .i64 H, .int .i64 P, .slice A xs.length c] 25)).alloc (.cells #[.int .i64 0, .int .i64 0, .int .i64 0, .slice none 0 0] 25) := ⟨_, rfl⟩
  have Hsz : Hid (u0.heap.size = w.heap.size + 2) := Lib.hid (by rw [hu]; simp)
  have HB0 : Hid (Below w.heap.size w u0) := Lib.hid (by rw [hu]; exact ((Below.refl w.heap.size w).alloc (Nat.le_refl _) _).alloc (by simp) _)
  have HM0 : Hid (Bx u0 w.heap.size 25 (imC W H P (.slice A xs.length c))) := Lib.hid (by rw [hu]; exact (Bx.new w 25 _).alloc _)
  have HR0 : Hid (Bx u0 (w.heap.size + 1) 25 (imC 0 0 0 (.slice none 0 0))) := Lib.hid (by rw [hu]; have := Bx.new (w.alloc (.cells #[.int .i64 W, .int .i64 H, .int .i64 P, .slice A xs.length c] 25)) 25 (imC 0 0 0 (.slice none 0 0)); simpa [imC] using this)
  have Hx := Lib.hid ((hx.below HB0.out).more (by have := Hsz.out; omega : w.heap.size ≤ u0.heap.size))
  have Hxw := Lib.hid hx
  have HU := Lib.hid hu
  clear hx hu
  obtain ⟨m0, m1, m2, m3⟩ := HM0.out.im
  go_enter Try.func18, Try.ntmps18
  go_wp2_with fail
  rw [← HU.out]
  clear HU m0 m1 m2 m3
  refine (sVimg_any W H P A c xs u0 Hx.out hl).mono ?_
  rintro e u1 ⟨rfl, hB⟩
  have hM := HM0.out.below hB
  have hR := HR0.out.below hB
  have hB1 := HB0.out.trans (hB.mono (by have := Hsz.out; omega))
  have hsz1 : w.heap.size + 2 ≤ u1.heap.size := by have := Hsz.out; have := hB.size; omega
  have Hx1 := Lib.hid ((Hx.out.belowTo hB (Nat.le_refl _)).more hB.size)
  have hlt1 : w.heap.size < u1.heap.size := by omega
  have hlt2 : w.heap.size + 1 < u1.heap.size := by omega
  clear hB Hx HB0 HM0 HR0 Hsz
  cases hv : vim W H P xs
  · have Hv := Lib.hid hv
    obtain ⟨r0, r1, r2, r3⟩ := hR.im
    have f0 := hR.fz 0
    have f1 := hR.fz 1
    have f2 := hR.fz 2
    have f3 := hR.fz 3
    have HE := Lib.hid (im_end (w := w) (r := w.heap.size + 1) (base := w.heap.size + 2) (show Own u1 (w.heap.size + 2) (.slice none 0 0) [] from World.ownsRow_nil _ _ _ _) (by omega) (by omega) hB1 (.int .i64 0) (.int .i64 0) (.int .i64 0) (.slice none 0 0))
    clear hR hM hB1
    go_wp2
    exact bodyPost_ret (v := .agg #[.int .i64 0, .int .i64 0, .int .i64 0, .slice none 0 0]) (by simp [results, Try.results18, go_sem, r0, r1, r2, r3]) rfl (MadeIf.no Hv.out ⟨_, rfl, HE.out.1, HE.out.2⟩)
  · have Hv := Lib.hid hv
    obtain ⟨W, H, P, rfl, rfl, rfl, hW1, hW, hH1, hH, hP1, hP, hln, hby⟩ := vim_nat hv
    have HLn := Lib.hid hln
    obtain ⟨m0, m1, m2, m3⟩ := hM.im
    clear hv hln hby
    go_wp2_with fail
    refine (sMirror_any W H P hW1 hW hH1 hH hP1 hP A c xs HLn.out hlc u1 Hx1.out).mono ?_
    rintro e u2 ⟨v2, rfl, hO2, hB2⟩
    obtain ⟨A2, c2, rfl, _⟩ := hO2.slice
    have hR2 := hR.below hB2
    obtain ⟨r0, r1, r2, r3⟩ := hR2.im
    have f0 := hR2.fz 0
    have f1 := hR2.fz 1
    have f2 := hR2.fz 2
    have f3 := hR2.fz 3
    have HE := Lib.hid (im_end (w := w) (r := w.heap.size + 1) (base := w.heap.size + 2) (hO2.base_le hsz1) (by omega) (by omega) (hB1.trans (hB2.mono (by omega))) (.int .i64 (W : Int)) (.int .i64 (H : Int)) (.int .i64 (P : Int)) (.slice A2 (mirL W H P xs).length c2))
    clear hM hR hR2 hB1 hO2 hB2 m0 m1 m2 m3
    go_wp2
    exact bodyPost_ret (v := .agg #[.int .i64 (W : Int), .int .i64 (H : Int), .int .i64 (P : Int), .slice A2 (mirL W H P xs).length c2]) (by simp [results, Try.results18, go_sem, r0, r1, r2, r3]) rfl (MadeIf.yes Hv.out ⟨_, rfl, HE.out.1, HE.out.2⟩)
theorem own_zeros {w1 : World} {n g : Nat} {e : TypeId} {base : Nat} (h : w1.ownsRow base e 1 (.slice (some ⟨g, 0, none⟩) n n) n (madeCells (Value.int .i64 0).cells (n * 1)).toList) : w1.ownsRow base e 1 (.slice (some ⟨g, 0, none⟩) n n) (zeros n).length ((zeros n).map (.int .i64)) := by
  have e1 : (madeCells (Value.int .i64 0).cells (n * 1)).toList = (zeros n).map (.int .i64) := by
    rw [show (Value.int .i64 0).cells = #[Value.int .i64 0] from rfl, toList_madeCells_one]
    simp [zeros]
  rw [e1] at h
  simpa [zeros] using h
set_option maxRecDepth 20000 in
set_option maxHeartbeats 4000000 in
theorem newImage_any (W H P : Nat) (hW : W ≤ 16) (hH : H ≤ 16) (hP : P ≤ 4) (w : World) :
    Calls Try.prog 65 #[.int .i64 (W : Int), .int .i64 (H : Int), .int .i64 (P : Int)] w (MadeI W H P (zeros (W * H * P)) w) := by
  have hWH : W * H ≤ 256 := by have := Nat.mul_le_mul hW hH; omega
  have hN : W * H * P ≤ 1024 := by have := Nat.mul_le_mul hWH hP; omega
  have i1 : 0 ≤ (W : Int) * (H : Int) ∧ (W : Int) * (H : Int) ≤ 256 := by rw [← Int.natCast_mul]; omega
  have i2 : 0 ≤ (W : Int) * (H : Int) * (P : Int) ∧ (W : Int) * (H : Int) * (P : Int) ≤ 1024 := by rw [← Int.natCast_mul, ← Int.natCast_mul]; omega
  obtain ⟨i1, i1'⟩ := i1
  obtain ⟨i2, i2'⟩ := i2
  have hNi : (W : Int) * (H : Int) * (P : Int) = ((W * H * P : Nat) : Int) := by simp
  have HNi := Lib.hid hNi
  obtain ⟨i, hi, hz, hsz, hb⟩ := info_parts info_int
  have Hi := Lib.hid hi
  have Hz := Lib.hid hz
  have Hs := Lib.hid hsz
  have Hb := Lib.hid hb
  clear hi hz hsz hb hNi
  generalize W * H * P = n at *
  go_enter Try.func65, Try.ntmps65
  go_wp2_with (refine wpList_make_full _ rfl (.tmp 14) (.tmp 14) 23 rfl (w.heap.size + 1) 3 i _ 1 Try.underlying23 Hi.out Hz.out Hs.out .i64 .i64 _ _ n rfl rfl HNi.out HNi.out (by rw [Hb.out]; omega) (by unfold maxLen; omega) (by simp) ?_; intro w1 hO1 hG1; have hR1 : Bx w1 w.heap.size 25 (imC 0 0 0 (.slice none 0 0)) := (hG1.block _ (by simp) (by simp)).trans (heap_alloc_new w _); obtain ⟨r0, r1, r2, r3⟩ := hR1.im; have f0 := hR1.fz 0; have f1 := hR1.fz 1; have f2 := hR1.fz 2; have f3 := hR1.fz 3; have HO1 : Hid (Own w1 (w.heap.size + 1) (.slice (some ⟨w.heap.size + 1, 0, none⟩) n n) (zeros n)) := Lib.hid (by have h := own_zeros hO1; unfold Own; simpa using h); have HB1 : Hid (Below w.heap.size w w1) := Lib.hid (((Below.refl w.heap.size w).alloc (Nat.le_refl _) _).grown hG1 (by simp) (by simp)); clear hO1 hG1 hR1 Hi Hz Hs Hb HNi)
  have HE := Lib.hid (im_end (w := w) (r := w.heap.size) (base := w.heap.size + 1) HO1.out (by omega) (Nat.le_refl _) HB1.out (.int .i64 (W : Int)) (.int .i64 (H : Int)) (.int .i64 (P : Int)) (.slice (some ⟨w.heap.size + 1, 0, none⟩) n n))
  exact bodyPost_ret (v := .agg #[.int .i64 (W : Int), .int .i64 (H : Int), .int .i64 (P : Int), .slice (some ⟨w.heap.size + 1, 0, none⟩) n n]) (by simp [results, Try.results65, go_sem, r0, r1, r2, r3]) rfl ⟨_, rfl, HE.out.1, HE.out.2⟩
end Go.Proofs.Ytpgicdnbdjdceaa
