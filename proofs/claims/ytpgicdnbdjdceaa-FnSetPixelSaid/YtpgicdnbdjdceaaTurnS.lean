/- Contracts of turns in the model. -/
import Derived.Test.YtpgicdnbdjdceaaSpecM
import Derived.Test.YtpgicdnbdjdceaaTurnM
namespace Go.Proofs.Ytpgicdnbdjdceaa
open Go.RowKit
set_option linter.unusedSimpArgs false
set_option linter.unusedVariables false

theorem bx_put4 {w : World} {b : Nat} {T : TypeId} {a0 a1 a2 a3 : Value} (h : Bx w b T #[a0, a1, a2, a3]) (c0 c1 c2 c3 : Value) : Bx ((((w.setCell ⟨b, 0, none⟩ c0).setCell ⟨b, 1, none⟩ c1).setCell ⟨b, 2, none⟩ c2).setCell ⟨b, 3, none⟩ c3) b T #[c0, c1, c2, c3] := by
  have h1 := heap_setCell_same w b 0 _ T c0 h
  have h2 := heap_setCell_same _ b 1 _ T c1 h1
  have h3 := heap_setCell_same _ b 2 _ T c2 h2
  have h4 := heap_setCell_same _ b 3 _ T c3 h3
  simpa [Bx] using h4
theorem bx_put3 {w : World} {b : Nat} {T : TypeId} {a0 a1 a2 : Value} (h : Bx w b T #[a0, a1, a2]) (c0 c1 c2 : Value) : Bx (((w.setCell ⟨b, 0, none⟩ c0).setCell ⟨b, 1, none⟩ c1).setCell ⟨b, 2, none⟩ c2) b T #[c0, c1, c2] := by
  have h1 := heap_setCell_same w b 0 _ T c0 h
  have h2 := heap_setCell_same _ b 1 _ T c1 h1
  have h3 := heap_setCell_same _ b 2 _ T c2 h2
  simpa [Bx] using h3
theorem bx_sets4 {w : World} {b r : Nat} {T : TypeId} {cs : Array Value} (h : Bx w b T cs) (hne : b ≠ r) (c0 c1 c2 c3 : Value) : Bx ((((w.setCell ⟨r, 0, none⟩ c0).setCell ⟨r, 1, none⟩ c1).setCell ⟨r, 2, none⟩ c2).setCell ⟨r, 3, none⟩ c3) b T cs :=
  (Below.heap_setCell _ ⟨r, 3, none⟩ c3 b hne).trans ((Below.heap_setCell _ ⟨r, 2, none⟩ c2 b hne).trans ((Below.heap_setCell _ ⟨r, 1, none⟩ c1 b hne).trans ((Below.heap_setCell w ⟨r, 0, none⟩ c0 b hne).trans h)))
theorem bx_sets3 {w : World} {b r : Nat} {T : TypeId} {cs : Array Value} (h : Bx w b T cs) (hne : b ≠ r) (c0 c1 c2 : Value) : Bx (((w.setCell ⟨r, 0, none⟩ c0).setCell ⟨r, 1, none⟩ c1).setCell ⟨r, 2, none⟩ c2) b T cs :=
  (Below.heap_setCell _ ⟨r, 2, none⟩ c2 b hne).trans ((Below.heap_setCell _ ⟨r, 1, none⟩ c1 b hne).trans ((Below.heap_setCell w ⟨r, 0, none⟩ c0 b hne).trans h))
set_option maxHeartbeats 8000000 in
theorem sTurn_any (W H P : Nat) (hW1 : 1 ≤ W) (hW : W ≤ 16) (hH1 : 1 ≤ H) (hH : H ≤ 16) (hP1 : 1 ≤ P) (hP : P ≤ 4) (A : Option Addr) (c : Nat) (xs : List Int) (hl : xs.length = W * H * P) (hlc : xs.length ≤ c) (w : World) (hx : Rds .i64 w w.heap.size A xs) :
    Calls Try.prog 63 #[.agg #[.int .i64 (W : Int), .int .i64 (H : Int), .int .i64 (P : Int), .slice A xs.length c]] w (MadeI H W P (img H W P (fun X Y => pxc W P xs Y (H - 1 - X))) w) := by
  have Hx := Lib.hid hx
  have HLn := Lib.hid hl
  obtain ⟨u1, hu⟩ : ∃ u1, u1 = (w.alloc (.cells #[.int .i64 (W : Int), .int .i64 (H : Int), .int .i64 (P : Int), .slice A xs.length c] 25)).alloc (.cells #[.int .i64 0, .int .i64 0, .int .i64 0, .slice none 0 0] 25) := ⟨_, rfl⟩
  have hsz1 : w.heap.size + 2 ≤ u1.heap.size := by rw [hu]; simp
  have hB1 : Below w.heap.size w u1 := by rw [hu]; exact ((Below.refl w.heap.size w).alloc (Nat.le_refl _) _).alloc (by simp) _
  have hM : Bx u1 w.heap.size 25 (imC W H P (.slice A xs.length c)) := by rw [hu]; exact (Bx.new w 25 _).alloc _
  have hR : Bx u1 (w.heap.size + 1) 25 (imC 0 0 0 (.slice none 0 0)) := by rw [hu]; have := Bx.new (w.alloc (.cells #[.int .i64 (W : Int), .int .i64 (H : Int), .int .i64 (P : Int), .slice A xs.length c] 25)) 25 (imC 0 0 0 (.slice none 0 0)); simpa [imC] using this
  have HU := Lib.hid hu
  clear hx hu hl
  obtain ⟨m0, m1, m2, m3⟩ := hM.im
  go_enter Try.func63, Try.ntmps63
  go_wp2_with fail
  rw [← HU.out]
  clear HU
  refine (newImage_any H W P hH hW hP u1).mono ?_
  rintro e u2 ⟨v2, rfl, hO2, hB2⟩
  have hzl : (zeros (H * W * P)).length = H * W * P := by simp [zeros]
  obtain ⟨g, c2, rfl, hg1, hg2⟩ := hO2.form (by rw [hzl]; exact Nat.mul_pos (Nat.mul_pos (by omega) (by omega)) hP1)
  have hsz2 := hB2.size
  obtain ⟨b3, hb3⟩ : ∃ b3, b3 = u2.heap.size := ⟨_, rfl⟩
  obtain ⟨n, hn⟩ : ∃ n, n = (zeros (H * W * P)).length := ⟨_, rfl⟩
  obtain ⟨O0, hO0⟩ : ∃ O0, O0 = px H P (zeros (H * W * P)) := ⟨_, rfl⟩
  have hgb : b3 ≠ g := by omega
  have HI0 : Hid (Own (u2.alloc (.cells #[.int .i64 (H : Int), .int .i64 (W : Int), .int .i64 (P : Int), .slice (some ⟨g, 0, none⟩) n c2] 25)) (w.heap.size + 2) (.slice (some ⟨g, 0, none⟩) n c2) (zeros (H * W * P)) ∧ n = (zeros (H * W * P)).length ∧ Fill H W P (fun X Y => Y) (fun X Y => H - 1 - X) (fun X Y => pxc W P xs (Y) (H - 1 - X)) O0 0 0 (zeros (H * W * P)) ∧ Bx (u2.alloc (.cells #[.int .i64 (H : Int), .int .i64 (W : Int), .int .i64 (P : Int), .slice (some ⟨g, 0, none⟩) n c2] 25)) w.heap.size 25 (imC W H P (.slice A xs.length c)) ∧ Bx (u2.alloc (.cells #[.int .i64 (H : Int), .int .i64 (W : Int), .int .i64 (P : Int), .slice (some ⟨g, 0, none⟩) n c2] 25)) (w.heap.size + 1) 25 (imC 0 0 0 (.slice none 0 0)) ∧ Bx (u2.alloc (.cells #[.int .i64 (H : Int), .int .i64 (W : Int), .int .i64 (P : Int), .slice (some ⟨g, 0, none⟩) n c2] 25)) b3 25 (imC H W P (.slice (some ⟨g, 0, none⟩) n c2)) ∧ Below w.heap.size w (u2.alloc (.cells #[.int .i64 (H : Int), .int .i64 (W : Int), .int .i64 (P : Int), .slice (some ⟨g, 0, none⟩) n c2] 25))) :=
    Lib.hid ⟨by rw [hn]; exact (hO2.alloc _).base_le (by omega), hn, by rw [hO0]; exact Fill.start hzl, (hM.below hB2).alloc _, (hR.below hB2).alloc _, by rw [hb3]; exact Bx.new u2 _ _, (hB1.trans (hB2.mono (by omega))).alloc (by omega) _⟩
  have hsu : w.heap.size + 2 ≤ u2.heap.size := by omega
  rw [← hn]
  have HB3 := Lib.hid hb3
  have HNn := Lib.hid hn
  clear hO2 hB2 hM hR hB1 hb3 hn hO0 hg1 hg2 hsz2 hzl m0 m1 m2 m3
  go_wp2
  (try rw [← HB3.out])
  go_loopw [4] (fun iy wr => ∃ (y : Nat) (ys : List Int), y ≤ H ∧ iy = .int .i64 y ∧ Hid (Own wr (w.heap.size + 2) (.slice (some ⟨g, 0, none⟩) n c2) ys ∧ n = ys.length ∧ Fill H W P (fun X Y => Y) (fun X Y => H - 1 - X) (fun X Y => pxc W P xs (Y) (H - 1 - X)) O0 y 0 ys ∧ Bx wr w.heap.size 25 (imC W H P (.slice A xs.length c)) ∧ Bx wr (w.heap.size + 1) 25 (imC 0 0 0 (.slice none 0 0)) ∧ Bx wr b3 25 (imC H W P (.slice (some ⟨g, 0, none⟩) n c2)) ∧ Below w.heap.size w wr)) (fun iy _ => H - (intOf iy).toNat)
  case atStart => exact ⟨0, _, Nat.zero_le _, rfl, HI0⟩
  case round =>
    obtain ⟨y, ys, hy, rfl, hI⟩ := hrel
    obtain ⟨hO, hn, hF, hM, hR, hT, hB⟩ := hI.out
    obtain ⟨m0, m1, m2, m3⟩ := hM.im
    obtain ⟨t0, t1, t2, t3⟩ := hT.im
    by_cases hylt : y < H
    · clear hO hn hF hM hR hT hB
      go_wp2
      clear m0 m1 m2 m3 t0 t1 t2 t3
      go_loopw [5] (fun ix wr => ∃ (x : Nat) (ys : List Int), x ≤ W ∧ ix = .int .i64 x ∧ Hid (Own wr (w.heap.size + 2) (.slice (some ⟨g, 0, none⟩) n c2) ys ∧ n = ys.length ∧ Fill H W P (fun X Y => Y) (fun X Y => H - 1 - X) (fun X Y => pxc W P xs (Y) (H - 1 - X)) O0 y x ys ∧ Bx wr w.heap.size 25 (imC W H P (.slice A xs.length c)) ∧ Bx wr (w.heap.size + 1) 25 (imC 0 0 0 (.slice none 0 0)) ∧ Bx wr b3 25 (imC H W P (.slice (some ⟨g, 0, none⟩) n c2)) ∧ Below w.heap.size w wr)) (fun ix _ => W - (intOf ix).toNat)
      case atStart => exact ⟨0, ys, Nat.zero_le _, rfl, hI⟩
      case round =>
        obtain ⟨x, ys, hx, rfl, hJ⟩ := hrel
        clear hI
        obtain ⟨hO, hn, hF, hM, hR, hT, hB⟩ := hJ.out
        obtain ⟨m0, m1, m2, m3⟩ := hM.im
        obtain ⟨t0, t1, t2, t3⟩ := hT.im
        have hml := hM.lt
        have htl := hT.lt
        by_cases hxlt : x < W
        · have HO := Lib.hid hO
          have HF := Lib.hid hF
          have HM := Lib.hid hM
          have HRb := Lib.hid hR
          have HT := Lib.hid hT
          have HB := Lib.hid hB
          have Hn := Lib.hid hn
          have hgl := (hO.lt g rfl).2
          have hgw := (hO.lt g rfl).1
          have HXr := Lib.hid ((Hx.out.belowTo hB (Nat.le_refl _)).more hB.size)
          have HTX := Lib.hid (show (H : Int) - 1 - (y : Int) = ((H - 1 - y : Nat) : Int) by omega)
          have HTY := Lib.hid (show (x : Int) = ((x : Nat) : Int) by omega)
          clear hO hn hF hM hR hT hB hJ
          have rw0 : IntKind.i64.wrap ((H : Int) - 1) = (H : Int) - 1 := IntWalk.i64_in _ (by omega)
          have rw1 : IntKind.i64.wrap ((H : Int) - 1 - (y : Int)) = (H : Int) - 1 - (y : Int) := IntWalk.i64_in _ (by omega)
          go_wp2
          go_region_held3 (fun w' => (w'.cell? ⟨w.heap.size, 0, none⟩ = some (.int .i64 (W : Int)) ∧ w'.cell? ⟨w.heap.size, 1, none⟩ = some (.int .i64 (H : Int)) ∧ w'.cell? ⟨w.heap.size, 2, none⟩ = some (.int .i64 (P : Int)) ∧ w'.cell? ⟨w.heap.size, 3, none⟩ = some (.slice A xs.length c)) ∧ w'.cell? ⟨b3, 0, none⟩ = some (.int .i64 (H : Int)) ∧ w'.cell? ⟨b3, 1, none⟩ = some (.int .i64 (W : Int)) ∧ w'.cell? ⟨b3, 2, none⟩ = some (.int .i64 (P : Int)) ∧ w'.cell? ⟨b3, 3, none⟩ = some (.slice (some ⟨g, 0, none⟩) n c2))
            (first | (with_reducible exact ⟨⟨k0, k1, k2, k3⟩, k4, k5, k6, k7⟩) | (with_reducible exact ⟨⟨d0, d1, d2, d3⟩, d4, d5, d6, d7⟩) | exact ⟨⟨m0, m1, m2, m3⟩, t0, t1, t2, t3⟩ | go_keep)
            (first | (go_at_call 67; refine (pixelAt_any W H P hW hH hP1 hP A c xs HLn.out hlc x y hxlt hylt _ (by exact HXr.out)).mono ?_; rintro e w5 ⟨v5, rfl, hO5, hB5⟩; obtain ⟨A5, c5, rfl, hc5⟩ := hO5.slice; obtain ⟨d0, d1, d2, d3⟩ := keep4 hB5 (by exact hml) m0 m1 m2 m3; obtain ⟨d4, d5, d6, d7⟩ := keep4 hB5 (by exact htl) t0 t1 t2 t3; have HO5 := Lib.hid hO5; have HB5 : Hid (Below wr.heap.size wr w5) := Lib.hid ((Below.refl wr.heap.size wr).drew.trans hB5); clear hO5 hB5) | (go_at_call 66; refine (setPixel_at H W P (by omega) (by omega) hP (w.heap.size + 2) g c2 n ys Hn.out HF.out.1 (H - 1 - y) (x) (by omega) (by omega) _ _ (by first | exact HTX.out | rfl) (by first | exact HTY.out | rfl) A5 c5 _ (pxl W P xs x y) rfl (pxl_len _ _ _ _ _) _ (by exact HO.out.below HB5.out (Nat.le_refl _)) (by exact HO5.out.rds.2) (fun a ha => by subst ha; have h5 := (HO5.out.lt a.block rfl).1; have : wr.heap.size ≤ a.block := h5; omega)).mono ?_; rintro e w6 ⟨rfl, hO6, hG6⟩; have hz5 := HB5.out.size; obtain ⟨k0, k1, k2, k3⟩ := keep4g hG6 (by omega) (show w.heap.size ≠ g by omega) d0 d1 d2 d3; obtain ⟨k4, k5, k6, k7⟩ := keep4g hG6 (by omega) hgb d4 d5 d6 d7; have HN : Hid (Own w6 (w.heap.size + 2) (.slice (some ⟨g, 0, none⟩) n c2) (setk H P (H - 1 - y) (x) (pxl W P xs x y) ys P) ∧ n = (setk H P (H - 1 - y) (x) (pxl W P xs x y) ys P).length ∧ Fill H W P (fun X Y => Y) (fun X Y => H - 1 - X) (fun X Y => pxc W P xs (Y) (H - 1 - X)) O0 y (x + 1) (setk H P (H - 1 - y) (x) (pxl W P xs x y) ys P) ∧ Bx w6 w.heap.size 25 (imC W H P (.slice A xs.length c)) ∧ Bx w6 (w.heap.size + 1) 25 (imC 0 0 0 (.slice none 0 0)) ∧ Bx w6 b3 25 (imC H W P (.slice (some ⟨g, 0, none⟩) n c2)) ∧ Below w.heap.size w w6) := Lib.hid ⟨hO6, by rw [setk_len]; exact Hn.out, HF.out.step (by omega) (by omega) (fun X Y hX hY => by constructor <;> intro h <;> omega) (fun p hp => by rw [pxl_get _ _ _ _ _ _ hp]; show _ = pxc W P xs _ _ p; (try rw [img_pxc (H := H) hp]); (try (congr 1 <;> omega))), (HM.out.below HB5.out).kept hG6 (by simp; omega), (HRb.out.below HB5.out).kept hG6 (by simp; omega), (HT.out.below HB5.out).kept hG6 (by simp; exact fun h => hgb h), (HB.out.trans (HB5.out.mono HB.out.size)).grown hG6 (by have := HB.out.size; omega) (fun k hk => by injection hk with hk; omega)⟩; clear hO6 hG6))
          all_goals
            clear d0 d1 d2 d3 d4 d5 d6 d7 k0 k1 k2 k3 k4 k5 k6 k7 m0 m1 m2 m3 t0 t1 t2 t3 rw0 rw1
            (try go_wp2)
            go_roundw
            case rel => exact ⟨x + 1, _, by omega, by go_num, HN⟩
            case measure => simp [intOf]; omega
        · have hxW : x = W := by omega
          subst hxW
          have HN : Hid (Own wr (w.heap.size + 2) (.slice (some ⟨g, 0, none⟩) n c2) ys ∧ n = ys.length ∧ Fill H x P (fun X Y => Y) (fun X Y => H - 1 - X) (fun X Y => pxc x P xs (Y) (H - 1 - X)) O0 (y + 1) 0 ys ∧ Bx wr w.heap.size 25 (imC x H P (.slice A xs.length c)) ∧ Bx wr (w.heap.size + 1) 25 (imC 0 0 0 (.slice none 0 0)) ∧ Bx wr b3 25 (imC H x P (.slice (some ⟨g, 0, none⟩) n c2)) ∧ Below w.heap.size w wr) := Lib.hid ⟨hO, hn, hF.row (fun X Y hX hY => by omega), hM, hR, hT, hB⟩
          clear hO hn hF hM hR hT hB hJ
          go_wp2
          go_roundw
          case rel => exact ⟨y + 1, ys, by omega, by go_num, HN⟩
          case measure => simp [intOf]; omega
    · have hyH : y = H := by omega
      have hE : ys = img H W P (fun X Y => pxc W P xs (Y) (H - 1 - X)) := (by rw [← hyH]; subst hyH; exact hF.done (fun X Y hX hY => by omega))
      obtain ⟨r0, r1, r2, r3⟩ := hR.im
      have f0 := hR.fz 0
      have f1 := hR.fz 1
      have f2 := hR.fz 2
      have f3 := hR.fz 3
      have hO' := hO
      rw [hE] at hO'
      have hn' := hn
      rw [hE] at hn'
      have HE := Lib.hid (im_end (w := w) (r := w.heap.size + 1) (base := w.heap.size + 2) hO' (by omega) (by omega) hB (.int .i64 (H : Int)) (.int .i64 (W : Int)) (.int .i64 (P : Int)) (.slice (some ⟨g, 0, none⟩) n c2))
      clear hO hn hF hM hR hT hB hI hE hO' hn' hyH
      go_wp2
      exact bodyPost_ret (v := .agg #[.int .i64 (H : Int), .int .i64 (W : Int), .int .i64 (P : Int), .slice (some ⟨g, 0, none⟩) n c2]) (by simp [results, Try.results63, go_sem, r0, r1, r2, r3]) rfl ⟨_, rfl, HE.out.1, HE.out.2⟩
set_option maxHeartbeats 8000000 in
theorem s_TurnImage (W H P k : Int) (A : Option Addr) (c : Nat) (xs : List Int) (w : World) (hx : Rds .i64 w w.heap.size A xs) (hl : xs.length ≤ 2000000) (hlc : xs.length ≤ c) :
    Calls Try.prog 23 #[.agg #[.int .i64 W, .int .i64 H, .int .i64 P, .slice A xs.length c], .int .i64 k] w (MadeIf (vim W H P xs && inQ k) (tdim W.toNat H.toNat k.toNat).1 (tdim W.toNat H.toNat k.toNat).2 P (turL W.toNat H.toNat P.toNat xs k.toNat) w) := by
  obtain ⟨u0, hu⟩ : ∃ u0, u0 = (w.alloc (.cells #[.int .i64 W, .int .i64 H, .int .i64 P, .slice A xs.length c] 25)).alloc (.cells #[.int .i64 0, .int .i64 0, .int .i64 0, .slice none 0 0] 25) := ⟨_, rfl⟩
  have Hsz : Hid (u0.heap.size = w.heap.size + 2) := Lib.hid (by rw [hu]; simp)
  have HB0 : Hid (Below w.heap.size w u0) := Lib.hid (by rw [hu]; exact ((Below.refl w.heap.size w).alloc (Nat.le_refl _) _).alloc (by simp) _)
  have HM0 : Hid (Bx u0 w.heap.size 25 (imC W H P (.slice A xs.length c))) := Lib.hid (by rw [hu]; exact (Bx.new w 25 _).alloc _)
  have HR0 : Hid (Bx u0 (w.heap.size + 1) 25 (imC 0 0 0 (.slice none 0 0))) := Lib.hid (by rw [hu]; have := Bx.new (w.alloc (.cells #[.int .i64 W, .int .i64 H, .int .i64 P, .slice A xs.length c] 25)) 25 (imC 0 0 0 (.slice none 0 0)); simpa [imC] using this)
  have Hx := Lib.hid ((hx.below HB0.out).more (by have := Hsz.out; omega : w.heap.size ≤ u0.heap.size))
  have Hxw := Lib.hid hx
  have HU := Lib.hid hu
  clear hx hu
  obtain ⟨m0, m1, m2, m3⟩ := HM0.out.im
  go_enter Try.func23, Try.ntmps23
  go_wp2_with fail
  rw [← HU.out]
  clear HU m0 m1 m2 m3
  refine (sVimg_any W H P A c xs u0 Hx.out hl).mono ?_
  rintro e u1 ⟨rfl, hB⟩
  have hM := HM0.out.below hB
  have hR := HR0.out.below hB
  have hB1 := HB0.out.trans (hB.mono (by have := Hsz.out; omega))
  have hsz1 : w.heap.size + 2 ≤ u1.heap.size := by have := Hsz.out; have := hB.size; omega
  have Hx1 := Lib.hid ((Hx.out.belowTo hB (Nat.le_refl _)).more hB.size)
  have hlt1 : w.heap.size < u1.heap.size := by omega
  have hlt2 : w.heap.size + 1 < u1.heap.size := by omega
  clear hB Hx HB0 HM0 HR0 Hsz
  cases hv : vim W H P xs
  · have Hv := Lib.hid hv
    obtain ⟨r0, r1, r2, r3⟩ := hR.im
    have f0 := hR.fz 0
    have f1 := hR.fz 1
    have f2 := hR.fz 2
    have f3 := hR.fz 3
    have HE := Lib.hid (im_end (w := w) (r := w.heap.size + 1) (base := w.heap.size + 2) (show Own u1 (w.heap.size + 2) (.slice none 0 0) [] from World.ownsRow_nil _ _ _ _) (by omega) (by omega) hB1 (.int .i64 0) (.int .i64 0) (.int .i64 0) (.slice none 0 0))
    clear hR hM hB1
    go_wp2
    exact bodyPost_ret (v := .agg #[.int .i64 0, .int .i64 0, .int .i64 0, .slice none 0 0]) (by simp [results, Try.results23, go_sem, r0, r1, r2, r3]) rfl (MadeIf.no (by rw [Hv.out]; rfl) ⟨_, rfl, HE.out.1, HE.out.2⟩)
  · have Hv := Lib.hid hv
    obtain ⟨W, H, P, rfl, rfl, rfl, hW1, hW, hH1, hH, hP1, hP, hln, hby⟩ := vim_nat hv
    have HLn := Lib.hid hln
    obtain ⟨m0, m1, m2, m3⟩ := hM.im
    clear hv hln hby
    have HR := Lib.hid hR
    have HB1 := Lib.hid hB1
    have HQd : Hid (inQ k = decide (0 ≤ k ∧ k ≤ 3)) := Lib.hid rfl
    clear hM hR hB1
    go_wp2_with fail
    refine (sIn_any k 0 3 u1).mono ?_
    rintro e u1' ⟨rfl, rfl⟩
    rw [← HQd.out]
    cases hq : inQ k
    · have Hq := Lib.hid hq
      obtain ⟨r0, r1, r2, r3⟩ := HR.out.im
      have f0 := HR.out.fz 0
      have f1 := HR.out.fz 1
      have f2 := HR.out.fz 2
      have f3 := HR.out.fz 3
      have HE := Lib.hid (im_end (w := w) (r := w.heap.size + 1) (base := w.heap.size + 2) (show Own u1 (w.heap.size + 2) (.slice none 0 0) [] from World.ownsRow_nil _ _ _ _) (by omega) (by omega) HB1.out (.int .i64 0) (.int .i64 0) (.int .i64 0) (.slice none 0 0))
      clear hq
      go_wp2
      exact bodyPost_ret (v := .agg #[.int .i64 0, .int .i64 0, .int .i64 0, .slice none 0 0]) (by simp [results, Try.results23, go_sem, r0, r1, r2, r3]) rfl (MadeIf.no (by rw [Hv.out, Hq.out]; rfl) ⟨_, rfl, HE.out.1, HE.out.2⟩)
    · have Hq := Lib.hid hq
      have hq' : 0 ≤ k ∧ k ≤ 3 := by simpa [inQ] using hq
      obtain ⟨K, rfl⟩ := Int.eq_ofNat_of_zero_le hq'.1
      have hK : K ≤ 3 := by omega
      have Hxs : Hid (xs.length ≤ 1024) := Lib.hid (by rw [HLn.out]; have h1 := Nat.mul_le_mul hW hH; have := Nat.mul_le_mul h1 hP; omega)
      clear hq hq'
      go_wp2_with fail
      refine (sCopyImage_any W H P A c xs u1 Hx1.out (by omega)).mono ?_
      rintro e u2 ⟨v2, rfl, hO2, hB2⟩
      obtain ⟨A2, c2, rfl, hc2⟩ := hO2.slice
      obtain ⟨b3, hb3⟩ : ∃ b3, b3 = u2.heap.size := ⟨_, rfl⟩
      obtain ⟨n2, hn2⟩ : ∃ n2, n2 = xs.length := ⟨_, rfl⟩
      have hbz : w.heap.size + 2 ≤ b3 := by have := hB2.size; omega
      have hne : w.heap.size + 1 ≠ b3 := by omega
      rw [← hn2]
      have HI0 : Hid (Own (u2.alloc (.cells #[.int .i64 (W : Int), .int .i64 (H : Int), .int .i64 (P : Int), .slice A2 n2 c2] 25)) (w.heap.size + 2) (.slice A2 n2 c2) (turL W H P xs 0) ∧ n2 = (turL W H P xs 0).length ∧ n2 ≤ c2 ∧ (W = (tdim W H 0).1 ∧ H = (tdim W H 0).2) ∧ Bx (u2.alloc (.cells #[.int .i64 (W : Int), .int .i64 (H : Int), .int .i64 (P : Int), .slice A2 n2 c2] 25)) (w.heap.size + 1) 25 (imC 0 0 0 (.slice none 0 0)) ∧ Bx (u2.alloc (.cells #[.int .i64 (W : Int), .int .i64 (H : Int), .int .i64 (P : Int), .slice A2 n2 c2] 25)) b3 25 (imC W H P (.slice A2 n2 c2)) ∧ Below w.heap.size w (u2.alloc (.cells #[.int .i64 (W : Int), .int .i64 (H : Int), .int .i64 (P : Int), .slice A2 n2 c2] 25))) :=
        Lib.hid ⟨by rw [turL_zero HLn.out, hn2]; exact (hO2.alloc _).base_le (by omega), by rw [turL_zero HLn.out]; exact hn2, by omega, ⟨rfl, rfl⟩, (HR.out.below hB2).alloc _, by rw [hb3]; exact Bx.new u2 _ _, (HB1.out.trans (hB2.mono (by omega))).alloc (by omega) _⟩
      have HB3 := Lib.hid hb3
      clear hO2 hB2 hb3 hn2 hc2 m0 m1 m2 m3
      go_wp2
      (try rw [← HB3.out])
      clear HB3
      go_loopw [6] (fun iv wr => ∃ (j D E n1 c1 : Nat) (A1 : Option Addr), j ≤ K ∧ iv = .int .i64 (j : Int) ∧ Hid (Own wr (w.heap.size + 2) (.slice A1 n1 c1) (turL W H P xs j) ∧ n1 = (turL W H P xs j).length ∧ n1 ≤ c1 ∧ (D = (tdim W H j).1 ∧ E = (tdim W H j).2) ∧ Bx wr (w.heap.size + 1) 25 (imC 0 0 0 (.slice none 0 0)) ∧ Bx wr b3 25 (imC D E P (.slice A1 n1 c1)) ∧ Below w.heap.size w wr)) (fun iv _ => K - (intOf iv).toNat)
      case atStart => exact ⟨0, W, H, n2, c2, A2, Nat.zero_le _, rfl, HI0⟩
      case round =>
        obtain ⟨j, D, E, n1, c1, A1, hj, rfl, hI⟩ := hrel
        clear HI0
        obtain ⟨hO, hn, hc1, hDE, hRr, hT, hB⟩ := hI.out
        have hbd := tdim_bd hW1 hW hH1 hH j
        have hD : 1 ≤ D ∧ D ≤ 16 ∧ 1 ≤ E ∧ E ≤ 16 := by rw [hDE.1, hDE.2]; exact hbd
        obtain ⟨hD1, hD16, hE1, hE16⟩ := hD
        have HOl := Lib.hid (turL_len W H P xs j)
        obtain ⟨t0, t1, t2, t3⟩ := hT.im
        have htl := hT.lt
        have Hn := Lib.hid hn
        have HDE := Lib.hid hDE
        have HO := Lib.hid hO
        have HRr := Lib.hid hRr
        have HT := Lib.hid hT
        have HB := Lib.hid hB
        clear hI hbd hn hDE hO hRr hT hB
        by_cases hlt : j < K
        · go_wp2_with fail
          have hcall := sTurn_any D E P hD1 hD16 hE1 hE16 hP1 hP A1 c1 (turL W H P xs j) (by rw [HOl.out, HDE.out.1, HDE.out.2]) (by rw [← Hn.out]; exact hc1) wr HO.out.rds.2
          rw [← Hn.out] at hcall
          refine hcall.mono ?_
          clear hcall
          rintro e w5 ⟨v5, rfl, hO5, hB5⟩
          obtain ⟨A5, c5, rfl, hc5⟩ := hO5.slice
          have hT5 := HT.out.below hB5
          have hRr5 := HRr.out.below hB5
          have hz5 := hB5.size
          have hrl := HRr.out.lt
          obtain ⟨s0, s1, s2, s3⟩ := hT5.im
          have g0 := hT5.fz 0
          have g1 := hT5.fz 1
          have g2 := hT5.fz 2
          have g3 := hT5.fz 3
          have hSucc : img E D P (fun X Y => pxc D P (turL W H P xs j) Y (E - 1 - X)) = turL W H P xs (j + 1) := by
            rw [HDE.out.1, HDE.out.2]; exact turL_succ xs j (by rw [← HDE.out.2]; exact hE1)
          rw [hSucc] at hO5 hc5 ⊢
          obtain ⟨n5, hn5⟩ : ∃ n5, n5 = (turL W H P xs (j + 1)).length := ⟨_, rfl⟩
          rw [← hn5] at hO5 hc5 ⊢
          have HN : Hid (∀ q0 q1 q2 q3 : Value, q0 = .int .i64 (E : Int) → q1 = .int .i64 (D : Int) → q2 = .int .i64 (P : Int) → q3 = .slice A5 n5 c5 → (Own ((((w5.setCell ⟨b3, 0, none⟩ q0).setCell ⟨b3, 1, none⟩ q1).setCell ⟨b3, 2, none⟩ q2).setCell ⟨b3, 3, none⟩ q3) (w.heap.size + 2) (.slice A5 n5 c5) (turL W H P xs (j + 1)) ∧ n5 = (turL W H P xs (j + 1)).length ∧ n5 ≤ c5 ∧ (E = (tdim W H (j + 1)).1 ∧ D = (tdim W H (j + 1)).2) ∧ Bx ((((w5.setCell ⟨b3, 0, none⟩ q0).setCell ⟨b3, 1, none⟩ q1).setCell ⟨b3, 2, none⟩ q2).setCell ⟨b3, 3, none⟩ q3) (w.heap.size + 1) 25 (imC 0 0 0 (.slice none 0 0)) ∧ Bx ((((w5.setCell ⟨b3, 0, none⟩ q0).setCell ⟨b3, 1, none⟩ q1).setCell ⟨b3, 2, none⟩ q2).setCell ⟨b3, 3, none⟩ q3) b3 25 (imC E D P (.slice A5 n5 c5)) ∧ Below w.heap.size w ((((w5.setCell ⟨b3, 0, none⟩ q0).setCell ⟨b3, 1, none⟩ q1).setCell ⟨b3, 2, none⟩ q2).setCell ⟨b3, 3, none⟩ q3))) := Lib.hid (by
            intro q0 q1 q2 q3 e0 e1 e2 e3
            have hBB : Below w.heap.size w w5 := HB.out.trans (hB5.mono HB.out.size)
            refine ⟨((((hO5.setB (p := ⟨b3, 0, none⟩) htl q0).setB (p := ⟨b3, 1, none⟩) htl q1).setB (p := ⟨b3, 2, none⟩) htl q2).setB (p := ⟨b3, 3, none⟩) htl q3).base_le (by omega), hn5, hc5, ⟨by rw [HDE.out.2]; rfl, by rw [HDE.out.1]; rfl⟩, bx_sets4 hRr5 hne q0 q1 q2 q3, ?_, ?_⟩
            · subst e0 e1 e2 e3; exact bx_put4 hT5 _ _ _ _
            · exact (((hBB.setCell (p := ⟨b3, 0, none⟩) (by show _ ≤ b3; omega) q0).setCell (p := ⟨b3, 1, none⟩) (by show _ ≤ b3; omega) q1).setCell (p := ⟨b3, 2, none⟩) (by show _ ≤ b3; omega) q2).setCell (p := ⟨b3, 3, none⟩) (by show _ ≤ b3; omega) q3)
          clear hO5 hB5 hT5 hRr5 hSucc hn5 hc5 t0 t1 t2 t3 HO HRr HT HB Hn HOl HDE hz5
          go_wp2
          go_roundw
          case rel => exact ⟨j + 1, E, D, n5, c5, A5, by omega, by go_num, Lib.hid (HN.out _ _ _ _ rfl rfl rfl rfl)⟩
          case measure => simp [intOf]; omega
        · have hjK : j = K := by omega
          have hRr := HRr.out
          obtain ⟨r0, r1, r2, r3⟩ := hRr.im
          have f0 := hRr.fz 0
          have f1 := hRr.fz 1
          have f2 := hRr.fz 2
          have f3 := hRr.fz 3
          have HE := Lib.hid (im_end (w := w) (r := w.heap.size + 1) (base := w.heap.size + 2) HO.out (by omega) (by omega) HB.out (.int .i64 (D : Int)) (.int .i64 (E : Int)) (.int .i64 (P : Int)) (.slice A1 n1 c1))
          have HK := Lib.hid hjK
          clear hRr hjK
          go_wp2
          refine bodyPost_ret (v := .agg #[.int .i64 (D : Int), .int .i64 (E : Int), .int .i64 (P : Int), .slice A1 n1 c1]) (by simp [results, Try.results23, go_sem, r0, r1, r2, r3]) rfl (MadeIf.yes (by rw [Hv.out, Hq.out]; rfl) ?_)
          have h1 := HDE.out
          have h2 := HK.out
          subst h2
          rw [h1.1, h1.2] at HE ⊢
          exact ⟨_, rfl, HE.out.1, HE.out.2⟩
end Go.Proofs.Ytpgicdnbdjdceaa
