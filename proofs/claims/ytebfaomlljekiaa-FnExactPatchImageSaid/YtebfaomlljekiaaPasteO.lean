/- Contract of paste in the model, the part in any block but the image's. -/
import Derived.Test.YtebfaomlljekiaaPasteS
namespace Go.Proofs.Ytebfaomlljekiaa
open Go.RowKit Go.Shelf
set_option linter.unusedSimpArgs false
set_option linter.unusedVariables false

theorem Rds.growOff {k : IntKind} {w w' : World} {B g : Nat} {A : Option Addr} {xs : List Int} (h : Rds k w B A xs) (hG : w.grownBy w' (some g)) (hB : B ≤ w.heap.size) (hA : ∀ a : Addr, A = some a → a.block ≠ g) : Rds k w' B A xs := by
  rcases h with h | ⟨b, off, rfl, hb, hc⟩
  · exact .inl h
  · exact .inr ⟨b, off, rfl, hb, fun j hj => (World.cell?_of_block (hG.block b (by omega) (fun e => by injection e with e; exact hA _ rfl e))).trans (hc j hj)⟩
set_option maxHeartbeats 8000000 in
theorem paste_off (W H P PW PH : Nat) (hW1 : 1 ≤ W) (hW : W ≤ 16) (hH1 : 1 ≤ H) (hH : H ≤ 16) (hP1 : 1 ≤ P) (hP : P ≤ 4) (hPW : PW ≤ 16) (hPH : PH ≤ 16) (X Y : Int) (hX0 : -16 ≤ X) (hX1 : X ≤ 16) (hY0 : -16 ≤ Y) (hY1 : Y ≤ 16) (base B g c2 n : Nat) (ys0 : List Int) (hn : n = ys0.length) (hl : ys0.length = W * H * P)
    (A : Option Addr) (c : Nat) (ps : List Int) (hpl : ps.length = PW * PH * P) (hpc : ps.length ≤ c) (w : World) (hO : Own w base (.slice (some ⟨g, 0, none⟩) n c2) ys0) (hx : Rds .i64 w B A ps) (hBw : B ≤ w.heap.size) (hA : ∀ a : Addr, A = some a → a.block ≠ g) :
    Calls Try.prog 113 #[.agg #[.int .i64 (W : Int), .int .i64 (H : Int), .int .i64 (P : Int), .slice (some ⟨g, 0, none⟩) n c2], .int .i64 X, .int .i64 Y, .agg #[.int .i64 (PW : Int), .int .i64 (PH : Int), .int .i64 (P : Int), .slice A ps.length c]] w
      fun e w' => e = .returned (.tuple #[]) ∧ Own w' base (.slice (some ⟨g, 0, none⟩) n c2) (img W H P (paF (px PW P ps) (px W P ys0) X Y PW PH 0)) ∧ w.grownBy w' (some g) := by
  have hgw := (hO.lt g rfl).2
  obtain ⟨M, hM0⟩ : ∃ M, M = px W P ys0 := ⟨_, rfl⟩
  obtain ⟨u1, hu⟩ : ∃ u1, u1 = (w.alloc (.cells #[.int .i64 (W : Int), .int .i64 (H : Int), .int .i64 (P : Int), .slice (some ⟨g, 0, none⟩) n c2] 25)).alloc (.cells #[.int .i64 (PW : Int), .int .i64 (PH : Int), .int .i64 (P : Int), .slice A ps.length c] 25) := ⟨_, rfl⟩
  have HI0 : Hid (Own u1 base (.slice (some ⟨g, 0, none⟩) n c2) ys0 ∧ n = ys0.length ∧ Pst W H P (px PW P ps) M X Y PW 0 0 ys0 ∧ Bx u1 w.heap.size 25 (imC W H P (.slice (some ⟨g, 0, none⟩) n c2)) ∧ Bx u1 (w.heap.size + 1) 25 (imC PW PH P (.slice A ps.length c)) ∧ w.grownBy u1 (some g)) :=
    Lib.hid ⟨by rw [hu]; exact (hO.alloc _).alloc _, hn, by rw [hM0]; exact Pst.start hl, by rw [hu]; exact (Bx.new w 25 _).alloc _, by rw [hu]; have := Bx.new (w.alloc (.cells #[.int .i64 (W : Int), .int .i64 (H : Int), .int .i64 (P : Int), .slice (some ⟨g, 0, none⟩) n c2] 25)) 25 (imC PW PH P (.slice A ps.length c)); simpa [imC] using this, by rw [hu]; exact gtrans (World.grownBy_alloc w _ _) (World.grownBy_alloc _ _ _)⟩
  have Hx := Lib.hid hx
  have HA := Lib.hid hA
  clear hA
  have HLn := Lib.hid hpl
  have HU := Lib.hid hu
  rw [← hM0]
  clear hx hu hl hpl hM0 hO hn
  obtain ⟨m0, m1, m2, m3⟩ := HI0.out.2.2.2.1.im
  go_enter Try.func113, Try.ntmps113
  go_wp2
  rw [← HU.out]
  clear HU m0 m1 m2 m3
  go_loopw [8] (fun iy wr => ∃ (y : Nat) (ys : List Int), y ≤ PH ∧ iy = .int .i64 y ∧ Hid (Own wr base (.slice (some ⟨g, 0, none⟩) n c2) ys ∧ n = ys.length ∧ Pst W H P (px PW P ps) M X Y PW y 0 ys ∧ Bx wr w.heap.size 25 (imC W H P (.slice (some ⟨g, 0, none⟩) n c2)) ∧ Bx wr (w.heap.size + 1) 25 (imC PW PH P (.slice A ps.length c)) ∧ w.grownBy wr (some g))) (fun iy _ => PH - (intOf iy).toNat)
  case atStart => exact ⟨0, _, Nat.zero_le _, rfl, HI0⟩
  case round =>
    obtain ⟨y, ys, hy, rfl, hI⟩ := hrel
    obtain ⟨hO, hn, hF, hM, hT, hG⟩ := hI.out
    obtain ⟨t0, t1, t2, t3⟩ := hT.im
    by_cases hylt : y < PH
    · clear hO hn hF hM hT hG
      go_wp2
      clear t0 t1 t2 t3
      go_loopw [9] (fun ix wr => ∃ (x : Nat) (ys : List Int), x ≤ PW ∧ ix = .int .i64 x ∧ Hid (Own wr base (.slice (some ⟨g, 0, none⟩) n c2) ys ∧ n = ys.length ∧ Pst W H P (px PW P ps) M X Y PW y x ys ∧ Bx wr w.heap.size 25 (imC W H P (.slice (some ⟨g, 0, none⟩) n c2)) ∧ Bx wr (w.heap.size + 1) 25 (imC PW PH P (.slice A ps.length c)) ∧ w.grownBy wr (some g))) (fun ix _ => PW - (intOf ix).toNat)
      case atStart => exact ⟨0, ys, Nat.zero_le _, rfl, hI⟩
      case round =>
        obtain ⟨x, ys, hxx, rfl, hJ⟩ := hrel
        clear hI HI0
        obtain ⟨hO, hn, hF, hM, hT, hG⟩ := hJ.out
        obtain ⟨m0, m1, m2, m3⟩ := hM.im
        obtain ⟨t0, t1, t2, t3⟩ := hT.im
        by_cases hxlt : x < PW
        · have HO := Lib.hid hO
          have HF := Lib.hid hF
          have HM := Lib.hid hM
          have HT := Lib.hid hT
          have HG := Lib.hid hG
          have Hn := Lib.hid hn
          have hwr := hG.size
          clear hO hn hF hM hT hG hJ
          have rw0 : IntKind.i64.wrap (X + (x : Int)) = X + (x : Int) := IntWalk.i64_in _ (by omega)
          have rw1 : IntKind.i64.wrap (Y + (y : Int)) = Y + (y : Int) := IntWalk.i64_in _ (by omega)
          go_wp2_with fail
          refine (sPlace_any W H P _ (X + (x : Int)) (Y + (y : Int)) ⟨by omega, by omega⟩ ⟨by omega, by omega⟩ wr).mono ?_
          rintro e wq ⟨rfl, hBq⟩
          have HO' := Lib.hid (HO.out.below hBq (Nat.le_refl _))
          have HM' := Lib.hid (HM.out.below hBq)
          have HT' := Lib.hid (HT.out.below hBq)
          have HG' := Lib.hid (gtrans HG.out (grown_of_below hBq _))
          have hwq : w.heap.size ≤ wq.heap.size := Nat.le_trans hwr hBq.size
          clear m0 m1 m2 m3 t0 t1 t2 t3 hBq HO HM HT HG hwr
          cases ho : onIm W H (X + (x : Int)) (Y + (y : Int))
          · have HN : Hid (Own wq base (.slice (some ⟨g, 0, none⟩) n c2) ys ∧ n = ys.length ∧ Pst W H P (px PW P ps) M X Y PW y (x + 1) ys ∧ Bx wq w.heap.size 25 (imC W H P (.slice (some ⟨g, 0, none⟩) n c2)) ∧ Bx wq (w.heap.size + 1) 25 (imC PW PH P (.slice A ps.length c)) ∧ w.grownBy wq (some g)) :=
              Lib.hid ⟨HO'.out, Hn.out, HF.out.skip (by simp only [onIm, Bool.and_eq_false_iff, decide_eq_false_iff_not] at ho; omega), HM'.out, HT'.out, HG'.out⟩
            clear ho HO' HM' HT' HG' rw0 rw1
            go_wp2
            go_roundw
            case rel => exact ⟨x + 1, _, by omega, by go_num, HN⟩
            case measure => simp [intOf]; omega
          · obtain ⟨tx, ty, htx, hty, hXt, hYt⟩ : ∃ tx ty : Nat, tx < W ∧ ty < H ∧ X + (x : Int) = tx ∧ Y + (y : Int) = ty := by
              simp only [onIm, Bool.and_eq_true, decide_eq_true_eq] at ho
              exact ⟨(X + (x : Int)).toNat, (Y + (y : Int)).toNat, by omega, by omega, by omega, by omega⟩
            have HXt := Lib.hid hXt
            have HYt := Lib.hid hYt
            have HXr := Lib.hid ((Rds.growOff Hx.out HG'.out hBw HA.out).more (show B ≤ wq.heap.size by omega))
            obtain ⟨m0, m1, m2, m3⟩ := HM'.out.im
            obtain ⟨t0, t1, t2, t3⟩ := HT'.out.im
            have hml := HM'.out.lt
            have htl := HT'.out.lt
            have hgl := (HO'.out.lt g rfl).2
            clear ho hXt hYt
            go_wp2
            go_region_held3 (fun w' => (w'.cell? ⟨w.heap.size, 0, none⟩ = some (.int .i64 (W : Int)) ∧ w'.cell? ⟨w.heap.size, 1, none⟩ = some (.int .i64 (H : Int)) ∧ w'.cell? ⟨w.heap.size, 2, none⟩ = some (.int .i64 (P : Int)) ∧ w'.cell? ⟨w.heap.size, 3, none⟩ = some (.slice (some ⟨g, 0, none⟩) n c2)) ∧ w'.cell? ⟨w.heap.size + 1, 0, none⟩ = some (.int .i64 (PW : Int)) ∧ w'.cell? ⟨w.heap.size + 1, 1, none⟩ = some (.int .i64 (PH : Int)) ∧ w'.cell? ⟨w.heap.size + 1, 2, none⟩ = some (.int .i64 (P : Int)) ∧ w'.cell? ⟨w.heap.size + 1, 3, none⟩ = some (.slice A ps.length c))
              (first | (with_reducible exact ⟨⟨k0, k1, k2, k3⟩, k4, k5, k6, k7⟩) | (with_reducible exact ⟨⟨d0, d1, d2, d3⟩, d4, d5, d6, d7⟩) | exact ⟨⟨m0, m1, m2, m3⟩, t0, t1, t2, t3⟩)
              (first | (go_at_call 155; refine (pixelAt_at PW PH P hPW hPH hP1 hP A c ps HLn.out hpc x y hxlt hylt _ _ rfl rfl _ (by exact HXr.out)).mono ?_; rintro e w5 ⟨v5, rfl, hO5, hB5⟩; obtain ⟨A5, c5, rfl, hc5⟩ := hO5.slice; obtain ⟨d0, d1, d2, d3⟩ := keep4 hB5 (by exact hml) m0 m1 m2 m3; obtain ⟨d4, d5, d6, d7⟩ := keep4 hB5 (by exact htl) t0 t1 t2 t3; have HO5 := Lib.hid hO5; have HB5 : Hid (Below wq.heap.size wq w5) := Lib.hid ((Below.refl wq.heap.size wq).drew.trans hB5); clear hO5 hB5) | (go_at_call 103; refine (setPixel_at W H P hW hH hP base g c2 n ys Hn.out HF.out.1 tx ty htx hty _ _ (by exact HXt.out) (by exact HYt.out) A5 c5 _ (pxl PW P ps x y) rfl (pxl_len _ _ _ _ _) _ (by exact HO'.out.below HB5.out (Nat.le_refl _)) (by exact HO5.out.rds.2) (fun a ha => by subst ha; have h5 := (HO5.out.lt a.block rfl).1; have : wq.heap.size ≤ a.block := h5; omega)).mono ?_; rintro e w6 ⟨rfl, hO6, hG6⟩; have hz5 := HB5.out.size; obtain ⟨k0, k1, k2, k3⟩ := keep4g hG6 (by omega) (show w.heap.size ≠ g by omega) d0 d1 d2 d3; obtain ⟨k4, k5, k6, k7⟩ := keep4g hG6 (by omega) (show w.heap.size + 1 ≠ g by omega) d4 d5 d6 d7; have HN : Hid (Own w6 base (.slice (some ⟨g, 0, none⟩) n c2) (setk W P tx ty (pxl PW P ps x y) ys P) ∧ n = (setk W P tx ty (pxl PW P ps x y) ys P).length ∧ Pst W H P (px PW P ps) M X Y PW y (x + 1) (setk W P tx ty (pxl PW P ps x y) ys P) ∧ Bx w6 w.heap.size 25 (imC W H P (.slice (some ⟨g, 0, none⟩) n c2)) ∧ Bx w6 (w.heap.size + 1) 25 (imC PW PH P (.slice A ps.length c)) ∧ w.grownBy w6 (some g)) := Lib.hid ⟨hO6, by rw [setk_len]; exact Hn.out, HF.out.step hxlt htx hty HXt.out HYt.out (fun p hp => pxl_get _ _ _ _ _ _ hp), (HM'.out.below HB5.out).kept hG6 (by simp; omega), (HT'.out.below HB5.out).kept hG6 (by simp; omega), gtrans (gtrans HG'.out (grown_of_below HB5.out _)) hG6⟩; clear hO6 hG6))
            all_goals
              clear d0 d1 d2 d3 d4 d5 d6 d7 k0 k1 k2 k3 k4 k5 k6 k7 m0 m1 m2 m3 t0 t1 t2 t3 rw0 rw1
              (try go_wp2)
              go_roundw
              case rel => exact ⟨x + 1, _, by omega, by go_num, HN⟩
              case measure => simp [intOf]; omega
        · have hxW : x = PW := by omega
          rw [hxW] at hF
          clear hxW
          have HN : Hid (Own wr base (.slice (some ⟨g, 0, none⟩) n c2) ys ∧ n = ys.length ∧ Pst W H P (px PW P ps) M X Y PW (y + 1) 0 ys ∧ Bx wr w.heap.size 25 (imC W H P (.slice (some ⟨g, 0, none⟩) n c2)) ∧ Bx wr (w.heap.size + 1) 25 (imC PW PH P (.slice A ps.length c)) ∧ w.grownBy wr (some g)) := Lib.hid ⟨hO, hn, hF.row, hM, hT, hG⟩
          clear hO hn hF hM hT hG hJ
          go_wp2
          go_roundw
          case rel => exact ⟨y + 1, ys, by omega, by go_num, HN⟩
          case measure => simp [intOf]; omega
    · have hyH : y = PH := by omega
      have hE : ys = img W H P (paF (px PW P ps) M X Y PW PH 0) := (by rw [← hyH]; exact hF.done)
      have hO' := hO
      rw [hE] at hO'
      have HE := Lib.hid hO'
      have HG := Lib.hid hG
      clear hO hn hF hM hT hG hI hE hO' hyH
      go_wp2
      go_end0
      exact ⟨rfl, HE.out, HG.out⟩
end Go.Proofs.Ytebfaomlljekiaa
