/- PasteO, DrawTwo, DrawMsk: one text of several. -/
import Derived.Test.YtlmpkanlfhjijaaPasteS
import Derived.Test.YtlmpkanlfhjijaaDrawImg2
import Derived.Test.YtlmpkanlfhjijaaGridF
import Derived.Test.YtlmpkanlfhjijaaSpecM
import Derived.Deep.RegionHeld3
import Derived.Deep.CutRange
import Derived.Test.YtlmpkanlfhjijaaGridD
namespace Go.Proofs.Ytlmpkanlfhjijaa
open Go.RowKit Go.Shelf
set_option linter.unusedSimpArgs false
set_option linter.unusedVariables false

theorem Rds.growOff {k : IntKind} {w w' : World} {B g : Nat} {A : Option Addr} {xs : List Int} (h : Rds k w B A xs) (hG : w.grownBy w' (some g)) (hB : B ≤ w.heap.size) (hA : ∀ a : Addr, A = some a → a.block ≠ g) : Rds k w' B A xs := by
  rcases h with h | ⟨b, off, rfl, hb, hc⟩
  · exact .inl h
  · exact .inr ⟨b, off, rfl, hb, fun j hj => (World.cell?_of_block (hG.block b (by omega) (fun e => by injection e with e; exact hA _ rfl e))).trans (hc j hj)⟩
set_option maxHeartbeats 8000000 in
theorem paste_off (W H P PW PH : Nat) (hW1 : 1 ≤ W) (hW : W ≤ 16) (hH1 : 1 ≤ H) (hH : H ≤ 16) (hP1 : 1 ≤ P) (hP : P ≤ 4) (hPW : PW ≤ 16) (hPH : PH ≤ 16) (X Y : Int) (hX0 : -16 ≤ X) (hX1 : X ≤ 16) (hY0 : -16 ≤ Y) (hY1 : Y ≤ 16) (base B g c2 n : Nat) (ys0 : List Int) (hn : n = ys0.length) (hl : ys0.length = W * H * P)
    (A : Option Addr) (c : Nat) (ps : List Int) (hpl : ps.length = PW * PH * P) (hpc : ps.length ≤ c) (w : World) (hO : Own w base (.slice (some ⟨g, 0, none⟩) n c2) ys0) (hx : Rds .i64 w B A ps) (hBw : B ≤ w.heap.size) (hA : ∀ a : Addr, A = some a → a.block ≠ g) :
    Calls Try.prog 45 #[.agg #[.int .i64 (W : Int), .int .i64 (H : Int), .int .i64 (P : Int), .slice (some ⟨g, 0, none⟩) n c2], .int .i64 X, .int .i64 Y, .agg #[.int .i64 (PW : Int), .int .i64 (PH : Int), .int .i64 (P : Int), .slice A ps.length c]] w
      fun e w' => e = .returned (.tuple #[]) ∧ Own w' base (.slice (some ⟨g, 0, none⟩) n c2) (img W H P (paF (px PW P ps) (px W P ys0) X Y PW PH 0)) ∧ w.grownBy w' (some g) := by
  have hgw := (hO.lt g rfl).2
  obtain ⟨M, hM0⟩ : ∃ M, M = px W P ys0 := ⟨_, rfl⟩
  obtain ⟨u1, hu⟩ : ∃ u1, u1 = (w.alloc (.cells #[.int .i64 (W : Int), .int .i64 (H : Int), .int .i64 (P : Int), .slice (some ⟨g, 0, none⟩) n c2] 25)).alloc (.cells #[.int .i64 (PW : Int), .int .i64 (PH : Int), .int .i64 (P : Int), .slice A ps.length c] 25) := ⟨_, rfl⟩
  have HI0 : Hid (Own u1 base (.slice (some ⟨g, 0, none⟩) n c2) ys0 ∧ n = ys0.length ∧ Pst W H P (px PW P ps) M X Y PW 0 0 ys0 ∧ Bx u1 w.heap.size 25 (imC W H P (.slice (some ⟨g, 0, none⟩) n c2)) ∧ Bx u1 (w.heap.size + 1) 25 (imC PW PH P (.slice A ps.length c)) ∧ w.grownBy u1 (some g)) :=
    Lib.hid ⟨by rw [hu]; exact (hO.alloc _).alloc _, hn, by rw [hM0]; exact Pst.start hl, by rw [hu]; exact (Bx.new w 25 _).alloc _, by rw [hu]; have := Bx.new (w.alloc (.cells #[.int .i64 (W : Int), .int .i64 (H : Int), .int .i64 (P : Int), .slice (some ⟨g, 0, none⟩) n c2] 25)) 25 (imC PW PH P (.slice A ps.length c)); simpa [imC] using this, by rw [hu]; exact gtrans (World.grownBy_alloc w _ _) (World.grownBy_alloc _ _ _)⟩
  have Hx := Lib.hid hx
  have HA := Lib.hid hA
  clear hA
  have HLn := Lib.hid hpl
  have HU := Lib.hid hu
  rw [← hM0]
  clear hx hu hl hpl hM0 hO hn
  obtain ⟨m0, m1, m2, m3⟩ := HI0.out.2.2.2.1.im
  go_enter Try.func45, Try.ntmps45
  go_wp2
  rw [← HU.out]
  clear HU m0 m1 m2 m3
  go_loopw [8] (fun iy wr => ∃ (y : Nat) (ys : List Int), y ≤ PH ∧ iy = .int .i64 y ∧ Hid (Own wr base (.slice (some ⟨g, 0, none⟩) n c2) ys ∧ n = ys.length ∧ Pst W H P (px PW P ps) M X Y PW y 0 ys ∧ Bx wr w.heap.size 25 (imC W H P (.slice (some ⟨g, 0, none⟩) n c2)) ∧ Bx wr (w.heap.size + 1) 25 (imC PW PH P (.slice A ps.length c)) ∧ w.grownBy wr (some g))) (fun iy _ => PH - (intOf iy).toNat)
  case atStart => exact ⟨0, _, Nat.zero_le _, rfl, HI0⟩
  case round =>
    obtain ⟨y, ys, hy, rfl, hI⟩ := hrel
    obtain ⟨hO, hn, hF, hM, hT, hG⟩ := hI.out
    obtain ⟨t0, t1, t2, t3⟩ := hT.im
    by_cases hylt : y < PH
    · clear hO hn hF hM hT hG
      go_wp2
      clear t0 t1 t2 t3
      go_loopw [9] (fun ix wr => ∃ (x : Nat) (ys : List Int), x ≤ PW ∧ ix = .int .i64 x ∧ Hid (Own wr base (.slice (some ⟨g, 0, none⟩) n c2) ys ∧ n = ys.length ∧ Pst W H P (px PW P ps) M X Y PW y x ys ∧ Bx wr w.heap.size 25 (imC W H P (.slice (some ⟨g, 0, none⟩) n c2)) ∧ Bx wr (w.heap.size + 1) 25 (imC PW PH P (.slice A ps.length c)) ∧ w.grownBy wr (some g))) (fun ix _ => PW - (intOf ix).toNat)
      case atStart => exact ⟨0, ys, Nat.zero_le _, rfl, hI⟩
      case round =>
        obtain ⟨x, ys, hxx, rfl, hJ⟩ := hrel
        clear hI HI0
        obtain ⟨hO, hn, hF, hM, hT, hG⟩ := hJ.out
        obtain ⟨m0, m1, m2, m3⟩ := hM.im
        obtain ⟨t0, t1, t2, t3⟩ := hT.im
        by_cases hxlt : x < PW
        · have HO := Lib.hid hO
          have HF := Lib.hid hF
          have HM := Lib.hid hM
          have HT := Lib.hid hT
          have HG := Lib.hid hG
          have Hn := Lib.hid hn
          have hwr := hG.size
          clear hO hn hF hM hT hG hJ
          have rw0 : IntKind.i64.wrap (X + (x : Int)) = X + (x : Int) := IntWalk.i64_in _ (by omega)
          have rw1 : IntKind.i64.wrap (Y + (y : Int)) = Y + (y : Int) := IntWalk.i64_in _ (by omega)
          go_wp2_with fail
          refine (sPlace_any W H P _ (X + (x : Int)) (Y + (y : Int)) ⟨by omega, by omega⟩ ⟨by omega, by omega⟩ wr).mono ?_
          rintro e wq ⟨rfl, hBq⟩
          have HO' := Lib.hid (HO.out.below hBq (Nat.le_refl _))
          have HM' := Lib.hid (HM.out.below hBq)
          have HT' := Lib.hid (HT.out.below hBq)
          have HG' := Lib.hid (gtrans HG.out (grown_of_below hBq _))
          have hwq : w.heap.size ≤ wq.heap.size := Nat.le_trans hwr hBq.size
          clear m0 m1 m2 m3 t0 t1 t2 t3 hBq HO HM HT HG hwr
          cases ho : onIm W H (X + (x : Int)) (Y + (y : Int))
          · have HN : Hid (Own wq base (.slice (some ⟨g, 0, none⟩) n c2) ys ∧ n = ys.length ∧ Pst W H P (px PW P ps) M X Y PW y (x + 1) ys ∧ Bx wq w.heap.size 25 (imC W H P (.slice (some ⟨g, 0, none⟩) n c2)) ∧ Bx wq (w.heap.size + 1) 25 (imC PW PH P (.slice A ps.length c)) ∧ w.grownBy wq (some g)) :=
              Lib.hid ⟨HO'.out, Hn.out, HF.out.skip (by simp only [onIm, Bool.and_eq_false_iff, decide_eq_false_iff_not] at ho; omega), HM'.out, HT'.out, HG'.out⟩
            clear ho HO' HM' HT' HG' rw0 rw1
            go_wp2
            go_roundw
            case rel => exact ⟨x + 1, _, by omega, by go_num, HN⟩
            case measure => simp [intOf]; omega
          · obtain ⟨tx, ty, htx, hty, hXt, hYt⟩ : ∃ tx ty : Nat, tx < W ∧ ty < H ∧ X + (x : Int) = tx ∧ Y + (y : Int) = ty := by
              simp only [onIm, Bool.and_eq_true, decide_eq_true_eq] at ho
              exact ⟨(X + (x : Int)).toNat, (Y + (y : Int)).toNat, by omega, by omega, by omega, by omega⟩
            have HXt := Lib.hid hXt
            have HYt := Lib.hid hYt
            have HXr := Lib.hid ((Rds.growOff Hx.out HG'.out hBw HA.out).more (show B ≤ wq.heap.size by omega))
            obtain ⟨m0, m1, m2, m3⟩ := HM'.out.im
            obtain ⟨t0, t1, t2, t3⟩ := HT'.out.im
            have hml := HM'.out.lt
            have htl := HT'.out.lt
            have hgl := (HO'.out.lt g rfl).2
            clear ho hXt hYt
            go_wp2
            go_region_held3 (fun w' => (w'.cell? ⟨w.heap.size, 0, none⟩ = some (.int .i64 (W : Int)) ∧ w'.cell? ⟨w.heap.size, 1, none⟩ = some (.int .i64 (H : Int)) ∧ w'.cell? ⟨w.heap.size, 2, none⟩ = some (.int .i64 (P : Int)) ∧ w'.cell? ⟨w.heap.size, 3, none⟩ = some (.slice (some ⟨g, 0, none⟩) n c2)) ∧ w'.cell? ⟨w.heap.size + 1, 0, none⟩ = some (.int .i64 (PW : Int)) ∧ w'.cell? ⟨w.heap.size + 1, 1, none⟩ = some (.int .i64 (PH : Int)) ∧ w'.cell? ⟨w.heap.size + 1, 2, none⟩ = some (.int .i64 (P : Int)) ∧ w'.cell? ⟨w.heap.size + 1, 3, none⟩ = some (.slice A ps.length c))
              (first | (with_reducible exact ⟨⟨k0, k1, k2, k3⟩, k4, k5, k6, k7⟩) | (with_reducible exact ⟨⟨d0, d1, d2, d3⟩, d4, d5, d6, d7⟩) | exact ⟨⟨m0, m1, m2, m3⟩, t0, t1, t2, t3⟩)
              (first | (go_at_call 73; refine (pixelAt_at PW PH P hPW hPH hP1 hP A c ps HLn.out hpc x y hxlt hylt _ _ rfl rfl _ (by exact HXr.out)).mono ?_; rintro e w5 ⟨v5, rfl, hO5, hB5⟩; obtain ⟨A5, c5, rfl, hc5⟩ := hO5.slice; obtain ⟨d0, d1, d2, d3⟩ := keep4 hB5 (by exact hml) m0 m1 m2 m3; obtain ⟨d4, d5, d6, d7⟩ := keep4 hB5 (by exact htl) t0 t1 t2 t3; have HO5 := Lib.hid hO5; have HB5 : Hid (Below wq.heap.size wq w5) := Lib.hid ((Below.refl wq.heap.size wq).drew.trans hB5); clear hO5 hB5) | (go_at_call 72; refine (setPixel_at W H P hW hH hP base g c2 n ys Hn.out HF.out.1 tx ty htx hty _ _ (by exact HXt.out) (by exact HYt.out) A5 c5 _ (pxl PW P ps x y) rfl (pxl_len _ _ _ _ _) _ (by exact HO'.out.below HB5.out (Nat.le_refl _)) (by exact HO5.out.rds.2) (fun a ha => by subst ha; have h5 := (HO5.out.lt a.block rfl).1; have : wq.heap.size ≤ a.block := h5; omega)).mono ?_; rintro e w6 ⟨rfl, hO6, hG6⟩; have hz5 := HB5.out.size; obtain ⟨k0, k1, k2, k3⟩ := keep4g hG6 (by omega) (show w.heap.size ≠ g by omega) d0 d1 d2 d3; obtain ⟨k4, k5, k6, k7⟩ := keep4g hG6 (by omega) (show w.heap.size + 1 ≠ g by omega) d4 d5 d6 d7; have HN : Hid (Own w6 base (.slice (some ⟨g, 0, none⟩) n c2) (setk W P tx ty (pxl PW P ps x y) ys P) ∧ n = (setk W P tx ty (pxl PW P ps x y) ys P).length ∧ Pst W H P (px PW P ps) M X Y PW y (x + 1) (setk W P tx ty (pxl PW P ps x y) ys P) ∧ Bx w6 w.heap.size 25 (imC W H P (.slice (some ⟨g, 0, none⟩) n c2)) ∧ Bx w6 (w.heap.size + 1) 25 (imC PW PH P (.slice A ps.length c)) ∧ w.grownBy w6 (some g)) := Lib.hid ⟨hO6, by rw [setk_len]; exact Hn.out, HF.out.step hxlt htx hty HXt.out HYt.out (fun p hp => pxl_get _ _ _ _ _ _ hp), (HM'.out.below HB5.out).kept hG6 (by simp; omega), (HT'.out.below HB5.out).kept hG6 (by simp; omega), gtrans (gtrans HG'.out (grown_of_below HB5.out _)) hG6⟩; clear hO6 hG6))
            all_goals
              clear d0 d1 d2 d3 d4 d5 d6 d7 k0 k1 k2 k3 k4 k5 k6 k7 m0 m1 m2 m3 t0 t1 t2 t3 rw0 rw1
              (try go_wp2)
              go_roundw
              case rel => exact ⟨x + 1, _, by omega, by go_num, HN⟩
              case measure => simp [intOf]; omega
        · have hxW : x = PW := by omega
          rw [hxW] at hF
          clear hxW
          have HN : Hid (Own wr base (.slice (some ⟨g, 0, none⟩) n c2) ys ∧ n = ys.length ∧ Pst W H P (px PW P ps) M X Y PW (y + 1) 0 ys ∧ Bx wr w.heap.size 25 (imC W H P (.slice (some ⟨g, 0, none⟩) n c2)) ∧ Bx wr (w.heap.size + 1) 25 (imC PW PH P (.slice A ps.length c)) ∧ w.grownBy wr (some g)) := Lib.hid ⟨hO, hn, hF.row, hM, hT, hG⟩
          clear hO hn hF hM hT hG hJ
          go_wp2
          go_roundw
          case rel => exact ⟨y + 1, ys, by omega, by go_num, HN⟩
          case measure => simp [intOf]; omega
    · have hyH : y = PH := by omega
      have hE : ys = img W H P (paF (px PW P ps) M X Y PW PH 0) := (by rw [← hyH]; exact hF.done)
      have hO' := hO
      rw [hE] at hO'
      have HE := Lib.hid hO'
      have HG := Lib.hid hG
      clear hO hn hF hM hT hG hI hE hO' hyH
      go_wp2
      go_end0
      exact ⟨rfl, HE.out, HG.out⟩
end Go.Proofs.Ytlmpkanlfhjijaa
namespace Go.Proofs.Ytlmpkanlfhjijaa
open Go.RowKit
set_option linter.unusedSimpArgs false
set_option linter.unusedVariables false
set_option maxRecDepth 20000

/-- What the drawing of two images keeps. -/
structure TwoSt (w wr : World) (g M b2 b3 b4 b5 base : Nat) (W H P : Int) (A : Option Addr) (c : Nat) (xs : List Int) (A5 : Option Addr) (c5 : Nat) (ys : List Int) : Prop where
  rd : Rdr wr g M
  gr : w.grownBy wr (some g)
  x2 : Bx wr b2 25 (imC 0 0 0 (.slice none 0 0))
  x3 : Bx wr b3 25 (imC 0 0 0 (.slice none 0 0))
  x4 : Bx wr b4 25 (imC W H P (.slice A xs.length c))
  x5 : Bx wr b5 25 (imC W H P (.slice A5 xs.length c5))
  ow : Own wr base (.slice A5 xs.length c5) ys
  ra : Rds .i64 wr base A xs
theorem TwoSt.pick {w wr w' : World} {g M b2 b3 b4 b5 base : Nat} {W H P : Int} {A : Option Addr} {c : Nat} {xs : List Int} {A5 : Option Addr} {c5 : Nat} {ys : List Int} (h : TwoSt w wr g M b2 b3 b4 b5 base W H P A c xs A5 c5 ys) (hg2 : g < b2) (h23 : g < b3) (h4 : g < b4) (h5 : g < b5) (hgb : g < base) (hbw : base ≤ wr.heap.size) (hA : ∀ a : Addr, A = some a → w.heap.size ≤ a.block) (hgw : g < w.heap.size)
    {u : World} (hu : wr.grownBy u (some g)) (hG : u.grownBy w' (some g)) (hR : Rdr w' g (M + 1)) : TwoSt w w' g (M + 1) b2 b3 b4 b5 base W H P A c xs A5 c5 ys := by
  have hG2 := gtrans hu hG
  exact ⟨hR, gtrans h.gr hG2, bx_gr h.x2 hG2 (by omega), bx_gr h.x3 hG2 (by omega), bx_gr h.x4 hG2 (by omega), bx_gr h.x5 hG2 (by omega), h.ow.off hG2 hgb, Rds.offG h.ra hbw hA hG2 hgw⟩
theorem TwoSt.more {w wr : World} {g M M' b2 b3 b4 b5 base : Nat} {W H P : Int} {A : Option Addr} {c : Nat} {xs : List Int} {A5 : Option Addr} {c5 : Nat} {ys : List Int} (h : TwoSt w wr g M b2 b3 b4 b5 base W H P A c xs A5 c5 ys) (hM : M ≤ M') : TwoSt w wr g M' b2 b3 b4 b5 base W H P A c xs A5 c5 ys := ⟨h.rd.more hM, h.gr, h.x2, h.x3, h.x4, h.x5, h.ow, h.ra⟩
theorem two_ne {wr : World} {b5 gb base n c5 : Nat} {cs : Array Value} {ys : List Int} (h5 : Bx wr b5 25 cs) (ho : Own wr base (.slice (some ⟨gb, 0, none⟩) n c5) ys) : b5 ≠ gb := by
  intro e
  subst e
  rcases ho.2 with ⟨h0, _⟩ | ⟨g, cap, cur, hv, _, hg, _⟩
  · cases h0
  · simp only [Value.slice.injEq, Option.some.injEq, Addr.mk.injEq] at hv
    obtain ⟨⟨rfl, _⟩, _⟩ := hv
    have := h5.symm.trans hg
    simp at this
theorem two_put {w wr : World} {g M b2 b3 b4 b5 base : Nat} {W H P : Int} {A : Option Addr} {c : Nat} {xs : List Int} {gb c5 : Nat} {ys : List Int} (h : TwoSt w wr g M b2 b3 b4 b5 base W H P A c xs (some ⟨gb, 0, none⟩) c5 ys) (hyl : ys.length = xs.length) (hgb : base ≤ gb) (ob : g < base) (hwb : w.heap.size ≤ base) (h2 : b2 < base) (h3 : b3 < base) (h4 : b4 < base) (j : Nat) (v : Int) :
    TwoSt w (wr.setCell ⟨gb, j, none⟩ (.int .i64 v)) g M b2 b3 b4 b5 base W H P A c xs (some ⟨gb, 0, none⟩) c5 (ys.set j v) := by
  have hne := two_ne h.x5 h.ow
  have hp := h.ow.put hyl.symm j v
  refine ⟨h.rd.grown hp.2 (fun k hk => by cases hk; omega), ?_, bx_set h.x2 (by omega) _, bx_set h.x3 (by omega) _, bx_set h.x4 (by omega) _, bx_set h.x5 hne _, hp.1, ?_⟩
  · exact ⟨h.gr.os, h.gr.tape, h.gr.output, by have := h.gr.size; simp [World.setCell]; omega, fun i hi hne => (heap_setCell_other wr ⟨gb, j, none⟩ i _ (fun e => by have : i = gb := e; omega)).trans (h.gr.block i hi hne)⟩
  · rcases h.ra with h | ⟨b, off, rfl, hb1, hc⟩
    · exact .inl h
    · have hb : b ≠ gb := by omega
      exact .inr ⟨b, off, rfl, hb1, fun i hi => (World.cell?_setCell_other _ ⟨gb, j, none⟩ ⟨b, off + i, none⟩ _ (fun e => by injection e with e1; exact hb e1.symm)).trans (hc i hi)⟩
theorem two_mid {w u4 u5 u6 : World} {g M b2 b3 b4 b5 base r : Nat} {W H P : Int} {A : Option Addr} {c : Nat} {xs : List Int} {A5 : Option Addr} {c5 : Nat} (hR : Rdr u4 g M) (hG4 : w.grownBy u4 (some g)) (h2 : Bx u4 b2 25 (imC 0 0 0 (.slice none 0 0))) (h3 : Bx u4 b3 25 (imC 0 0 0 (.slice none 0 0))) (h4 : Bx u4 b4 25 (imC W H P (.slice A xs.length c))) (hra : Rds .i64 u4 u4.heap.size A xs)
    (hB : Below u4.heap.size u4 u5) (hG : u5.grownBy u6 (some r)) (hr : u4.heap.size ≤ r) (hb : u4.heap.size ≤ base) (h5 : Bx u6 b5 25 (imC W H P (.slice A5 xs.length c5))) (hO : Own u6 base (.slice A5 xs.length c5) xs) : TwoSt w u6 g M b2 b3 b4 b5 base W H P A c xs A5 c5 xs := by
  have hG0 : u4.grownBy u5 (some r) := ⟨hB.os, hB.tape, hB.output, hB.size, fun k hk _ => hB.block k hk⟩
  have hG6 := gtrans hG0 hG
  have hg := hR.lt
  have l2 := h2.lt
  have l3 := h3.lt
  have l4 := h4.lt
  have hn : w.grownBy u6 (some g) := ⟨hG6.os.trans hG4.os, hG6.tape.trans hG4.tape, hG6.output.trans hG4.output, Nat.le_trans hG4.size hG6.size, fun k hk hne => (hG6.block k (Nat.lt_of_lt_of_le hk hG4.size) (by have := hG4.size; simp; omega)).trans (hG4.block k hk hne)⟩
  refine ⟨hR.grown hG6 (fun k hk => by injection hk with hk; omega), hn, h2.kept hG6 (by simp; omega), h3.kept hG6 (by simp; omega), h4.kept hG6 (by simp; omega), h5, hO, ?_⟩
  rcases hra with h | ⟨b, off, rfl, hb1, hc⟩
  · exact .inl h
  · exact .inr ⟨b, off, rfl, by omega, fun j hj => (World.cell?_of_block (hG6.block b hb1 (by simp; omega))).trans (hc j hj)⟩
theorem two_set (u : World) (r : Nat) (v0 v1 v2 v3 : Value) : u.grownBy ((((u.setCell ⟨r, 0, none⟩ v0).setCell ⟨r, 1, none⟩ v1).setCell ⟨r, 2, none⟩ v2).setCell ⟨r, 3, none⟩ v3) (some r) := gtrans (gtrans (gtrans (hset r u 0 v0) (hset r _ 1 v1)) (hset r _ 2 v2)) (hset r _ 3 v3)
theorem two_box {u : World} {r : Nat} {T : TypeId} {a0 a1 a2 a3 : Value} (h : Bx u r T #[a0, a1, a2, a3]) (v0 v1 v2 v3 : Value) : Bx ((((u.setCell ⟨r, 0, none⟩ v0).setCell ⟨r, 1, none⟩ v1).setCell ⟨r, 2, none⟩ v2).setCell ⟨r, 3, none⟩ v3) r T #[v0, v1, v2, v3] := by
  have h1 := heap_setCell_same u r 0 _ T v0 h
  have h2 := heap_setCell_same _ r 1 _ T v1 h1
  have h3 := heap_setCell_same _ r 2 _ T v2 h2
  have h4 := heap_setCell_same _ r 3 _ T v3 h3
  simpa [Bx] using h4
abbrev s4 (u : World) (r : Nat) (v0 v1 v2 v3 : Value) : World := (((u.setCell ⟨r, 0, none⟩ v0).setCell ⟨r, 1, none⟩ v1).setCell ⟨r, 2, none⟩ v2).setCell ⟨r, 3, none⟩ v3
theorem s4_size (u : World) (r : Nat) (v0 v1 v2 v3 : Value) : (s4 u r v0 v1 v2 v3).heap.size = u.heap.size := by simp [s4, World.setCell]
theorem s4_bx {u : World} {r b : Nat} {T : TypeId} {cs : Array Value} (h : Bx u b T cs) (hne : b ≠ r) (v0 v1 v2 v3 : Value) : Bx (s4 u r v0 v1 v2 v3) b T cs := bx_set (bx_set (bx_set (bx_set h hne v0) hne v1) hne v2) hne v3
theorem s4_rds {u : World} {r : Nat} {A : Option Addr} {xs : List Int} (h : Rds .i64 u u.heap.size A xs) (hA : ∀ a : Addr, A = some a → a.block ≠ r) (v0 v1 v2 v3 : Value) : Rds .i64 (s4 u r v0 v1 v2 v3) (s4 u r v0 v1 v2 v3).heap.size A xs := by
  rcases h with h | ⟨b, off, rfl, hb, hcl⟩
  · exact .inl h
  · have hne : b ≠ r := hA _ rfl
    exact ((((Rds.setOff (.inr ⟨b, off, rfl, hb, hcl⟩ : Rds .i64 u u.heap.size (some ⟨b, off, none⟩) xs) hne v0).setOff hne v1).setOff hne v2).setOff hne v3).more (by rw [s4_size]; exact Nat.le_refl _)
theorem s4_rds2 {u u4 : World} {r B : Nat} {A : Option Addr} {xs : List Int} (h : Rds .i64 u B A xs) (h4 : Rds .i64 u4 u4.heap.size A xs) (hr : u4.heap.size ≤ r) (hB : B ≤ u.heap.size) (v0 v1 v2 v3 : Value) : Rds .i64 (s4 u r v0 v1 v2 v3) (s4 u r v0 v1 v2 v3).heap.size A xs := by
  rcases h with h | ⟨b, off, rfl, hb, hcl⟩
  · exact .inl h
  · rcases h4 with h | ⟨b', off', e, hb', _⟩
    · exact .inl h
    · cases e
      have hne : b ≠ r := by omega
      exact ((((Rds.setOff (.inr ⟨b, off, rfl, by omega, hcl⟩ : Rds .i64 u u.heap.size (some ⟨b, off, none⟩) xs) hne v0).setOff hne v1).setOff hne v2).setOff hne v3).more (by rw [s4_size]; exact Nat.le_refl _)
theorem s4_rdr {u : World} {r g M : Nat} (h : Rdr u g M) (hr : g < r) (v0 v1 v2 v3 : Value) : Rdr (s4 u r v0 v1 v2 v3) g M := h.grown (two_set u r v0 v1 v2 v3) (fun k hk => by cases hk; exact hr)
theorem s4_gr {w u : World} {r g : Nat} (h : w.grownBy u (some g)) (hr : w.heap.size ≤ r) (v0 v1 v2 v3 : Value) : w.grownBy (s4 u r v0 v1 v2 v3) (some g) := by
  have k := two_set u r v0 v1 v2 v3
  exact ⟨k.os.trans h.os, k.tape.trans h.tape, k.output.trans h.output, Nat.le_trans h.size k.size, fun i hi hne => (k.block i (Nat.lt_of_lt_of_le hi h.size) (by simp; omega)).trans (h.block i hi hne)⟩
/-- Before the answer is stored. -/
structure TwoE (w u : World) (g M b2 b3 b4 b5 : Nat) (W H P : Int) (A : Option Addr) (c : Nat) (xs : List Int) (W' H' P' : Int) (A' : Option Addr) (c' : Nat) (ys : List Int) : Prop where
  rd : Rdr u g M
  gr : w.grownBy u (some g)
  x2 : Bx u b2 25 (imC 0 0 0 (.slice none 0 0))
  x3 : Bx u b3 25 (imC 0 0 0 (.slice none 0 0))
  x4 : Bx u b4 25 (imC W H P (.slice A xs.length c))
  x5 : Bx u b5 25 (imC W' H' P' (.slice A' ys.length c'))
  ra : Rds .i64 u u.heap.size A xs
  rb : Rds .i64 u u.heap.size A' ys
/-- Drawn: two images. -/
def DrawnTwo (g N : Nat) (w : World) (e : Ending) (w' : World) : Prop :=
  ∃ (W H P : Int) (A : Option Addr) (c : Nat) (xs : List Int) (W' H' P' : Int) (A' : Option Addr) (c' : Nat) (ys : List Int), e = .returned (.tuple #[.agg #[.int .i64 W, .int .i64 H, .int .i64 P, .slice A xs.length c], .agg #[.int .i64 W', .int .i64 H', .int .i64 P', .slice A' ys.length c']]) ∧ (xs.length ≤ 256 ∧ ys.length ≤ 256) ∧ xs.length ≤ c ∧ ys.length ≤ c' ∧ Rds .i64 w' w'.heap.size A xs ∧ Rds .i64 w' w'.heap.size A' ys ∧ Rdr w' g N ∧ w.grownBy w' (some g) ∧ (∀ a : Addr, A = some a → w.heap.size + 2 ≤ a.block) ∧ (∀ a : Addr, A' = some a → w.heap.size + 2 ≤ a.block)
theorem DrawnTwo.drew {g N : Nat} {w w' : World} {e : Ending} (h : DrawnTwo g N w e w') : DrawnTwo g N w e w'.drew := by
  obtain ⟨W, H, P, A, c, xs, W', H', P', A', c', ys, h0, h1, h2, h3, h4, h5, h6, h7, h8⟩ := h
  exact ⟨W, H, P, A, c, xs, W', H', P', A', c', ys, h0, h1, h2, h3, h4, h5, h6, ⟨h7.os, h7.tape, h7.output, h7.size, h7.block⟩, h8⟩
theorem TwoE.ret {w u : World} {g M N b2 b3 b4 b5 : Nat} {W H P : Int} {A : Option Addr} {c : Nat} {xs : List Int} {W' H' P' : Int} {A' : Option Addr} {c' : Nat} {ys : List Int} (h : TwoE w u g M b2 b3 b4 b5 W H P A c xs W' H' P' A' c' ys) (h2 : b2 = w.heap.size) (h3 : b3 = w.heap.size + 1) (hgl : g < w.heap.size) (hM : M ≤ N)
    (hl : xs.length ≤ 256 ∧ ys.length ≤ 256) (hc : xs.length ≤ c) (hc' : ys.length ≤ c') (hA : ∀ a : Addr, A = some a → w.heap.size + 2 ≤ a.block) (hA' : ∀ a : Addr, A' = some a → w.heap.size + 2 ≤ a.block) (v0 v1 v2 v3 q0 q1 q2 q3 : Value) :
    DrawnTwo g N w (.returned (.tuple #[.agg #[.int .i64 W, .int .i64 H, .int .i64 P, .slice A xs.length c], .agg #[.int .i64 W', .int .i64 H', .int .i64 P', .slice A' ys.length c']])) (s4 (s4 u b2 v0 v1 v2 v3) b3 q0 q1 q2 q3) ∧
    DrawnTwo g N w (.returned (.tuple #[.agg #[.int .i64 W, .int .i64 H, .int .i64 P, .slice A xs.length c], .agg #[.int .i64 W', .int .i64 H', .int .i64 P', .slice A' ys.length c']])) (s4 (s4 u b3 q0 q1 q2 q3) b2 v0 v1 v2 v3) := by
  have a2 : ∀ a : Addr, A = some a → a.block ≠ b2 := fun a e => by have := hA a e; omega
  have a3 : ∀ a : Addr, A = some a → a.block ≠ b3 := fun a e => by have := hA a e; omega
  have c2 : ∀ a : Addr, A' = some a → a.block ≠ b2 := fun a e => by have := hA' a e; omega
  have c3 : ∀ a : Addr, A' = some a → a.block ≠ b3 := fun a e => by have := hA' a e; omega
  exact ⟨⟨W, H, P, A, c, xs, W', H', P', A', c', ys, rfl, hl, hc, hc', s4_rds (s4_rds h.ra a2 _ _ _ _) a3 _ _ _ _, s4_rds (s4_rds h.rb c2 _ _ _ _) c3 _ _ _ _, (s4_rdr (s4_rdr h.rd (by omega) _ _ _ _) (by omega) _ _ _ _).more hM, s4_gr (s4_gr h.gr (by omega) _ _ _ _) (by omega) _ _ _ _, hA, hA'⟩,
    ⟨W, H, P, A, c, xs, W', H', P', A', c', ys, rfl, hl, hc, hc', s4_rds (s4_rds h.ra a3 _ _ _ _) a2 _ _ _ _, s4_rds (s4_rds h.rb c3 _ _ _ _) c2 _ _ _ _, (s4_rdr (s4_rdr h.rd (by omega) _ _ _ _) (by omega) _ _ _ _).more hM, s4_gr (s4_gr h.gr (by omega) _ _ _ _) (by omega) _ _ _ _, hA, hA'⟩⟩
set_option maxHeartbeats 16000000 in
theorem two_any (g N : Nat) (w : World) (h : Rdr w g N) (hN : N ≤ 100000) :
    Calls Try.prog 54 #[.pointer (some ⟨g, 0, none⟩)] w (DrawnTwo g (N + 1000) w) := by
  have hgl := h.lt
  obtain ⟨u0, hu⟩ : ∃ u0, u0 = (w.alloc (.cells #[.int .i64 0, .int .i64 0, .int .i64 0, .slice none 0 0] 25)).alloc (.cells #[.int .i64 0, .int .i64 0, .int .i64 0, .slice none 0 0] 25) := ⟨_, rfl⟩
  have Hz : Hid (u0.heap.size = w.heap.size + 2) := Lib.hid (by rw [hu]; simp)
  obtain ⟨b2, hb2⟩ : ∃ b2, b2 = w.heap.size := ⟨_, rfl⟩
  obtain ⟨b3, hb3⟩ : ∃ b3, b3 = w.heap.size + 1 := ⟨_, rfl⟩
  have HX2 : Hid (Bx u0 b2 25 (imC 0 0 0 (.slice none 0 0))) := Lib.hid (by rw [hu, hb2]; exact (Bx.new w _ _).alloc _)
  have HX3 : Hid (Bx u0 b3 25 (imC 0 0 0 (.slice none 0 0))) := Lib.hid (by rw [hu, hb3]; have := Bx.new (w.alloc (.cells #[.int .i64 0, .int .i64 0, .int .i64 0, .slice none 0 0] 25)) 25 (imC 0 0 0 (.slice none 0 0)); simpa [imC] using this)
  have HR0 : Hid (Rdr u0 g N) := Lib.hid (by rw [hu]; exact (h.alloc _).alloc _)
  have HG0 : Hid (w.grownBy u0 (some g)) := Lib.hid (by rw [hu]; exact gtrans (World.grownBy_alloc w _ _) (World.grownBy_alloc _ _ _))
  have HU := Lib.hid hu
  have Hb2 := Lib.hid hb2
  have Hb3 := Lib.hid hb3
  clear h hu hb2 hb3
  go_enter Try.func54, Try.ntmps54
  go_wp2_with fail
  rw [← HU.out, ← Hb3.out, ← Hb2.out]
  clear HU
  refine (anyImage_any g N u0 HR0.out (by omega)).mono ?_
  rintro e u1 ⟨W, H, P, A, c, xs, rfl, hx, hxc, hr1, hR1, hG1, hA1⟩
  obtain ⟨b4, hb4⟩ : ∃ b4, b4 = u1.heap.size := ⟨_, rfl⟩
  have hz1 : w.heap.size + 2 ≤ u1.heap.size := by have := hG1.size; have := Hz.out; omega
  have hG01 := gtrans HG0.out hG1
  have HX21 := bx_gr HX2.out hG1 (by have := Hb2.out; omega)
  have HX31 := bx_gr HX3.out hG1 (by have := Hb3.out; omega)
  obtain ⟨u4, hu4⟩ : ∃ u4, u4 = u1.alloc (.cells #[.int .i64 W, .int .i64 H, .int .i64 P, .slice A xs.length c] 25) := ⟨_, rfl⟩
  have HS4 : Hid (Rdr u4 g (N + 304) ∧ w.grownBy u4 (some g) ∧ Bx u4 b2 25 (imC 0 0 0 (.slice none 0 0)) ∧ Bx u4 b3 25 (imC 0 0 0 (.slice none 0 0)) ∧ Bx u4 b4 25 (imC W H P (.slice A xs.length c)) ∧ Rds .i64 u4 u4.heap.size A xs) := Lib.hid (by
    rw [hu4, hb4]
    exact ⟨hR1.alloc _, gtrans hG01 (World.grownBy_alloc _ _ _), HX21.alloc _, HX31.alloc _, Bx.new u1 _ _, (hr1.alloc (Nat.le_refl _) _).more (by simp)⟩)
  have HA : Hid (∀ a : Addr, A = some a → w.heap.size + 2 ≤ a.block) := Lib.hid (fun a ha => by have := hA1 a ha; have := Hz.out; omega)
  have Hb4 := Lib.hid (show w.heap.size + 2 ≤ b4 ∧ b4 < u4.heap.size ∧ u4.heap.size = b4 + 1 by rw [hu4, hb4]; simp; omega)
  have HU4 := Lib.hid hu4
  have hxl : xs.length ≤ 256 := hx.1
  clear hr1 hR1 hG1 hA1 hu4 hz1 hG01 HX21 HX31 HX2 HX3 HR0 HG0
  obtain ⟨m0, m1, m2, m3⟩ := HS4.out.2.2.2.2.1.im
  have hml : b4 < u4.heap.size := Hb4.out.2.1
  go_upto_region 2 with fail
  rw [← HU4.out, ← hb4]
  clear HU4 hb4
  have hg4 : g < u4.heap.size := by have := Hb4.out.1; omega
  go_cut [5] from 9 to 18 (fun s5 wx => ∃ (b5 base : Nat) (A5 : Option Addr) (c5 : Nat), s5 = .pointer (some ⟨b5, 0, none⟩) ∧ xs.length ≤ c5 ∧ Hid (u4.heap.size ≤ b5 ∧ u4.heap.size ≤ base ∧ base ≤ wx.heap.size ∧ TwoSt w wx g (N + 304) b2 b3 b4 b5 base W H P A c xs A5 c5 xs))
  case first =>
    go_region_held3 (fun w' => w'.cell? ⟨b4, 0, none⟩ = some (.int .i64 W) ∧ w'.cell? ⟨b4, 1, none⟩ = some (.int .i64 H) ∧ w'.cell? ⟨b4, 2, none⟩ = some (.int .i64 P) ∧ w'.cell? ⟨b4, 3, none⟩ = some (.slice A xs.length c))
      (first | (with_reducible exact ⟨d0, d1, d2, d3⟩) | (with_reducible exact ⟨m0, m1, m2, m3⟩) | (refine ⟨?_, ?_, ?_, ?_⟩ <;> ((repeat (first | with_reducible refine (sc4 (by omega) _ _ _ _).trans ?_)); (with_reducible first | exact d0 | exact d1 | exact d2 | exact d3))) | go_keep)
      (first | (go_at_call 85; refine (copyInts_any A c xs _ (by first | exact HS4.out.2.2.2.2.2 | exact (((show Rds .i64 u4.drew u4.drew.heap.size A xs from HS4.out.2.2.2.2.2).alloc (Nat.le_refl _) _).more (by simp))) (by omega)).mono ?_; rintro e u5 ⟨v5, rfl, hO5, hB5⟩; obtain ⟨A5, c5, rfl, hc5⟩ := hO5.slice; have HBB : Hid (Below u4.heap.size u4 u5) := Lib.hid (by first | exact (Below.refl u4.heap.size u4).drew.trans hB5 | exact ((Below.refl u4.heap.size u4).drew.alloc (Nat.le_refl _) _).trans (hB5.mono (by simp))); obtain ⟨d0, d1, d2, d3⟩ := keep4 HBB.out (by exact hml) m0 m1 m2 m3; (try (have hz : Bx u5 u4.heap.size 25 (imC 0 0 0 (.slice none 0 0)) := (Bx.new u4.drew 25 (imC 0 0 0 (.slice none 0 0))).below hB5; obtain ⟨z0, z1, z2, z3⟩ := hz.im; have z4 := hz.fz 0; have z5 := hz.fz 1; have z6 := hz.fz 2; have z7 := hz.fz 3; have z8 := hz.lt)); have HO5 := Lib.hid hO5; have HB5 := Lib.hid hB5; clear hO5 hB5))
    all_goals
      go_wp2_with fail
      go_meet
      obtain ⟨R4, G4, X2, X3, X4, RA⟩ := HS4.out
      first
        | exact ⟨u5.heap.size, u4.heap.size, A5, c5, rfl, hc5, Lib.hid ⟨HBB.out.size, Nat.le_refl _, Nat.le_trans HBB.out.size (by simp), two_mid R4 G4 X2 X3 X4 RA HBB.out (World.grownBy_alloc u5 _ (some u4.heap.size)) (Nat.le_refl _) (Nat.le_refl _) (Bx.new u5 _ _) (Own.alloc (show Own u5 u4.heap.size _ xs from HO5.out) _)⟩⟩
        | (have hO5 : Own u5 (u4.heap.size + 1) (.slice A5 xs.length c5) xs := by simpa using HO5.out
           exact ⟨u4.heap.size, u4.heap.size + 1, A5, c5, rfl, hc5, Lib.hid ⟨Nat.le_refl _, Nat.le_succ _, by (have := (two_set u5 u4.heap.size (.int .i64 W) (.int .i64 H) (.int .i64 P) (.slice A5 xs.length c5)).size; omega), two_mid R4 G4 X2 X3 X4 RA HBB.out (two_set _ _ _ _ _ _) (Nat.le_refl _) (Nat.le_succ _) (two_box hz _ _ _ _) (hO5.off (two_set _ _ _ _ _ _) (Nat.lt_succ_self _))⟩⟩)
  case rest =>
  obtain ⟨b5, base, A5, c5, rfl, hc5, HG⟩ := hcut
  obtain ⟨h5a, hba, hbw, hT0⟩ := HG.out
  have HT := Lib.hid hT0
  have HRA4 := Lib.hid HS4.out.2.2.2.2.2
  clear HG hT0 HS4 m0 m1 m2 m3 hml
  generalize wc = u6 at *
  obtain ⟨hb40, hb41, hb42⟩ := Hb4.out
  have hb2' := Hb2.out
  have hb3' := Hb3.out
  have hord : g < b2 ∧ g < b3 ∧ g < b4 ∧ g < b5 ∧ g < base ∧ b2 < b4 ∧ b3 < b4 ∧ b4 < b5 ∧ b4 < base ∧ b2 ≠ b3 := by omega
  obtain ⟨o2, o3, o4, o5, ob, o24, o34, o45, o4b, o23⟩ := hord
  have HA0 := Lib.hid (fun (a : Addr) (ha : A = some a) => (show w.heap.size ≤ a.block by have := HA.out a ha; omega))
  have hwb : w.heap.size ≤ base := by omega
  have o2b : b2 < base := by omega
  have o3b : b3 < base := by omega
  have h5b : w.heap.size + 2 ≤ base := by omega
  have h5w : w.heap.size ≤ b5 := by omega
  clear hb2' hb3' hb40 hb42
  go_wp2_with fail
  refine (pick_any 6 g (N + 304) u6 HT.out.rd (by omega) (by omega)).mono ?_
  intro e w7 hp
  obtain ⟨m, rfl, hm, hr7, hg7, hs7⟩ := picked_nat hp (by omega)
  have HT7 := Lib.hid (HT.out.pick o2 o3 o4 o5 ob hbw HA0.out hgl (World.grownBy.refl u6 (some g)) hg7 hr7)
  have hbw7 : base ≤ w7.heap.size := by omega
  have hm6 : m ≤ 6 := by omega
  clear hp hr7 hg7 hs7 HT
  go_wp2
  go_loopw [6] (fun i wr => ∃ (q : Nat) (ys : List Int), q ≤ 6 ∧ i = .int .i64 q ∧ base ≤ wr.heap.size ∧ Hid (TwoSt w wr g (N + 400 - 2 * q) b2 b3 b4 b5 base W H P A c xs A5 c5 ys)) (fun i _ => (intOf i).toNat)
  case atStart => exact ⟨m, xs, hm6, rfl, hbw7, Lib.hid (HT7.out.more (by omega))⟩
  case round =>
    clear HT7
    obtain ⟨q, ys, hq, rfl, hbr, hI⟩ := hrel
    obtain ⟨y0, y1, y2, y3⟩ := hI.out.x5.im
    have hyl : ys.length = xs.length := by
      obtain ⟨A9, c9, e9, _⟩ := hI.out.ow.slice
      simp only [Value.slice.injEq] at e9
      omega
    have hl5 := hI.out.x5.lt
    by_cases hlt : 0 < q ∧ 0 < xs.length
    · obtain ⟨hq0, hx0⟩ := hlt
      obtain ⟨gb, cap, e9, hgb, hgbl⟩ := hI.out.ow.form (by omega)
      obtain rfl : A5 = some ⟨gb, 0, none⟩ := by simp only [Value.slice.injEq] at e9; exact e9.1
      have hltI : (0 : Int) < (q : Int) := by omega
      have hlxI : (0 : Int) < (xs.length : Int) := by omega
      have Hyl := Lib.hid hyl
      have hne5 : gb ≠ b5 := fun e => two_ne hI.out.x5 hI.out.ow e.symm
      have HE9 := Lib.hid e9
      clear e9 hyl
      go_upto_region 6 with fail
      go_region_held3 (fun w' => w'.cell? ⟨b5, 3, none⟩ = some (.slice (some ⟨gb, 0, none⟩) xs.length c5))
        (first | (with_reducible exact v3) | (with_reducible exact z3) | (with_reducible exact y3) | (with_reducible exact (World.cell?_setCell_other _ ⟨gb, _, none⟩ ⟨b5, 3, none⟩ _ (fun e => by injection e with e1; exact hne5 e1)).trans v3) | go_keep)
        (first
          | (go_at_call 36; refine (pick_any 256 g (N + 400 - 2 * q + 1) u8 HT8.out.rd (by omega) (by omega)).mono ?_; intro e u9 hp9; obtain ⟨vv, rfl, hvv, hr9, hg9, hs9⟩ := picked_nat hp9 (by omega); have HT9 := Lib.hid (HT8.out.pick o2 o3 o4 o5 ob hb8 HA0.out hgl (World.grownBy.refl u8 (some g)) hg9 hr9); obtain ⟨v0, v1, v2, v3⟩ := HT9.out.x5.im; have hcw := HT9.out.ow.cell Hyl.out.symm (j := j) (by rw [Hyl.out]; exact hjx); have hfw := HT9.out.ow.frozen Hyl.out.symm j; have hb9 : base ≤ u9.heap.size := Nat.le_trans hb8 (Nat.le_of_eq hs9.symm); have hgl9 : gb < u9.heap.size := Nat.lt_of_lt_of_eq hgl8 hs9.symm; clear hp9 hr9 hg9 hs9)
          | (go_at_call 36; refine (pick_any (xs.length : Int) g (N + 400 - 2 * q) wr.drew (by exact hI.out.rd) (by omega) (by omega)).mono ?_; intro e u8 hp8; obtain ⟨j, rfl, hj, hr8, hg8, hs8⟩ := picked_nat hp8 (by omega); have HT8 := Lib.hid (hI.out.pick (u := wr.drew) o2 o3 o4 o5 ob hbr HA0.out hgl ⟨rfl, rfl, rfl, Nat.le_refl _, fun _ _ _ => rfl⟩ hg8 hr8); obtain ⟨z0, z1, z2, z3⟩ := HT8.out.x5.im; have hb8 : base ≤ u8.heap.size := Nat.le_trans hbr (Nat.le_of_eq (show wr.heap.size = u8.heap.size from hs8.symm)); have hjx : j < xs.length := Int.ofNat_lt.1 hj; have hgl8 : gb < u8.heap.size := Nat.lt_of_lt_of_eq hgbl (show wr.heap.size = u8.heap.size from hs8.symm); clear hp8 hr8 hg8 hs8))
      all_goals
        have HN := Lib.hid ((two_put HT9.out Hyl.out hgb ob hwb o2b o3b o4b j (vv : Int)).more (show N + 400 - 2 * q + 1 + 1 ≤ N + 400 - 2 * (q - 1) by omega))
        have r4 : (q : Int) - 1 = ((q - 1 : Nat) : Int) := by omega
        have hbN : base ≤ (u9.setCell ⟨gb, j, none⟩ (.int .i64 (vv : Int))).heap.size := by simpa [World.setCell] using hb9
        go_wp2
        go_roundw
        case rel => exact ⟨q - 1, ys.set j vv, by omega, by first | rfl | rw [r4], hbN, HN⟩
        case measure => simp [intOf]; omega
    · have HIe := Lib.hid (hI.out.more (show N + 400 - 2 * q ≤ N + 400 by omega))
      have Hyl := Lib.hid hyl
      clear hI hyl
      rcases (show (0 < q ∧ ¬ 0 < xs.length) ∨ ¬ 0 < q by omega) with ⟨hq0, hx0⟩ | hq0
      all_goals
        first | have hltI : (0 : Int) < (q : Int) := by omega | have hltI : ¬ (0 : Int) < (q : Int) := by omega
        (try have hlxI : ¬ (0 : Int) < (xs.length : Int) := by omega)
        go_wp2_with fail
        refine (pick_any 16 g (N + 400) wr HIe.out.rd (by omega) (by omega)).mono ?_
        intro e w10 hp
        obtain ⟨k, rfl, hk, hr10, hg10, hs10⟩ := picked_nat hp (by omega)
        have HT10 := Lib.hid (HIe.out.pick o2 o3 o4 o5 ob hbr HA0.out hgl (World.grownBy.refl wr (some g)) hg10 hr10)
        have hb10 : base ≤ w10.heap.size := Nat.le_trans hbr (Nat.le_of_eq hs10.symm)
        clear hp hr10 hg10 hs10 HIe
        have Hll : Hid (xs.length ≤ 256 ∧ ys.length ≤ 256) := Lib.hid ⟨hxl, by rw [Hyl.out]; exact hxl⟩
        have Hxc := Lib.hid hxc
        have HA5 : Hid (∀ a : Addr, A5 = some a → w.heap.size + 2 ≤ a.block) := Lib.hid (fun a ha => by
          subst ha
          have hlt5 := HT10.out.ow.lt a.block rfl
          have := h5b
          omega)
        by_cases h0 : k = 0
        · have h0' : ((k : Int) == 0) = true := by rw [h0]; rfl
          clear h0
          have hb5l := HT10.out.x5.lt
          have L5 := HT10.out.x5
          go_wp2_with fail
          refine (anyImage_any g (N + 400 + 1) w10 HT10.out.rd (by omega)).mono ?_
          rintro e w11 ⟨W2, H2, P2, A2, c2, zs, rfl, ⟨hz, _⟩, hzc, hrz, hRz, hGz, hAz⟩
          have HAz : Hid (∀ a : Addr, A2 = some a → w.heap.size + 2 ≤ a.block) := Lib.hid (fun a ha => by have := hAz a ha; omega)
          have Y2 := bx_gr HT10.out.x2 hGz (Nat.ne_of_gt o2)
          have Y3 := bx_gr HT10.out.x3 hGz (Nat.ne_of_gt o3)
          have Y4 := bx_gr HT10.out.x4 hGz (Nat.ne_of_gt o4)
          have Y5 := bx_gr HT10.out.x5 hGz (Nat.ne_of_gt o5)
          have hzw := hGz.size
          have HE : Hid (TwoE w (s4 w11 b5 (.int .i64 W2) (.int .i64 H2) (.int .i64 P2) (.slice A2 zs.length c2)) g (N + 400 + 1 + 304) b2 b3 b4 b5 W H P A c xs W2 H2 P2 A2 c2 zs) := Lib.hid
            ⟨s4_rdr hRz o5 _ _ _ _, s4_gr (gtrans HT10.out.gr hGz) h5w _ _ _ _, s4_bx Y2 (by omega) _ _ _ _, s4_bx Y3 (by omega) _ _ _ _, s4_bx Y4 (by omega) _ _ _ _, two_box Y5 _ _ _ _,
              s4_rds2 (Rds.offG HT10.out.ra hb10 HA0.out hGz hgl) HRA4.out h5a (by omega) _ _ _ _, s4_rds hrz (fun a ha => by have := hAz a ha; omega) _ _ _ _⟩
          obtain ⟨j0, j1, j2, j3⟩ := Y5.im
          have k0 := Y5.fz 0
          have k1 := Y5.fz 1
          have k2 := Y5.fz 2
          have k3 := Y5.fz 3
          clear hrz hRz hGz hAz Y2 Y3 Y4 Y5 L5 HT10 hb5l hzw
          go_upto_region 9 with fail
          obtain ⟨Z, hZ⟩ : ∃ Z, Z = (((w11.setCell ⟨b5, 0, none⟩ (.int .i64 W2)).setCell ⟨b5, 1, none⟩ (.int .i64 H2)).setCell ⟨b5, 2, none⟩ (.int .i64 P2)).setCell ⟨b5, 3, none⟩ (.slice A2 zs.length c2) := ⟨_, rfl⟩
          dsimp only [s4] at HE
          rw [← hZ] at HE ⊢
          clear hZ j0 j1 j2 j3 k0 k1 k2 k3
          have HD := HE
          obtain ⟨m0, m1, m2, m3⟩ := HD.out.x4.im
          obtain ⟨n0, n1, n2, n3⟩ := HD.out.x5.im
          obtain ⟨r0, r1, r2, r3⟩ := HD.out.x2.im
          have f0 := HD.out.x2.fz 0
          have f1 := HD.out.x2.fz 1
          have f2 := HD.out.x2.fz 2
          have f3 := HD.out.x2.fz 3
          have X3 := s4_bx HD.out.x3 (Ne.symm o23) (.int .i64 W) (.int .i64 H) (.int .i64 P) (.slice A xs.length c)
          obtain ⟨t0, t1, t2, t3⟩ := X3.im
          have g0 := X3.fz 0
          have g1 := X3.fz 1
          have g2 := X3.fz 2
          have g3 := X3.fz 3
          have X5 := s4_bx HD.out.x5 (Nat.ne_of_gt (Nat.lt_trans o24 o45)) (.int .i64 W) (.int .i64 H) (.int .i64 P) (.slice A xs.length c)
          obtain ⟨n4, n5, n6, n7⟩ := (show Bx _ b5 25 (imC W2 H2 P2 (.slice A2 zs.length c2)) from X5).im
          dsimp only [s4] at n4 n5 n6 n7
          have F2 := s4_bx (two_box HD.out.x2 (.int .i64 W) (.int .i64 H) (.int .i64 P) (.slice A xs.length c)) o23 (.int .i64 W2) (.int .i64 H2) (.int .i64 P2) (.slice A2 zs.length c2)
          have F3 := two_box X3 (.int .i64 W2) (.int .i64 H2) (.int .i64 P2) (.slice A2 zs.length c2)
          obtain ⟨p0, p1, p2, p3⟩ := (show Bx _ b2 25 (imC W H P (.slice A xs.length c)) from F2).im
          obtain ⟨q0, q1, q2, q3⟩ := (show Bx _ b3 25 (imC W2 H2 P2 (.slice A2 zs.length c2)) from F3).im
          dsimp only [s4] at t0 t1 t2 t3 g0 g1 g2 g3 p0 p1 p2 p3 q0 q1 q2 q3
          have e42 : b4 ≠ b2 := Nat.ne_of_gt o24
          have e43 : b4 ≠ b3 := Nat.ne_of_gt o34
          have e52 : b5 ≠ b2 := Nat.ne_of_gt (Nat.lt_trans o24 o45)
          have e53 : b5 ≠ b3 := Nat.ne_of_gt (Nat.lt_trans o34 o45)
          have HF := Lib.hid (HD.out.ret (N := N + 1000) Hb2.out Hb3.out hgl (show N + 400 + 1 + 304 ≤ N + 1000 by omega) ⟨hxl, hz⟩ Hxc.out hzc HA.out HAz.out (.int .i64 W) (.int .i64 H) (.int .i64 P) (.slice A xs.length c) (.int .i64 W2) (.int .i64 H2) (.int .i64 P2) (.slice A2 zs.length c2)).1
          clear X3 X5 F2 F3 HD e42 e43 e52 e53
          go_region
          go_wp2
          exact bodyPost_ret (v := .tuple #[.agg #[.int .i64 W, .int .i64 H, .int .i64 P, .slice A xs.length c], .agg #[.int .i64 W2, .int .i64 H2, .int .i64 P2, .slice A2 zs.length c2]]) (by simp [results, Try.results54, go_sem, p0, p1, p2, p3, q0, q1, q2, q3]) rfl HF.out.drew
        · have h0' : ((k : Int) == 0) = false := beq_eq_false_iff_ne.2 (by omega)
          have HE : Hid (TwoE w w10 g (N + 401) b2 b3 b4 b5 W H P A c xs W H P A5 c5 ys) := Lib.hid ⟨HT10.out.rd, HT10.out.gr, HT10.out.x2, HT10.out.x3, HT10.out.x4, by rw [Hyl.out]; exact HT10.out.x5, HT10.out.ra.more hb10, HT10.out.ow.rds.2⟩
          clear HT10 h0
          have HD := HE
          obtain ⟨m0, m1, m2, m3⟩ := HD.out.x4.im
          obtain ⟨n0, n1, n2, n3⟩ := HD.out.x5.im
          obtain ⟨r0, r1, r2, r3⟩ := HD.out.x2.im
          have f0 := HD.out.x2.fz 0
          have f1 := HD.out.x2.fz 1
          have f2 := HD.out.x2.fz 2
          have f3 := HD.out.x2.fz 3
          have X3 := s4_bx HD.out.x3 (Ne.symm o23) (.int .i64 W) (.int .i64 H) (.int .i64 P) (.slice A xs.length c)
          obtain ⟨t0, t1, t2, t3⟩ := X3.im
          have g0 := X3.fz 0
          have g1 := X3.fz 1
          have g2 := X3.fz 2
          have g3 := X3.fz 3
          have X5 := s4_bx HD.out.x5 (Nat.ne_of_gt (Nat.lt_trans o24 o45)) (.int .i64 W) (.int .i64 H) (.int .i64 P) (.slice A xs.length c)
          obtain ⟨n4, n5, n6, n7⟩ := (show Bx _ b5 25 (imC W H P (.slice A5 ys.length c5)) from X5).im
          dsimp only [s4] at n4 n5 n6 n7
          have F2 := s4_bx (two_box HD.out.x2 (.int .i64 W) (.int .i64 H) (.int .i64 P) (.slice A xs.length c)) o23 (.int .i64 W) (.int .i64 H) (.int .i64 P) (.slice A5 ys.length c5)
          have F3 := two_box X3 (.int .i64 W) (.int .i64 H) (.int .i64 P) (.slice A5 ys.length c5)
          obtain ⟨p0, p1, p2, p3⟩ := (show Bx _ b2 25 (imC W H P (.slice A xs.length c)) from F2).im
          obtain ⟨q0, q1, q2, q3⟩ := (show Bx _ b3 25 (imC W H P (.slice A5 ys.length c5)) from F3).im
          dsimp only [s4] at t0 t1 t2 t3 g0 g1 g2 g3 p0 p1 p2 p3 q0 q1 q2 q3
          have e42 : b4 ≠ b2 := Nat.ne_of_gt o24
          have e43 : b4 ≠ b3 := Nat.ne_of_gt o34
          have e52 : b5 ≠ b2 := Nat.ne_of_gt (Nat.lt_trans o24 o45)
          have e53 : b5 ≠ b3 := Nat.ne_of_gt (Nat.lt_trans o34 o45)
          have HF := Lib.hid (HD.out.ret (N := N + 1000) Hb2.out Hb3.out hgl (show N + 401 ≤ N + 1000 by omega) Hll.out Hxc.out (by rw [Hyl.out]; exact hc5) HA.out HA5.out (.int .i64 W) (.int .i64 H) (.int .i64 P) (.slice A xs.length c) (.int .i64 W) (.int .i64 H) (.int .i64 P) (.slice A5 ys.length c5)).1
          clear X3 X5 F2 F3 HD e42 e43 e52 e53
          go_upto_region 9 with fail
          go_region
          go_wp2
          exact bodyPost_ret (v := .tuple #[.agg #[.int .i64 W, .int .i64 H, .int .i64 P, .slice A xs.length c], .agg #[.int .i64 W, .int .i64 H, .int .i64 P, .slice A5 ys.length c5]]) (by simp [results, Try.results54, go_sem, p0, p1, p2, p3, q0, q1, q2, q3]) rfl HF.out.drew
end Go.Proofs.Ytlmpkanlfhjijaa
namespace Go.Proofs.Ytlmpkanlfhjijaa
open Go.RowKit
set_option linter.unusedSimpArgs false
set_option linter.unusedVariables false
set_option maxRecDepth 20000

/-- Drawn: two images, of a call. -/
def DrawnG (w : World) (e : Ending) (w' : World) : Prop :=
  ∃ (W H P : Int) (A : Option Addr) (c : Nat) (xs : List Int) (W' H' P' : Int) (A' : Option Addr) (c' : Nat) (ys : List Int), e = .returned (.tuple #[.agg #[.int .i64 W, .int .i64 H, .int .i64 P, .slice A xs.length c], .agg #[.int .i64 W', .int .i64 H', .int .i64 P', .slice A' ys.length c']]) ∧ (xs.length ≤ 256 ∧ ys.length ≤ 256) ∧ xs.length ≤ c ∧ ys.length ≤ c' ∧ Rds .i64 w' w'.heap.size A xs ∧ Rds .i64 w' w'.heap.size A' ys ∧ Below w.heap.size w w'
theorem drawn_two {w u : World} {b2 b3 : Nat} {W H P : Int} {A : Option Addr} {c : Nat} {xs : List Int} {W' H' P' : Int} {A' : Option Addr} {c' : Nat} {ys : List Int} (h2 : b2 = w.heap.size) (h3 : b3 = w.heap.size + 1) (hb : Below w.heap.size w u)
    (hl : xs.length ≤ 256 ∧ ys.length ≤ 256) (hc : xs.length ≤ c) (hc' : ys.length ≤ c') (ra : Rds .i64 u u.heap.size A xs) (rb : Rds .i64 u u.heap.size A' ys) (hA : ∀ a : Addr, A = some a → w.heap.size + 2 ≤ a.block) (hA' : ∀ a : Addr, A' = some a → w.heap.size + 2 ≤ a.block) (v0 v1 v2 v3 q0 q1 q2 q3 : Value) :
    DrawnG w (.returned (.tuple #[.agg #[.int .i64 W, .int .i64 H, .int .i64 P, .slice A xs.length c], .agg #[.int .i64 W', .int .i64 H', .int .i64 P', .slice A' ys.length c']])) (s4 (s4 u b2 v0 v1 v2 v3) b3 q0 q1 q2 q3) := by
  have a2 : ∀ a : Addr, A = some a → a.block ≠ b2 := fun a e => by have := hA a e; omega
  have a3 : ∀ a : Addr, A = some a → a.block ≠ b3 := fun a e => by have := hA a e; omega
  have c2 : ∀ a : Addr, A' = some a → a.block ≠ b2 := fun a e => by have := hA' a e; omega
  have c3 : ∀ a : Addr, A' = some a → a.block ≠ b3 := fun a e => by have := hA' a e; omega
  refine ⟨W, H, P, A, c, xs, W', H', P', A', c', ys, rfl, hl, hc, hc', s4_rds (s4_rds ra a2 _ _ _ _) a3 _ _ _ _, s4_rds (s4_rds rb c2 _ _ _ _) c3 _ _ _ _, ?_⟩
  exact (((((((hb.setCell (show w.heap.size ≤ b2 by omega) v0).setCell (show w.heap.size ≤ b2 by omega) v1).setCell (show w.heap.size ≤ b2 by omega) v2).setCell (show w.heap.size ≤ b2 by omega) v3).setCell (show w.heap.size ≤ b3 by omega) q0).setCell (show w.heap.size ≤ b3 by omega) q1).setCell (show w.heap.size ≤ b3 by omega) q2).setCell (show w.heap.size ≤ b3 by omega) q3
set_option maxHeartbeats 8000000 in
theorem drawChanged_any (A : Option Addr) (c : Nat) (bs : List Int) (w : World) (hc : bs.length ≤ c) (h : Rdw .u8 w w.heap.size A bs) :
    Calls Try.prog 21 #[.slice A bs.length c] w (DrawnG w) := by
  obtain ⟨u0, hu⟩ : ∃ u0, u0 = (w.alloc (.cells #[.int .i64 0, .int .i64 0, .int .i64 0, .slice none 0 0] 25)).alloc (.cells #[.int .i64 0, .int .i64 0, .int .i64 0, .slice none 0 0] 25) := ⟨_, rfl⟩
  have Hz : Hid (u0.heap.size = w.heap.size + 2) := Lib.hid (by rw [hu]; simp)
  obtain ⟨b2, hb2⟩ : ∃ b2, b2 = w.heap.size := ⟨_, rfl⟩
  obtain ⟨b3, hb3⟩ : ∃ b3, b3 = w.heap.size + 1 := ⟨_, rfl⟩
  have HX2 : Hid (Bx u0 b2 25 (imC 0 0 0 (.slice none 0 0))) := Lib.hid (by rw [hu, hb2]; exact (Bx.new w _ _).alloc _)
  have HX3 : Hid (Bx u0 b3 25 (imC 0 0 0 (.slice none 0 0))) := Lib.hid (by rw [hu, hb3]; have := Bx.new (w.alloc (.cells #[.int .i64 0, .int .i64 0, .int .i64 0, .slice none 0 0] 25)) 25 (imC 0 0 0 (.slice none 0 0)); simpa [imC] using this)
  have HB0 : Hid (Below w.heap.size w u0) := Lib.hid (by rw [hu]; exact ((Below.refl _ _).alloc (Nat.le_refl _) _).alloc (by simp) _)
  have Hh : Hid (Rdw .u8 u0 u0.heap.size A bs) := Lib.hid ⟨(h.1.below HB0.out).more HB0.out.size, h.2⟩
  have HU := Lib.hid hu
  have Hb2 := Lib.hid hb2
  have Hb3 := Lib.hid hb3
  clear h hu hb2 hb3
  go_enter Try.func21, Try.ntmps21
  go_wp2_with fail
  rw [← HU.out, ← Hb3.out, ← Hb2.out]
  clear HU
  refine (newReader_any A c bs u0 hc Hh.out).mono ?_
  rintro e u1 ⟨rfl, hr1, hb1, hs1⟩
  have HX21 := Lib.hid (HX2.out.below hb1)
  have HX31 := Lib.hid (HX3.out.below hb1)
  have HB1 := Lib.hid (HB0.out.trans (hb1.mono HB0.out.size))
  have Hs := Lib.hid hs1
  clear hs1 hb1 HX2 HX3 HB0 Hh
  go_wp2_with fail
  refine (two_any u0.heap.size 0 u1 hr1 (by omega)).mono ?_
  rintro e u3 ⟨W, H, P, A1, c1, xs, W', H', P', A2, c2, ys, rfl, hl, hc1, hc2, hx, hy, hr2, hG3, hA1, hA2⟩
  have hlt1 := hr1.lt
  have X2 := bx_gr HX21.out hG3 (by have := Hz.out; have := Hb2.out; omega)
  have X3' := bx_gr HX31.out hG3 (by have := Hz.out; have := Hb3.out; omega)
  have hB3 : Below w.heap.size w u3 := HB1.out.grown (row := some u0.heap.size) hG3 HB1.out.size (fun k hk => by injection hk with hk; have := Hz.out; omega)
  have o23 : b2 ≠ b3 := by have := Hb2.out; have := Hb3.out; omega
  obtain ⟨r0, r1, r2, r3⟩ := X2.im
  have f0 := X2.fz 0
  have f1 := X2.fz 1
  have f2 := X2.fz 2
  have f3 := X2.fz 3
  have X3 := s4_bx X3' (Ne.symm o23) (.int .i64 W) (.int .i64 H) (.int .i64 P) (.slice A1 xs.length c1)
  obtain ⟨t0, t1, t2, t3⟩ := X3.im
  have g0 := X3.fz 0
  have g1 := X3.fz 1
  have g2 := X3.fz 2
  have g3 := X3.fz 3
  have F2 := s4_bx (two_box X2 (.int .i64 W) (.int .i64 H) (.int .i64 P) (.slice A1 xs.length c1)) o23 (.int .i64 W') (.int .i64 H') (.int .i64 P') (.slice A2 ys.length c2)
  have F3 := two_box X3 (.int .i64 W') (.int .i64 H') (.int .i64 P') (.slice A2 ys.length c2)
  obtain ⟨p0, p1, p2, p3⟩ := (show Bx _ b2 25 (imC W H P (.slice A1 xs.length c1)) from F2).im
  obtain ⟨q0, q1, q2, q3⟩ := (show Bx _ b3 25 (imC W' H' P' (.slice A2 ys.length c2)) from F3).im
  dsimp only [s4] at t0 t1 t2 t3 g0 g1 g2 g3 p0 p1 p2 p3 q0 q1 q2 q3
  have HF := Lib.hid (drawn_two (W := W) (H := H) (P := P) (W' := W') (H' := H') (P' := P') Hb2.out Hb3.out hB3 hl hc1 hc2 hx hy (fun a ha => by have := hA1 a ha; have := Hz.out; have := Hs.out; omega) (fun a ha => by have := hA2 a ha; have := Hz.out; have := Hs.out; omega) (.int .i64 W) (.int .i64 H) (.int .i64 P) (.slice A1 xs.length c1) (.int .i64 W') (.int .i64 H') (.int .i64 P') (.slice A2 ys.length c2))
  clear X2 X3 X3' F2 F3 HX21 HX31 HB1 hB3 hG3 hr1 hr2 hA1 hA2 hx hy hlt1
  go_wp2
  exact bodyPost_ret (v := .tuple #[.agg #[.int .i64 W, .int .i64 H, .int .i64 P, .slice A1 xs.length c1], .agg #[.int .i64 W', .int .i64 H', .int .i64 P', .slice A2 ys.length c2]]) (by simp [results, Try.results21, go_sem, p0, p1, p2, p3, q0, q1, q2, q3]) rfl HF.out
end Go.Proofs.Ytlmpkanlfhjijaa
