/- Contract of paste in the model. -/
import Derived.Test.YtlmpkanlfhjijaaCropS
import Derived.Test.YtlmpkanlfhjijaaPixI
import Derived.Deep.Cut
namespace Go.Proofs.Ytlmpkanlfhjijaa
open Go.RowKit Go.Shelf
set_option linter.unusedSimpArgs false
set_option linter.unusedVariables false

/-- Which numbers stand where a part (its numbers: F) lies over an image (M), as far as the part's pixels before column x and row y reach. -/
def paF (F M : Nat → Nat → Nat → Int) (X Y : Int) (PW y x : Nat) (i j p : Nat) : Int :=
  if Y ≤ j ∧ X ≤ i ∧ (i : Int) - X < PW ∧ ((j : Int) - Y < y ∨ ((j : Int) - Y = y ∧ (i : Int) - X < x)) then F ((i : Int) - X).toNat ((j : Int) - Y).toNat p else M i j p
def Pst (W H P : Nat) (F M : Nat → Nat → Nat → Int) (X Y : Int) (PW y x : Nat) (ys : List Int) : Prop :=
  ys.length = W * H * P ∧ ∀ i j p, i < W → j < H → p < P → px W P ys i j p = paF F M X Y PW y x i j p
section
variable {W H P PW y x : Nat} {F M : Nat → Nat → Nat → Int} {X Y : Int} {ys q : List Int}
theorem Pst.start (hl : ys.length = W * H * P) : Pst W H P F (px W P ys) X Y PW 0 0 ys :=
  ⟨hl, fun i j p _ _ _ => by unfold paF; rw [if_neg (by omega)]⟩
theorem Pst.step (h : Pst W H P F M X Y PW y x ys) (hx : x < PW) {tx ty : Nat} (htx : tx < W) (hty : ty < H) (hX : X + x = tx) (hY : Y + y = ty) (hq : ∀ p, p < P → q.getD p 0 = F x y p) : Pst W H P F M X Y PW y (x + 1) (setk W P tx ty q ys P) := by
  refine ⟨by rw [setk_len, h.1], fun i j p hi hj hp => ?_⟩
  rw [setk_px (H := H) h.1 hi htx hty hp P (Nat.le_refl _), h.2 i j p hi hj hp]
  unfold paF
  by_cases e : i = tx ∧ j = ty
  · rw [if_pos ⟨e.1, e.2, hp⟩, if_pos (by omega), hq p hp]
    have e1 : ((i : Int) - X).toNat = x := by omega
    have e2 : ((j : Int) - Y).toNat = y := by omega
    rw [e1, e2]
  · rw [if_neg (fun h => e ⟨h.1, h.2.1⟩)]
    by_cases c : Y ≤ j ∧ X ≤ i ∧ (i : Int) - X < PW ∧ ((j : Int) - Y < y ∨ ((j : Int) - Y = y ∧ (i : Int) - X < x))
    · rw [if_pos c, if_pos (by omega)]
    · rw [if_neg c, if_neg (by omega)]
theorem Pst.skip (h : Pst W H P F M X Y PW y x ys) (ho : ¬ (0 ≤ X + x ∧ X + x < W ∧ 0 ≤ Y + y ∧ Y + y < H)) : Pst W H P F M X Y PW y (x + 1) ys := by
  refine ⟨h.1, fun i j p hi hj hp => ?_⟩
  rw [h.2 i j p hi hj hp]
  unfold paF
  by_cases c : Y ≤ j ∧ X ≤ i ∧ (i : Int) - X < PW ∧ ((j : Int) - Y < y ∨ ((j : Int) - Y = y ∧ (i : Int) - X < x))
  · rw [if_pos c, if_pos (by omega)]
  · rw [if_neg c, if_neg (by omega)]
theorem Pst.row (h : Pst W H P F M X Y PW y PW ys) : Pst W H P F M X Y PW (y + 1) 0 ys := by
  refine ⟨h.1, fun i j p hi hj hp => ?_⟩
  rw [h.2 i j p hi hj hp]
  unfold paF
  by_cases c : Y ≤ j ∧ X ≤ i ∧ (i : Int) - X < PW ∧ ((j : Int) - Y < y ∨ ((j : Int) - Y = y ∧ (i : Int) - X < PW))
  · rw [if_pos c, if_pos (by omega)]
  · rw [if_neg c, if_neg (by omega)]
theorem Pst.done (h : Pst W H P F M X Y PW y x ys) : ys = img W H P (paF F M X Y PW y x) := img_eq h.1 h.2
end
theorem grown_of_below {w w' : World} (h : Below w.heap.size w w') (row : Option Nat) : w.grownBy w' row := ⟨h.os, h.tape, h.output, h.size, fun i hi _ => h.block i hi⟩
set_option maxHeartbeats 8000000 in
theorem paste_any (W H P PW PH : Nat) (hW1 : 1 ≤ W) (hW : W ≤ 16) (hH1 : 1 ≤ H) (hH : H ≤ 16) (hP1 : 1 ≤ P) (hP : P ≤ 4) (hPW : PW ≤ 16) (hPH : PH ≤ 16) (X Y : Int) (hX0 : -16 ≤ X) (hX1 : X ≤ 16) (hY0 : -16 ≤ Y) (hY1 : Y ≤ 16) (base B g c2 n : Nat) (ys0 : List Int) (hn : n = ys0.length) (hl : ys0.length = W * H * P)
    (A : Option Addr) (c : Nat) (ps : List Int) (hpl : ps.length = PW * PH * P) (hpc : ps.length ≤ c) (w : World) (hO : Own w base (.slice (some ⟨g, 0, none⟩) n c2) ys0) (hx : Rds .i64 w B A ps) (hBw : B ≤ w.heap.size) (hBg : B ≤ g) :
    Calls Try.prog 45 #[.agg #[.int .i64 (W : Int), .int .i64 (H : Int), .int .i64 (P : Int), .slice (some ⟨g, 0, none⟩) n c2], .int .i64 X, .int .i64 Y, .agg #[.int .i64 (PW : Int), .int .i64 (PH : Int), .int .i64 (P : Int), .slice A ps.length c]] w
      fun e w' => e = .returned (.tuple #[]) ∧ Own w' base (.slice (some ⟨g, 0, none⟩) n c2) (img W H P (paF (px PW P ps) (px W P ys0) X Y PW PH 0)) ∧ w.grownBy w' (some g) := by
  have hgw := (hO.lt g rfl).2
  obtain ⟨M, hM0⟩ : ∃ M, M = px W P ys0 := ⟨_, rfl⟩
  obtain ⟨u1, hu⟩ : ∃ u1, u1 = (w.alloc (.cells #[.int .i64 (W : Int), .int .i64 (H : Int), .int .i64 (P : Int), .slice (some ⟨g, 0, none⟩) n c2] 25)).alloc (.cells #[.int .i64 (PW : Int), .int .i64 (PH : Int), .int .i64 (P : Int), .slice A ps.length c] 25) := ⟨_, rfl⟩
  have HI0 : Hid (Own u1 base (.slice (some ⟨g, 0, none⟩) n c2) ys0 ∧ n = ys0.length ∧ Pst W H P (px PW P ps) M X Y PW 0 0 ys0 ∧ Bx u1 w.heap.size 25 (imC W H P (.slice (some ⟨g, 0, none⟩) n c2)) ∧ Bx u1 (w.heap.size + 1) 25 (imC PW PH P (.slice A ps.length c)) ∧ w.grownBy u1 (some g)) :=
    Lib.hid ⟨by rw [hu]; exact (hO.alloc _).alloc _, hn, by rw [hM0]; exact Pst.start hl, by rw [hu]; exact (Bx.new w 25 _).alloc _, by rw [hu]; have := Bx.new (w.alloc (.cells #[.int .i64 (W : Int), .int .i64 (H : Int), .int .i64 (P : Int), .slice (some ⟨g, 0, none⟩) n c2] 25)) 25 (imC PW PH P (.slice A ps.length c)); simpa [imC] using this, by rw [hu]; exact gtrans (World.grownBy_alloc w _ _) (World.grownBy_alloc _ _ _)⟩
  have Hx := Lib.hid hx
  have HLn := Lib.hid hpl
  have HU := Lib.hid hu
  rw [← hM0]
  clear hx hu hl hpl hM0 hO hn
  obtain ⟨m0, m1, m2, m3⟩ := HI0.out.2.2.2.1.im
  go_enter Try.func45, Try.ntmps45
  go_wp2
  rw [← HU.out]
  clear HU m0 m1 m2 m3
  go_loopw [8] (fun iy wr => ∃ (y : Nat) (ys : List Int), y ≤ PH ∧ iy = .int .i64 y ∧ Hid (Own wr base (.slice (some ⟨g, 0, none⟩) n c2) ys ∧ n = ys.length ∧ Pst W H P (px PW P ps) M X Y PW y 0 ys ∧ Bx wr w.heap.size 25 (imC W H P (.slice (some ⟨g, 0, none⟩) n c2)) ∧ Bx wr (w.heap.size + 1) 25 (imC PW PH P (.slice A ps.length c)) ∧ w.grownBy wr (some g))) (fun iy _ => PH - (intOf iy).toNat)
  case atStart => exact ⟨0, _, Nat.zero_le _, rfl, HI0⟩
  case round =>
    obtain ⟨y, ys, hy, rfl, hI⟩ := hrel
    obtain ⟨hO, hn, hF, hM, hT, hG⟩ := hI.out
    obtain ⟨t0, t1, t2, t3⟩ := hT.im
    by_cases hylt : y < PH
    · clear hO hn hF hM hT hG
      go_wp2
      clear t0 t1 t2 t3
      go_loopw [9] (fun ix wr => ∃ (x : Nat) (ys : List Int), x ≤ PW ∧ ix = .int .i64 x ∧ Hid (Own wr base (.slice (some ⟨g, 0, none⟩) n c2) ys ∧ n = ys.length ∧ Pst W H P (px PW P ps) M X Y PW y x ys ∧ Bx wr w.heap.size 25 (imC W H P (.slice (some ⟨g, 0, none⟩) n c2)) ∧ Bx wr (w.heap.size + 1) 25 (imC PW PH P (.slice A ps.length c)) ∧ w.grownBy wr (some g))) (fun ix _ => PW - (intOf ix).toNat)
      case atStart => exact ⟨0, ys, Nat.zero_le _, rfl, hI⟩
      case round =>
        obtain ⟨x, ys, hxx, rfl, hJ⟩ := hrel
        clear hI HI0
        obtain ⟨hO, hn, hF, hM, hT, hG⟩ := hJ.out
        obtain ⟨m0, m1, m2, m3⟩ := hM.im
        obtain ⟨t0, t1, t2, t3⟩ := hT.im
        by_cases hxlt : x < PW
        · have HO := Lib.hid hO
          have HF := Lib.hid hF
          have HM := Lib.hid hM
          have HT := Lib.hid hT
          have HG := Lib.hid hG
          have Hn := Lib.hid hn
          have hwr := hG.size
          clear hO hn hF hM hT hG hJ
          have rw0 : IntKind.i64.wrap (X + (x : Int)) = X + (x : Int) := IntWalk.i64_in _ (by omega)
          have rw1 : IntKind.i64.wrap (Y + (y : Int)) = Y + (y : Int) := IntWalk.i64_in _ (by omega)
          go_wp2_with fail
          refine (sPlace_any W H P _ (X + (x : Int)) (Y + (y : Int)) ⟨by omega, by omega⟩ ⟨by omega, by omega⟩ wr).mono ?_
          rintro e wq ⟨rfl, hBq⟩
          have HO' := Lib.hid (HO.out.below hBq (Nat.le_refl _))
          have HM' := Lib.hid (HM.out.below hBq)
          have HT' := Lib.hid (HT.out.below hBq)
          have HG' := Lib.hid (gtrans HG.out (grown_of_below hBq _))
          have hwq : w.heap.size ≤ wq.heap.size := Nat.le_trans hwr hBq.size
          clear m0 m1 m2 m3 t0 t1 t2 t3 hBq HO HM HT HG hwr
          cases ho : onIm W H (X + (x : Int)) (Y + (y : Int))
          · have HN : Hid (Own wq base (.slice (some ⟨g, 0, none⟩) n c2) ys ∧ n = ys.length ∧ Pst W H P (px PW P ps) M X Y PW y (x + 1) ys ∧ Bx wq w.heap.size 25 (imC W H P (.slice (some ⟨g, 0, none⟩) n c2)) ∧ Bx wq (w.heap.size + 1) 25 (imC PW PH P (.slice A ps.length c)) ∧ w.grownBy wq (some g)) :=
              Lib.hid ⟨HO'.out, Hn.out, HF.out.skip (by simp only [onIm, Bool.and_eq_false_iff, decide_eq_false_iff_not] at ho; omega), HM'.out, HT'.out, HG'.out⟩
            clear ho HO' HM' HT' HG' rw0 rw1
            go_wp2
            go_roundw
            case rel => exact ⟨x + 1, _, by omega, by go_num, HN⟩
            case measure => simp [intOf]; omega
          · obtain ⟨tx, ty, htx, hty, hXt, hYt⟩ : ∃ tx ty : Nat, tx < W ∧ ty < H ∧ X + (x : Int) = tx ∧ Y + (y : Int) = ty := by
              simp only [onIm, Bool.and_eq_true, decide_eq_true_eq] at ho
              exact ⟨(X + (x : Int)).toNat, (Y + (y : Int)).toNat, by omega, by omega, by omega, by omega⟩
            have HXt := Lib.hid hXt
            have HYt := Lib.hid hYt
            have HXr := Lib.hid ((Hx.out.grown HG'.out hBw (fun k hk => by injection hk with hk; omega)).more (show B ≤ wq.heap.size by omega))
            obtain ⟨m0, m1, m2, m3⟩ := HM'.out.im
            obtain ⟨t0, t1, t2, t3⟩ := HT'.out.im
            have hml := HM'.out.lt
            have htl := HT'.out.lt
            have hgl := (HO'.out.lt g rfl).2
            clear ho hXt hYt
            go_wp2
            go_region_held3 (fun w' => (w'.cell? ⟨w.heap.size, 0, none⟩ = some (.int .i64 (W : Int)) ∧ w'.cell? ⟨w.heap.size, 1, none⟩ = some (.int .i64 (H : Int)) ∧ w'.cell? ⟨w.heap.size, 2, none⟩ = some (.int .i64 (P : Int)) ∧ w'.cell? ⟨w.heap.size, 3, none⟩ = some (.slice (some ⟨g, 0, none⟩) n c2)) ∧ w'.cell? ⟨w.heap.size + 1, 0, none⟩ = some (.int .i64 (PW : Int)) ∧ w'.cell? ⟨w.heap.size + 1, 1, none⟩ = some (.int .i64 (PH : Int)) ∧ w'.cell? ⟨w.heap.size + 1, 2, none⟩ = some (.int .i64 (P : Int)) ∧ w'.cell? ⟨w.heap.size + 1, 3, none⟩ = some (.slice A ps.length c))
              (first | (with_reducible exact ⟨⟨k0, k1, k2, k3⟩, k4, k5, k6, k7⟩) | (with_reducible exact ⟨⟨d0, d1, d2, d3⟩, d4, d5, d6, d7⟩) | exact ⟨⟨m0, m1, m2, m3⟩, t0, t1, t2, t3⟩)
              (first | (go_at_call 73; refine (pixelAt_at PW PH P hPW hPH hP1 hP A c ps HLn.out hpc x y hxlt hylt _ _ rfl rfl _ (by exact HXr.out)).mono ?_; rintro e w5 ⟨v5, rfl, hO5, hB5⟩; obtain ⟨A5, c5, rfl, hc5⟩ := hO5.slice; obtain ⟨d0, d1, d2, d3⟩ := keep4 hB5 (by exact hml) m0 m1 m2 m3; obtain ⟨d4, d5, d6, d7⟩ := keep4 hB5 (by exact htl) t0 t1 t2 t3; have HO5 := Lib.hid hO5; have HB5 : Hid (Below wq.heap.size wq w5) := Lib.hid ((Below.refl wq.heap.size wq).drew.trans hB5); clear hO5 hB5) | (go_at_call 72; refine (setPixel_at W H P hW hH hP base g c2 n ys Hn.out HF.out.1 tx ty htx hty _ _ (by exact HXt.out) (by exact HYt.out) A5 c5 _ (pxl PW P ps x y) rfl (pxl_len _ _ _ _ _) _ (by exact HO'.out.below HB5.out (Nat.le_refl _)) (by exact HO5.out.rds.2) (fun a ha => by subst ha; have h5 := (HO5.out.lt a.block rfl).1; have : wq.heap.size ≤ a.block := h5; omega)).mono ?_; rintro e w6 ⟨rfl, hO6, hG6⟩; have hz5 := HB5.out.size; obtain ⟨k0, k1, k2, k3⟩ := keep4g hG6 (by omega) (show w.heap.size ≠ g by omega) d0 d1 d2 d3; obtain ⟨k4, k5, k6, k7⟩ := keep4g hG6 (by omega) (show w.heap.size + 1 ≠ g by omega) d4 d5 d6 d7; have HN : Hid (Own w6 base (.slice (some ⟨g, 0, none⟩) n c2) (setk W P tx ty (pxl PW P ps x y) ys P) ∧ n = (setk W P tx ty (pxl PW P ps x y) ys P).length ∧ Pst W H P (px PW P ps) M X Y PW y (x + 1) (setk W P tx ty (pxl PW P ps x y) ys P) ∧ Bx w6 w.heap.size 25 (imC W H P (.slice (some ⟨g, 0, none⟩) n c2)) ∧ Bx w6 (w.heap.size + 1) 25 (imC PW PH P (.slice A ps.length c)) ∧ w.grownBy w6 (some g)) := Lib.hid ⟨hO6, by rw [setk_len]; exact Hn.out, HF.out.step hxlt htx hty HXt.out HYt.out (fun p hp => pxl_get _ _ _ _ _ _ hp), (HM'.out.below HB5.out).kept hG6 (by simp; omega), (HT'.out.below HB5.out).kept hG6 (by simp; omega), gtrans (gtrans HG'.out (grown_of_below HB5.out _)) hG6⟩; clear hO6 hG6))
            all_goals
              clear d0 d1 d2 d3 d4 d5 d6 d7 k0 k1 k2 k3 k4 k5 k6 k7 m0 m1 m2 m3 t0 t1 t2 t3 rw0 rw1
              (try go_wp2)
              go_roundw
              case rel => exact ⟨x + 1, _, by omega, by go_num, HN⟩
              case measure => simp [intOf]; omega
        · have hxW : x = PW := by omega
          rw [hxW] at hF
          clear hxW
          have HN : Hid (Own wr base (.slice (some ⟨g, 0, none⟩) n c2) ys ∧ n = ys.length ∧ Pst W H P (px PW P ps) M X Y PW (y + 1) 0 ys ∧ Bx wr w.heap.size 25 (imC W H P (.slice (some ⟨g, 0, none⟩) n c2)) ∧ Bx wr (w.heap.size + 1) 25 (imC PW PH P (.slice A ps.length c)) ∧ w.grownBy wr (some g)) := Lib.hid ⟨hO, hn, hF.row, hM, hT, hG⟩
          clear hO hn hF hM hT hG hJ
          go_wp2
          go_roundw
          case rel => exact ⟨y + 1, ys, by omega, by go_num, HN⟩
          case measure => simp [intOf]; omega
    · have hyH : y = PH := by omega
      have hE : ys = img W H P (paF (px PW P ps) M X Y PW PH 0) := (by rw [← hyH]; exact hF.done)
      have hO' := hO
      rw [hE] at hO'
      have HE := Lib.hid hO'
      have HG := Lib.hid hG
      clear hO hn hF hM hT hG hI hE hO' hyH
      go_wp2
      go_end0
      exact ⟨rfl, HE.out, HG.out⟩
/-- Whether PasteImage takes its arguments. -/
def pasteOk (W H P : Int) (xs : List Int) (X Y PW PH PP : Int) (ps : List Int) : Bool := vim W H P xs && (vim PW PH PP ps && (decide (P = PP) && (decide (-16 ≤ X ∧ X ≤ 16) && decide (-16 ≤ Y ∧ Y ≤ 16))))
/-- The numbers of an image over which a part lies. -/
def pasteL (W H P : Nat) (xs : List Int) (X Y : Int) (PW PH : Nat) (ps : List Int) : List Int := img W H P (paF (px PW P ps) (px W P xs) X Y PW PH 0)
set_option maxHeartbeats 8000000 in
theorem s_PasteImage (W H P X Y PW PH PP : Int) (A A2 : Option Addr) (c c2 : Nat) (xs ps : List Int) (w : World) (hx : Rds .i64 w w.heap.size A xs) (hl : xs.length ≤ 2000000) (hlc : xs.length ≤ c) (hp : Rds .i64 w w.heap.size A2 ps) (hpl : ps.length ≤ 2000000) (hpc : ps.length ≤ c2) :
    Calls Try.prog 10 #[.agg #[.int .i64 W, .int .i64 H, .int .i64 P, .slice A xs.length c], .int .i64 X, .int .i64 Y, .agg #[.int .i64 PW, .int .i64 PH, .int .i64 PP, .slice A2 ps.length c2]] w (SetR (pasteOk W H P xs X Y PW PH PP ps) W H P (pasteL W.toNat H.toNat P.toNat xs X Y PW.toNat PH.toNat ps) w) := by
  obtain ⟨u0, hu⟩ : ∃ u0, u0 = ((w.alloc (.cells #[.int .i64 W, .int .i64 H, .int .i64 P, .slice A xs.length c] 25)).alloc (.cells #[.int .i64 PW, .int .i64 PH, .int .i64 PP, .slice A2 ps.length c2] 25)).alloc (.cells #[.int .i64 0, .int .i64 0, .int .i64 0, .slice none 0 0] 25) := ⟨_, rfl⟩
  obtain ⟨r, hr⟩ : ∃ r, r = w.heap.size + 2 := ⟨_, rfl⟩
  obtain ⟨pb, hpb⟩ : ∃ pb, pb = w.heap.size + 1 := ⟨_, rfl⟩
  have Hsz : Hid (u0.heap.size = w.heap.size + 3) := Lib.hid (by rw [hu]; simp)
  have HB0 : Hid (Below w.heap.size w u0) := Lib.hid (by rw [hu]; exact (((Below.refl w.heap.size w).alloc (Nat.le_refl _) _).alloc (by simp) _).alloc (by simp <;> omega) _)
  have HM0 : Hid (Bx u0 w.heap.size 25 (imC W H P (.slice A xs.length c))) := Lib.hid (by rw [hu]; exact Bx.at2.1)
  have HP0 : Hid (Bx u0 pb 25 (imC PW PH PP (.slice A2 ps.length c2))) := Lib.hid (by rw [hu, hpb]; exact Bx.at2.2.1)
  have HR0 : Hid (Bx u0 r 25 (imC 0 0 0 (.slice none 0 0))) := Lib.hid (by rw [hu, hr]; exact Bx.at2.2.2)
  have HxW := Lib.hid hx
  have HpW := Lib.hid hp
  have HU := Lib.hid hu
  have Hr := Lib.hid hr
  have Hpb := Lib.hid hpb
  have hrw : w.heap.size ≤ r := by omega
  have HOK : Hid (pasteOk W H P xs X Y PW PH PP ps = (vim W H P xs && (vim PW PH PP ps && (decide (P = PP) && (decide (-16 ≤ X ∧ X ≤ 16) && decide (-16 ≤ Y ∧ Y ≤ 16)))))) := Lib.hid rfl
  have hz0 : w.heap.size + 3 ≤ u0.heap.size := by have := Hsz.out; omega
  clear hx hp hu hr hpb Hsz
  go_enter Try.func10, Try.ntmps10
  go_wp2_with fail
  rw [← HU.out]
  (try rw [← Hr.out])
  (try rw [← Hpb.out])
  clear HU
  refine (sVimg_any W H P A c xs u0 ((HxW.out.below HB0.out).more (by omega)) hl).mono ?_
  rintro e u1 ⟨rfl, hB⟩
  have HM1 := Lib.hid (HM0.out.below hB)
  have HP1 := Lib.hid (HP0.out.below hB)
  have HR1 := Lib.hid (HR0.out.below hB)
  have HB1 := Lib.hid (HB0.out.trans (hB.mono (by omega)))
  have hz1 : w.heap.size + 3 ≤ u1.heap.size := by have := hB.size; omega
  clear hB HB0 HM0 HR0 HP0 hz0
  cases hv : vim W H P xs
  · have HF : Hid (pasteOk W H P xs X Y PW PH PP ps = false) := Lib.hid (by rw [HOK.out]; simp [hv])
    obtain ⟨r0, r1, r2, r3⟩ := HR1.out.im
    have f0 := HR1.out.fz 0
    have f1 := HR1.out.fz 1
    have f2 := HR1.out.fz 2
    have f3 := HR1.out.fz 3
    clear hv
    go_wp2
    exact bodyPost_ret (v := .tuple #[.agg #[.int .i64 0, .int .i64 0, .int .i64 0, .slice none 0 0], .bool false]) (by simp [results, Try.results10, go_sem, r0, r1, r2, r3]) rfl (SetR.noR HF.out hrw HB1.out _ _ _ _)
  · obtain ⟨p0, p1, p2, p3⟩ := HP1.out.im
    have HV := Lib.hid hv
    clear hv
    go_wp2_with fail
    refine (sVimg_any PW PH PP A2 c2 ps u1 ((HpW.out.below HB1.out).more (by omega)) hpl).mono ?_
    rintro e u2 ⟨rfl, hB⟩
    have HM2 := Lib.hid (HM1.out.below hB)
    have HP2 := Lib.hid (HP1.out.below hB)
    have HR2 := Lib.hid (HR1.out.below hB)
    have HB2 := Lib.hid (HB1.out.trans (hB.mono (by omega)))
    have hz2 : w.heap.size + 3 ≤ u2.heap.size := by have := hB.size; omega
    clear p0 p1 p2 p3 hB HB1 HM1 HR1 HP1 hz1
    cases hv2 : vim PW PH PP ps
    · have HF : Hid (pasteOk W H P xs X Y PW PH PP ps = false) := Lib.hid (by rw [HOK.out]; simp [hv2])
      obtain ⟨r0, r1, r2, r3⟩ := HR2.out.im
      have f0 := HR2.out.fz 0
      have f1 := HR2.out.fz 1
      have f2 := HR2.out.fz 2
      have f3 := HR2.out.fz 3
      clear hv2
      go_wp2
      exact bodyPost_ret (v := .tuple #[.agg #[.int .i64 0, .int .i64 0, .int .i64 0, .slice none 0 0], .bool false]) (by simp [results, Try.results10, go_sem, r0, r1, r2, r3]) rfl (SetR.noR HF.out hrw HB2.out _ _ _ _)
    · obtain ⟨m0, m1, m2, m3⟩ := HM2.out.im
      obtain ⟨p0, p1, p2, p3⟩ := HP2.out.im
      have HV2 := Lib.hid hv2
      clear hv2
      by_cases hPP : P = PP
      · subst hPP
        go_wp2_with fail
        refine (sIn_any X (-16) 16 u2).mono ?_
        rintro e u3 ⟨rfl, rfl⟩
        cases hX : decide (-16 ≤ X ∧ X ≤ 16)
        · have HF : Hid (pasteOk W H P xs X Y PW PH P ps = false) := Lib.hid (by rw [HOK.out]; simp [hX])
          obtain ⟨r0, r1, r2, r3⟩ := HR2.out.im
          have f0 := HR2.out.fz 0
          have f1 := HR2.out.fz 1
          have f2 := HR2.out.fz 2
          have f3 := HR2.out.fz 3
          clear hX m0 m1 m2 m3 p0 p1 p2 p3
          go_wp2
          exact bodyPost_ret (v := .tuple #[.agg #[.int .i64 0, .int .i64 0, .int .i64 0, .slice none 0 0], .bool false]) (by simp [results, Try.results10, go_sem, r0, r1, r2, r3]) rfl (SetR.noR HF.out hrw HB2.out _ _ _ _)
        · have HX := Lib.hid hX
          clear hX
          go_wp2_with fail
          refine (sIn_any Y (-16) 16 u2).mono ?_
          rintro e u3 ⟨rfl, rfl⟩
          cases hY : decide (-16 ≤ Y ∧ Y ≤ 16)
          · have HF : Hid (pasteOk W H P xs X Y PW PH P ps = false) := Lib.hid (by rw [HOK.out]; simp [hY])
            obtain ⟨r0, r1, r2, r3⟩ := HR2.out.im
            have f0 := HR2.out.fz 0
            have f1 := HR2.out.fz 1
            have f2 := HR2.out.fz 2
            have f3 := HR2.out.fz 3
            clear hY m0 m1 m2 m3 p0 p1 p2 p3
            go_wp2
            exact bodyPost_ret (v := .tuple #[.agg #[.int .i64 0, .int .i64 0, .int .i64 0, .slice none 0 0], .bool false]) (by simp [results, Try.results10, go_sem, r0, r1, r2, r3]) rfl (SetR.noR HF.out hrw HB2.out _ _ _ _)
          · have HT : Hid (pasteOk W H P xs X Y PW PH P ps = true) := Lib.hid (by rw [HOK.out, HV.out, HV2.out, HX.out, hY]; simp)
            have hX' := HX.out
            rw [decide_eq_true_eq] at hX' hY
            obtain ⟨hX0, hX1⟩ := hX'
            obtain ⟨hY0, hY1⟩ := hY
            have hv := HV.out
            have hv2 := HV2.out
            clear HV HV2 HX HOK
            obtain ⟨W, H, P, rfl, rfl, rfl, hW1, hW, hH1, hH, hP1, hP, hln, _⟩ := vim_nat hv
            obtain ⟨PW, PH, P2, rfl, rfl, hP2, hPW1, hPW, hPH1, hPH, _, _, hpln, _⟩ := vim_nat hv2
            obtain rfl : P = P2 := by omega
            have hxl : 0 < xs.length := by rw [hln]; exact Nat.mul_pos (Nat.mul_pos (by omega) (by omega)) (by omega)
            have HLn := Lib.hid hln
            have HPn := Lib.hid hpln
            have hrlt : r < u2.heap.size := by have := Hr.out; omega
            have hplt : pb < u2.heap.size := by have := Hpb.out; omega
            clear hv hv2 hln hpln hP2
            go_wp2_with fail
            refine (sCopyImage_any W H P A c xs u2 ((HxW.out.below HB2.out).more (by omega)) hl).mono ?_
            rintro e u3 ⟨v3, rfl, hO3, hB3⟩
            obtain ⟨g, c3, rfl, hg1, hg2⟩ := hO3.form hxl
            obtain ⟨b3, hb3⟩ : ∃ b3, b3 = u3.heap.size := ⟨_, rfl⟩
            obtain ⟨n, hn⟩ : ∃ n, n = xs.length := ⟨_, rfl⟩
            have hz3 := hB3.size
            have HP3 := Lib.hid ((HP2.out.below hB3).alloc (.cells #[.int .i64 (W : Int), .int .i64 (H : Int), .int .i64 (P : Int), .slice (some ⟨g, 0, none⟩) n c3] 25))
            have HR3 := Lib.hid ((HR2.out.below hB3).alloc (.cells #[.int .i64 (W : Int), .int .i64 (H : Int), .int .i64 (P : Int), .slice (some ⟨g, 0, none⟩) n c3] 25))
            have HQ3 : Hid (Bx (u3.alloc (.cells #[.int .i64 (W : Int), .int .i64 (H : Int), .int .i64 (P : Int), .slice (some ⟨g, 0, none⟩) n c3] 25)) b3 25 (imC W H P (.slice (some ⟨g, 0, none⟩) n c3))) := Lib.hid (by rw [hb3]; exact Bx.new u3 _ _)
            have HO3 := Lib.hid (hO3.alloc (.cells #[.int .i64 (W : Int), .int .i64 (H : Int), .int .i64 (P : Int), .slice (some ⟨g, 0, none⟩) n c3] 25))
            have HB3 := Lib.hid ((HB2.out.trans (hB3.mono (by omega))).alloc (show w.heap.size ≤ u3.heap.size by omega) (.cells #[.int .i64 (W : Int), .int .i64 (H : Int), .int .i64 (P : Int), .slice (some ⟨g, 0, none⟩) n c3] 25))
            have hz4 : u3.heap.size < (u3.alloc (.cells #[.int .i64 (W : Int), .int .i64 (H : Int), .int .i64 (P : Int), .slice (some ⟨g, 0, none⟩) n c3] 25)).heap.size := by simp
            rw [← hn]
            rw [← hn] at HO3
            have Hn := Lib.hid hn
            have Hb3 := Lib.hid hb3
            have hgb : b3 ≠ g := by omega
            have hgr : r ≠ g := by omega
            clear hO3 hB3 HM2 HP2 HR2 HB2 m0 m1 m2 m3 p0 p1 p2 p3 hn hb3
            obtain ⟨p0, p1, p2, p3⟩ := HP3.out.im
            obtain ⟨q0, q1, q2, q3⟩ := HQ3.out.im
            go_upto_region 4 with fail
            (try rw [← Hb3.out])
            generalize u3.alloc (.cells #[.int .i64 (W : Int), .int .i64 (H : Int), .int .i64 (P : Int), .slice (some ⟨g, 0, none⟩) n c3] 25) = u4 at *
            go_wp2_with fail
            refine (paste_any W H P PW PH hW1 hW hH1 hH hP1 hP hPW hPH X Y hX0 hX1 hY0 hY1 u2.heap.size w.heap.size g c3 n xs Hn.out HLn.out A2 c2 ps HPn.out hpc u4 HO3.out (HpW.out.below HB3.out) (by omega) (by omega)).mono ?_
            rintro e u5 ⟨rfl, hO5, hG5⟩
            have HQ5 := HQ3.out.kept hG5 (by simp; exact fun h => hgb h)
            have HR5 := HR3.out.kept hG5 (by simp; exact fun h => hgr h)
            obtain ⟨t0, t1, t2, t3⟩ := HQ5.im
            obtain ⟨r0, r1, r2, r3⟩ := HR5.im
            have f0 := HR5.fz 0
            have f1 := HR5.fz 1
            have f2 := HR5.fz 2
            have f3 := HR5.fz 3
            have HLL : Hid (n = (pasteL W H P xs X Y PW PH ps).length) := Lib.hid (by unfold pasteL; rw [img_len, Hn.out, HLn.out])
            have HE : Hid (∀ v0 v1 v2 v3 : Value, SetR (pasteOk W H P xs X Y PW PH P ps) W H P (pasteL W H P xs X Y PW PH ps) w (.returned (.tuple #[.agg #[.int .i64 (W : Int), .int .i64 (H : Int), .int .i64 (P : Int), .slice (some ⟨g, 0, none⟩) n c3], .bool true])) ((((u5.setCell ⟨r, 0, none⟩ v0).setCell ⟨r, 1, none⟩ v1).setCell ⟨r, 2, none⟩ v2).setCell ⟨r, 3, none⟩ v3)) := Lib.hid fun v0 v1 v2 v3 =>
              SetR.yesR HT.out hrw hO5 hrlt (HB3.out.grown hG5 (by have := HB3.out.size; omega) (fun k hk => by injection hk with hk; omega)) v0 v1 v2 v3
            clear HQ5 HR5 hO5 hG5 p0 p1 p2 p3 q0 q1 q2 q3
            go_wp2
            exact bodyPost_ret (v := .tuple #[.agg #[.int .i64 (W : Int), .int .i64 (H : Int), .int .i64 (P : Int), .slice (some ⟨g, 0, none⟩) n c3], .bool true]) (by simp [results, Try.results10, go_sem, r0, r1, r2, r3]) rfl (HE.out _ _ _ _)
      · have HF : Hid (pasteOk W H P xs X Y PW PH PP ps = false) := Lib.hid (by rw [HOK.out]; simp [hPP])
        obtain ⟨r0, r1, r2, r3⟩ := HR2.out.im
        have f0 := HR2.out.fz 0
        have f1 := HR2.out.fz 1
        have f2 := HR2.out.fz 2
        have f3 := HR2.out.fz 3
        skip
        go_wp2
        exact bodyPost_ret (v := .tuple #[.agg #[.int .i64 0, .int .i64 0, .int .i64 0, .slice none 0 0], .bool false]) (by simp [results, Try.results10, go_sem, r0, r1, r2, r3]) rfl (SetR.noR HF.out hrw HB2.out _ _ _ _)
end Go.Proofs.Ytlmpkanlfhjijaa
