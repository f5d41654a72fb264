/- Contract of the pasting of grids of colors, in the program. -/
import Derived.Test.YtlmpkanlfhjijaaPasteS
import Derived.Test.YtlmpkanlfhjijaaPasteI
import Derived.Test.YtlmpkanlfhjijaaSetI
import Derived.Test.YtlmpkanlfhjijaaSpoil
import Derived.Deep.RegionHeld3
namespace Go.Proofs.Ytlmpkanlfhjijaa
open Go.RowKit Go.Shelf
set_option linter.unusedSimpArgs false
set_option linter.unusedVariables false

theorem keepT {W W' : World} {g : Nat} {B : Nat} {u0 u1 u2 : Option Value} (hB : Below B W W') (hg : g < B) (c0 : W.cell? ⟨g, 0, none⟩ = u0) (c1 : W.cell? ⟨g, 1, none⟩ = u1) (c2 : W.cell? ⟨g, 2, none⟩ = u2) :
    W'.cell? ⟨g, 0, none⟩ = u0 ∧ W'.cell? ⟨g, 1, none⟩ = u1 ∧ W'.cell? ⟨g, 2, none⟩ = u2 :=
  ⟨(hB.cell (p := ⟨g, 0, none⟩) hg).trans c0, (hB.cell (p := ⟨g, 1, none⟩) hg).trans c1, (hB.cell (p := ⟨g, 2, none⟩) hg).trans c2⟩
theorem keepTg {W W' : World} {g r : Nat} {u0 u1 u2 : Option Value} (hG : W.grownBy W' (some r)) (hg : g < W.heap.size) (hne : g ≠ r) (c0 : W.cell? ⟨g, 0, none⟩ = u0) (c1 : W.cell? ⟨g, 1, none⟩ = u1) (c2 : W.cell? ⟨g, 2, none⟩ = u2) :
    W'.cell? ⟨g, 0, none⟩ = u0 ∧ W'.cell? ⟨g, 1, none⟩ = u1 ∧ W'.cell? ⟨g, 2, none⟩ = u2 :=
  ⟨(World.cell?_of_block (hG.block g hg (by simpa using hne))).trans c0, (World.cell?_of_block (hG.block g hg (by simpa using hne))).trans c1, (World.cell?_of_block (hG.block g hg (by simpa using hne))).trans c2⟩
theorem pset_any (W H : Nat) (hW : W ≤ 16) (hH : H ≤ 16) (base g c n : Nat) (hn : W * H = n) (M : Nat → Nat → Nat → Int) (X Y : Int) (PW y x : Nat) (hx : x < PW) (F : Nat → Nat → Nat → Int) (ys : List Int) (hF : Pst W H 4 F M X Y PW y x ys) (tx ty : Nat) (htx : tx < W) (hty : ty < H) (ha : X + (x : Int) = tx) (hb : Y + (y : Int) = ty) (w : World)
    (hO : OwnC w base (.slice (some ⟨g, 0, none⟩) n c) n ys) (hc : n ≤ c) :
    Calls Try.prog 83 #[.agg #[.int .i64 (W : Int), .int .i64 (H : Int), .slice (some ⟨g, 0, none⟩) n c], .int .i64 (X + (x : Int)), .int .i64 (Y + (y : Int)), colV (F x y)] w
      fun e w' => e = .returned (.tuple #[]) ∧ (∃ ys', OwnC w' base (.slice (some ⟨g, 0, none⟩) n c) n ys' ∧ Pst W H 4 F M X Y PW y (x + 1) ys') ∧ w.grownBy w' (some g) := by
  have hd := hF.done
  rw [hd] at hO
  have h := set_any W H hW hH base g c n hn (paF F M X Y PW y x) tx ty htx hty [F x y 0, F x y 1, F x y 2, F x y 3] w hO hc
  rw [ha, hb]
  refine h.mono ?_
  rintro e w' ⟨he, hO', hG⟩
  refine ⟨he, ⟨_, hO', ?_⟩, hG⟩
  have hs := hF.step (q := [F x y 0, F x y 1, F x y 2, F x y 3]) hx htx hty ha hb (fun p hp => by
    match p, hp with
    | 0, _ => rfl
    | 1, _ => rfl
    | 2, _ => rfl
    | 3, _ => rfl)
  rw [hd, setk_img _ htx hty] at hs
  exact hs
set_option maxHeartbeats 8000000 in
theorem gpaste_any (W H n PW PH m : Nat) (hn : W * H = n) (hm : PW * PH = m) (hW : W ≤ 16) (hH : H ≤ 16) (hPW : PW ≤ 16) (hPH : PH ≤ 16) (X Y : Int) (hX0 : -16 ≤ X) (hX1 : X ≤ 16) (hY0 : -16 ≤ Y) (hY1 : Y ≤ 16) (base B g c2 : Nat) (hnc : n ≤ c2) (F M : Nat → Nat → Nat → Int)
    (A : Option Addr) (c : Nat) (hmc : m ≤ c) (w : World) (hO : OwnC w base (.slice (some ⟨g, 0, none⟩) n c2) n (img W H 4 M)) (hx : Rds .i64 w B A (img PW PH 4 F)) (hBw : B ≤ w.heap.size) (lo : Nat) (hlo : ∀ a : Addr, A = some a → lo ≤ a.block) (hglo : g < lo) (hgw : g < w.heap.size) :
    Calls Try.prog 40 #[.agg #[.int .i64 (W : Int), .int .i64 (H : Int), .slice (some ⟨g, 0, none⟩) n c2], .int .i64 X, .int .i64 Y, .agg #[.int .i64 (PW : Int), .int .i64 (PH : Int), .slice A m c]] w
      fun e w' => e = .returned (.tuple #[]) ∧ OwnC w' base (.slice (some ⟨g, 0, none⟩) n c2) n (img W H 4 (paF F M X Y PW PH 0)) ∧ w.grownBy w' (some g) := by
  obtain ⟨u1, hu⟩ : ∃ u1, u1 = (w.alloc (.cells #[.int .i64 (W : Int), .int .i64 (H : Int), .slice (some ⟨g, 0, none⟩) n c2] 66)).alloc (.cells #[.int .i64 (PW : Int), .int .i64 (PH : Int), .slice A m c] 66) := ⟨_, rfl⟩
  have HI0 : Hid (∃ ys, OwnC u1 base (.slice (some ⟨g, 0, none⟩) n c2) n ys ∧ Pst W H 4 F M X Y PW 0 0 ys ∧ Bx u1 w.heap.size 66 #[.int .i64 (W : Int), .int .i64 (H : Int), .slice (some ⟨g, 0, none⟩) n c2] ∧ Bx u1 (w.heap.size + 1) 66 #[.int .i64 (PW : Int), .int .i64 (PH : Int), .slice A m c] ∧ w.grownBy u1 (some g)) :=
    Lib.hid ⟨img W H 4 M, by rw [hu]; exact (hO.alloc _).alloc _, ⟨img_len _ _ _ _, fun i j p hi hj hp => by rw [img_px M hi hj hp]; unfold paF; rw [if_neg (by omega)]⟩, by rw [hu]; exact (Bx.new w 66 _).alloc _, by rw [hu]; have := Bx.new (w.alloc (.cells #[.int .i64 (W : Int), .int .i64 (H : Int), .slice (some ⟨g, 0, none⟩) n c2] 66)) 66 #[.int .i64 (PW : Int), .int .i64 (PH : Int), .slice A m c]; simpa using this, by rw [hu]; exact gtrans (World.grownBy_alloc w _ _) (World.grownBy_alloc _ _ _)⟩
  have Hx := Lib.hid hx
  have HU := Lib.hid hu
  obtain ⟨ys00, _, _, hM1, hT1, _⟩ := HI0.out
  obtain ⟨t0, t1, t2⟩ := bx3 hT1
  clear hx hu hO hM1 hT1
  go_enter Try.func40, Try.ntmps40
  go_wp2_with fail
  rw [← HU.out]
  clear HU
  go_wp2
  clear t0 t1 t2
  go_loopw [12] (fun iy wr => ∃ y : Nat, y ≤ PH ∧ iy = .int .i64 y ∧ Hid (∃ ys, OwnC wr base (.slice (some ⟨g, 0, none⟩) n c2) n ys ∧ Pst W H 4 F M X Y PW y 0 ys ∧ Bx wr w.heap.size 66 #[.int .i64 (W : Int), .int .i64 (H : Int), .slice (some ⟨g, 0, none⟩) n c2] ∧ Bx wr (w.heap.size + 1) 66 #[.int .i64 (PW : Int), .int .i64 (PH : Int), .slice A m c] ∧ w.grownBy wr (some g))) (fun iy _ => PH - (intOf iy).toNat)
  case atStart => exact ⟨0, Nat.zero_le _, rfl, HI0⟩
  case round =>
    obtain ⟨y, hy, rfl, hI⟩ := hrel
    obtain ⟨ys, hO, hF, hM, hT, hG⟩ := hI.out
    by_cases hylt : y < PH
    · obtain ⟨t0, t1, t2⟩ := bx3 hT
      clear hO hF hM hT hG ys
      go_wp2
      clear t0 t1 t2
      go_loopw [17] (fun ix wr => ∃ x : Nat, x ≤ PW ∧ ix = .int .i64 x ∧ Hid (∃ ys, OwnC wr base (.slice (some ⟨g, 0, none⟩) n c2) n ys ∧ Pst W H 4 F M X Y PW y x ys ∧ Bx wr w.heap.size 66 #[.int .i64 (W : Int), .int .i64 (H : Int), .slice (some ⟨g, 0, none⟩) n c2] ∧ Bx wr (w.heap.size + 1) 66 #[.int .i64 (PW : Int), .int .i64 (PH : Int), .slice A m c] ∧ w.grownBy wr (some g))) (fun ix _ => PW - (intOf ix).toNat)
      case atStart => exact ⟨0, Nat.zero_le _, rfl, hI⟩
      case round =>
        obtain ⟨x, hxx, rfl, hJ⟩ := hrel
        clear hI HI0
        obtain ⟨ys, hO, hF, hM, hT, hG⟩ := hJ.out
        obtain ⟨m0, m1, m2⟩ := bx3 hM
        obtain ⟨t0, t1, t2⟩ := bx3 hT
        by_cases hxlt : x < PW
        · have HO := Lib.hid hO
          have HF := Lib.hid hF
          have HM := Lib.hid hM
          have HT := Lib.hid hT
          have HG := Lib.hid hG
          have hwr := hG.size
          clear hO hF hM hT hG hJ
          have rw0 : IntKind.i64.wrap (X + (x : Int)) = X + (x : Int) := IntWalk.i64_in _ (by omega)
          have rw1 : IntKind.i64.wrap (Y + (y : Int)) = Y + (y : Int) := IntWalk.i64_in _ (by omega)
          go_wp2_with fail
          refine (has_any W H (.slice (some ⟨g, 0, none⟩) n c2) (X + (x : Int)) (Y + (y : Int)) ⟨by omega, by omega⟩ ⟨by omega, by omega⟩ wr).mono ?_
          rintro e wq ⟨rfl, hBq⟩
          have HO' := Lib.hid (HO.out.below hBq (Nat.le_refl _))
          have HM' := Lib.hid (HM.out.below hBq)
          have HT' := Lib.hid (HT.out.below hBq)
          have HG' := Lib.hid (gtrans HG.out (grown_of_below hBq _))
          have hwq : w.heap.size ≤ wq.heap.size := Nat.le_trans hwr hBq.size
          clear m0 m1 m2 t0 t1 t2 hBq HO HM HT HG hwr
          cases ho : onIm W H (X + (x : Int)) (Y + (y : Int))
          · have HN : Hid (∃ ys, OwnC wq base (.slice (some ⟨g, 0, none⟩) n c2) n ys ∧ Pst W H 4 F M X Y PW y (x + 1) ys ∧ Bx wq w.heap.size 66 #[.int .i64 (W : Int), .int .i64 (H : Int), .slice (some ⟨g, 0, none⟩) n c2] ∧ Bx wq (w.heap.size + 1) 66 #[.int .i64 (PW : Int), .int .i64 (PH : Int), .slice A m c] ∧ w.grownBy wq (some g)) :=
              Lib.hid ⟨ys, HO'.out, HF.out.skip (by simp only [onIm, Bool.and_eq_false_iff, decide_eq_false_iff_not] at ho; omega), HM'.out, HT'.out, HG'.out⟩
            clear ho HO' HM' HT' HG' rw0 rw1
            go_wp2
            go_roundw
            case rel => exact ⟨x + 1, by omega, by go_num, HN⟩
            case measure => simp [intOf]; omega
          · obtain ⟨tx, ty, htx, hty, hXt, hYt⟩ : ∃ tx ty : Nat, tx < W ∧ ty < H ∧ X + (x : Int) = tx ∧ Y + (y : Int) = ty := by
              simp only [onIm, Bool.and_eq_true, decide_eq_true_eq] at ho
              exact ⟨(X + (x : Int)).toNat, (Y + (y : Int)).toNat, by omega, by omega, by omega, by omega⟩
            have HXt := Lib.hid hXt
            have HYt := Lib.hid hYt
            have HXr : Hid (Rds .i64 wq wq.heap.size A (img PW PH 4 F)) := Lib.hid ((Rds.offG Hx.out hBw hlo HG'.out hglo).more (show B ≤ wq.heap.size by omega))
            obtain ⟨m0, m1, m2⟩ := bx3 HM'.out
            obtain ⟨t0, t1, t2⟩ := bx3 HT'.out
            have hml := HM'.out.lt
            have htl := HT'.out.lt
            clear ho hXt hYt
            go_wp2
            go_region_held3 (fun w' => (w'.cell? ⟨w.heap.size, 0, none⟩ = some (.int .i64 (W : Int)) ∧ w'.cell? ⟨w.heap.size, 1, none⟩ = some (.int .i64 (H : Int)) ∧ w'.cell? ⟨w.heap.size, 2, none⟩ = some (.slice (some ⟨g, 0, none⟩) n c2)) ∧ (w'.cell? ⟨w.heap.size + 1, 0, none⟩ = some (.int .i64 (PW : Int)) ∧ w'.cell? ⟨w.heap.size + 1, 1, none⟩ = some (.int .i64 (PH : Int)) ∧ w'.cell? ⟨w.heap.size + 1, 2, none⟩ = some (.slice A m c)))
              (first | (with_reducible exact ⟨⟨k0, k1, k2⟩, k3, k4, k5⟩) | (with_reducible exact ⟨⟨d0, d1, d2⟩, d3, d4, d5⟩) | exact ⟨⟨m0, m1, m2⟩, t0, t1, t2⟩)
              (first | (go_at_call 48; refine (at_n PW PH m hm hPW hPH A c F x y hxlt hylt _ (by exact HXr.out) hmc).mono ?_; rintro e w5 ⟨rfl, hB5⟩; obtain ⟨d0, d1, d2⟩ := keepT hB5 (by exact hml) m0 m1 m2; obtain ⟨d3, d4, d5⟩ := keepT hB5 (by exact htl) t0 t1 t2; have HB5 : Hid (Below wq.heap.size wq w5) := Lib.hid ((Below.refl wq.heap.size wq).drew.trans hB5); clear hB5) | (go_at_call 83; refine (pset_any W H hW hH base g c2 n hn M X Y PW y x hxlt F ys HF.out tx ty htx hty (by exact HXt.out) (by exact HYt.out) _ (by exact HO'.out.below HB5.out (Nat.le_refl _)) hnc).mono ?_; rintro e w6 ⟨rfl, ⟨ys6, hO6, hF6⟩, hG6⟩; have hz5 := HB5.out.size; obtain ⟨k0, k1, k2⟩ := keepTg hG6 (by omega) (show w.heap.size ≠ g by omega) d0 d1 d2; obtain ⟨k3, k4, k5⟩ := keepTg hG6 (by omega) (show w.heap.size + 1 ≠ g by omega) d3 d4 d5; have HN : Hid (∃ ys, OwnC w6 base (.slice (some ⟨g, 0, none⟩) n c2) n ys ∧ Pst W H 4 F M X Y PW y (x + 1) ys ∧ Bx w6 w.heap.size 66 #[.int .i64 (W : Int), .int .i64 (H : Int), .slice (some ⟨g, 0, none⟩) n c2] ∧ Bx w6 (w.heap.size + 1) 66 #[.int .i64 (PW : Int), .int .i64 (PH : Int), .slice A m c] ∧ w.grownBy w6 (some g)) := Lib.hid ⟨ys6, hO6, hF6, (HM'.out.below HB5.out).kept hG6 (by simp; omega), (HT'.out.below HB5.out).kept hG6 (by simp; omega), gtrans (gtrans HG'.out (grown_of_below HB5.out _)) hG6⟩; clear hO6 hG6 hF6))
            all_goals
              clear d0 d1 d2 d3 d4 d5 k0 k1 k2 k3 k4 k5 m0 m1 m2 t0 t1 t2 rw0 rw1
              (try go_wp2)
              go_roundw
              case rel => exact ⟨x + 1, by omega, by go_num, HN⟩
              case measure => simp [intOf]; omega
        · have hxW : x = PW := by omega
          rw [hxW] at hF
          clear hxW
          have HN : Hid (∃ ys, OwnC wr base (.slice (some ⟨g, 0, none⟩) n c2) n ys ∧ Pst W H 4 F M X Y PW (y + 1) 0 ys ∧ Bx wr w.heap.size 66 #[.int .i64 (W : Int), .int .i64 (H : Int), .slice (some ⟨g, 0, none⟩) n c2] ∧ Bx wr (w.heap.size + 1) 66 #[.int .i64 (PW : Int), .int .i64 (PH : Int), .slice A m c] ∧ w.grownBy wr (some g)) := Lib.hid ⟨ys, hO, hF.row, hM, hT, hG⟩
          clear hO hF hM hT hG hJ
          go_wp2
          go_roundw
          case rel => exact ⟨y + 1, by omega, by go_num, HN⟩
          case measure => simp [intOf]; omega
    · have hyH : y = PH := by omega
      have hE : ys = img W H 4 (paF F M X Y PW PH 0) := (by rw [← hyH]; exact hF.done)
      have hO' := hO
      rw [hE] at hO'
      have HE := Lib.hid hO'
      have HG := Lib.hid hG
      clear hO hF hM hT hG hI hE hO' hyH
      go_wp2
      go_end0
      exact ⟨rfl, HE.out, HG.out⟩
end Go.Proofs.Ytlmpkanlfhjijaa
