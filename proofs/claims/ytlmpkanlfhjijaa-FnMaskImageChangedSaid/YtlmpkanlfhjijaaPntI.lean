/- Contracts of the painting of regions, in the program. -/
import Derived.Test.YtlmpkanlfhjijaaPntM
import Derived.Test.YtlmpkanlfhjijaaPasteI
import Derived.Test.YtlmpkanlfhjijaaGridF
import Derived.Test.YtlmpkanlfhjijaaReg2
import Derived.Deep.RegionHeld3
import Derived.Shelf.Abstract
namespace Go.Proofs.Ytlmpkanlfhjijaa
open Go.RowKit Go.Shelf
set_option linter.unusedSimpArgs false
set_option linter.unusedVariables false
set_option maxRecDepth 20000

theorem keepT {W W' : World} {g : Nat} {B : Nat} {u0 u1 u2 : Option Value} (hB : Below B W W') (hg : g < B) (c0 : W.cell? ⟨g, 0, none⟩ = u0) (c1 : W.cell? ⟨g, 1, none⟩ = u1) (c2 : W.cell? ⟨g, 2, none⟩ = u2) :
    W'.cell? ⟨g, 0, none⟩ = u0 ∧ W'.cell? ⟨g, 1, none⟩ = u1 ∧ W'.cell? ⟨g, 2, none⟩ = u2 :=
  ⟨(hB.cell (p := ⟨g, 0, none⟩) hg).trans c0, (hB.cell (p := ⟨g, 1, none⟩) hg).trans c1, (hB.cell (p := ⟨g, 2, none⟩) hg).trans c2⟩
theorem keepTg {W W' : World} {g r : Nat} {u0 u1 u2 : Option Value} (hG : W.grownBy W' (some r)) (hg : g < W.heap.size) (hne : g ≠ r) (c0 : W.cell? ⟨g, 0, none⟩ = u0) (c1 : W.cell? ⟨g, 1, none⟩ = u1) (c2 : W.cell? ⟨g, 2, none⟩ = u2) :
    W'.cell? ⟨g, 0, none⟩ = u0 ∧ W'.cell? ⟨g, 1, none⟩ = u1 ∧ W'.cell? ⟨g, 2, none⟩ = u2 :=
  ⟨(World.cell?_of_block (hG.block g hg (by simpa using hne))).trans c0, (World.cell?_of_block (hG.block g hg (by simpa using hne))).trans c1, (World.cell?_of_block (hG.block g hg (by simpa using hne))).trans c2⟩
theorem psetR_any (W H : Nat) (hW : W ≤ 16) (hH : H ≤ 16) (base g c n : Nat) (hn : W * H = n) (rs : List Int) (G F : Nat → Nat → Nat → Int) (k x y : Nat) (hx : x < W) (hy : y < H) (hyk : gY rs k = y) (hf : gF rs k ≤ (x : Nat)) (ds : List Int) (hF : Pnt W H 4 rs G F k (x : Nat) ds) (w : World)
    (hO : OwnC w base (.slice (some ⟨g, 0, none⟩) n c) n ds) (hc : n ≤ c) :
    Calls Try.prog 83 #[.agg #[.int .i64 (W : Int), .int .i64 (H : Int), .slice (some ⟨g, 0, none⟩) n c], .int .i64 (x : Int), .int .i64 (y : Int), colV (G x y)] w
      fun e w' => e = .returned (.tuple #[]) ∧ (∃ ds', w'.ownsRow base 70 4 (.slice (some ⟨g, 0, none⟩) n c) n (ds'.map (.int .i64)) ∧ Pnt W H 4 rs G F k ((x + 1 : Nat) : Int) ds') ∧ w.grownBy w' (some g) := by
  have hd : ds = img W H 4 (px W 4 ds) := (img_of hF.1).symm
  have hO' : OwnC w base (.slice (some ⟨g, 0, none⟩) n c) n (img W H 4 (px W 4 ds)) := by rw [← hd]; exact hO
  have h := set_any W H hW hH base g c n hn (px W 4 ds) x y hx hy [G x y 0, G x y 1, G x y 2, G x y 3] w hO' hc
  refine h.mono ?_
  rintro e w' ⟨he, hO2, hG⟩
  refine ⟨he, ⟨_, hO2, ?_⟩, hG⟩
  have hs := hF.step (q := [G x y 0, G x y 1, G x y 2, G x y 3]) hx hy rfl hyk hf (fun p hp => by
    match p, hp with
    | 0, _ => rfl
    | 1, _ => rfl
    | 2, _ => rfl
    | 3, _ => rfl)
  have e2 : setk W 4 x y [G x y 0, G x y 1, G x y 2, G x y 3] ds 4 = img W H 4 (setF (px W 4 ds) x y [G x y 0, G x y 1, G x y 2, G x y 3]) := by
    conv => lhs; rw [hd]
    exact setk_img _ hx hy
  rw [e2] at hs
  simpa using hs
set_option maxHeartbeats 16000000 in
theorem paintM_any (W H P : Nat) (hW1 : 1 ≤ W) (hW : W ≤ 16) (hH1 : 1 ≤ H) (hH : H ≤ 16) (hP1 : 1 ≤ P) (hP : P ≤ 4) (A A3 : Option Addr) (c n c3 : Nat) (xs rs : List Int) (hxl : xs.length = W * H * P) (hlc : xs.length ≤ c) (w : World) (hx : Rds .i64 w w.heap.size A xs) (hr : Rds .i64 w w.heap.size A3 rs) (hrl : rs.length = 3 * n) (hn : n ≤ 2000000) (hg : reg rs n) (G : Nat → Nat → Nat → Int) (A2 : Option Addr) (m9 c2 : Nat) (hm2 : W * H = m9) (hr2 : Rds .i64 w w.heap.size A2 (img W H 4 G)) (hc2 : m9 ≤ c2) :
    Calls Try.prog 67 #[.agg #[.int .i64 (W : Int), .int .i64 (H : Int), .int .i64 (P : Int), .slice A xs.length c], .slice A3 n c3, .func (.func 48) #[.agg #[.int .i64 (W : Int), .int .i64 (H : Int), .slice A2 m9 c2]] #[]] w (MadeI W H P (img W H P (pntF rs n G (pxc W P xs))) w) := by
  have HX := Lib.hid hx
  have HR := Lib.hid hr
  have HRL := Lib.hid hrl
  have HG := Lib.hid hg
  have HXL := Lib.hid hxl
  have HR2 := Lib.hid hr2
  have HM2 := Lib.hid hm2
  have eg : ∀ args w, (callFunc 48 args).run Try.prog w = .ok (.enter 48 args) w := enters_of Try.func48 (by kernel_rfl) rfl
  clear hr2 hm2
  clear hx hr hrl hg hxl
  have S0 := ((GS.start w).box' 25 #[.int .i64 (W : Int), .int .i64 (H : Int), .int .i64 (P : Int), .slice A xs.length c] w.heap.size (by simp)).box' 25 #[.int .i64 0, .int .i64 0, .int .i64 0, .slice none 0 0] (w.heap.size + 1) (by simp)
  go_enter Try.func67, Try.ntmps67
  go_wp2_with fail
  generalize (w.alloc (.cells #[.int .i64 (W : Int), .int .i64 (H : Int), .int .i64 (P : Int), .slice A xs.length c] 25)).alloc (.cells #[.int .i64 0, .int .i64 0, .int .i64 0, .slice none 0 0] 25) = u0 at *
  refine (gridOf_any W H P hW hH hP1 hP hW1 hH1 A c xs HXL.out hlc u0 (S0.arg HX.out)).mono ?_
  rintro e u5 ⟨v5, rfl, hO5, hB5⟩
  have hwh : 0 < W * H := Nat.mul_pos hW1 hH1
  obtain ⟨g, cg, rfl, hg1, hg2⟩ := hO5.form hwh
  obtain ⟨m, hm⟩ : ∃ m, W * H = m := ⟨_, rfl⟩
  have hmc : m ≤ cg := by
    obtain ⟨A9, c9, h9, hc9⟩ := hO5.slice
    simp only [Value.slice.injEq] at h9
    omega
  rw [hm] at hO5 ⊢
  have HMm := Lib.hid hm
  obtain ⟨gb, hgb⟩ : ∃ gb, gb = u5.heap.size := ⟨_, rfl⟩
  have hl0 := S0.l0
  have HI : Hid (Pnt W H 4 rs G (pxc W P xs) 0 (gF rs 0) (img W H 4 (pxc W P xs)) ∧ GS w (u5.alloc (.cells #[.int .i64 (W : Int), .int .i64 (H : Int), .slice (some ⟨g, 0, none⟩) m cg] 66)) [rt 70 4 u0.heap.size u5.heap.size (.slice (some ⟨g, 0, none⟩) m cg) m (img W H 4 (pxc W P xs))] [⟨gb, 66, #[.int .i64 (W : Int), .int .i64 (H : Int), .slice (some ⟨g, 0, none⟩) m cg]⟩, ⟨w.heap.size + 1, 25, #[.int .i64 0, .int .i64 0, .int .i64 0, .slice none 0 0]⟩, ⟨w.heap.size, 25, #[.int .i64 (W : Int), .int .i64 (H : Int), .int .i64 (P : Int), .slice A xs.length c]⟩]) := Lib.hid ⟨Pnt.start (img_len W H 4 _) (fun x y p hx hy hp => img_px _ hx hy hp), (S0.addT hO5 hB5).box' _ _ gb hgb⟩
  have Hg1 := Lib.hid (show w.heap.size + 2 ≤ g ∧ g < gb by omega)
  have HBX : Hid (∀ (k : Nat), k < n → (0 ≤ gY rs k ∧ gY rs k ≤ 15) ∧ (0 ≤ gF rs k ∧ gF rs k ≤ 15) ∧ (gF rs k + 1 ≤ gT rs k ∧ gT rs k ≤ 16)) := Lib.hid (fun k hk => bnds HG.out hk)
  clear hO5 hB5 S0 hl0 hg1 hg2 hwh hm
  go_wp2
  rw [← hgb]
  generalize u5.alloc (.cells #[.int .i64 (W : Int), .int .i64 (H : Int), .slice (some ⟨g, 0, none⟩) m cg] 66) = u6 at *
  clear hgb
  go_loopw [15] (fun i wr => ∃ (k : Nat) (ds : List Int), k ≤ n ∧ i = .int .i64 k ∧ Hid (Pnt W H 4 rs G (pxc W P xs) k (gF rs k) ds ∧ GS w wr [rt 70 4 u0.heap.size u5.heap.size (.slice (some ⟨g, 0, none⟩) m cg) m ds] [⟨gb, 66, #[.int .i64 (W : Int), .int .i64 (H : Int), .slice (some ⟨g, 0, none⟩) m cg]⟩, ⟨w.heap.size + 1, 25, #[.int .i64 0, .int .i64 0, .int .i64 0, .slice none 0 0]⟩, ⟨w.heap.size, 25, #[.int .i64 (W : Int), .int .i64 (H : Int), .int .i64 (P : Int), .slice A xs.length c]⟩])) (fun i _ => n - (intOf i).toNat)
  case atStart => exact ⟨0, _, Nat.zero_le _, rfl, HI⟩
  case round =>
    clear HI
    obtain ⟨k, ds, hk, rfl, hI⟩ := hrel
    rename World => wv
    obtain ⟨hF, hS⟩ := hI.out
    by_cases hlt : k < n
    · obtain ⟨t0, t1, t2⟩ := trio hlt HRL.out
      obtain ⟨b, off, rfl, hb, hc⟩ := HR.out.cells_ t0
      obtain ⟨⟨hy0, hy1⟩, ⟨hf0, hf1⟩, ht0, ht1⟩ := HBX.out k hlt
      obtain ⟨f, hf⟩ : ∃ f : Nat, gF rs k = f := ⟨(gF rs k).toNat, by omega⟩
      obtain ⟨t, ht⟩ : ∃ t : Nat, gT rs k = t := ⟨(gT rs k).toNat, by omega⟩
      obtain ⟨y, hyy⟩ : ∃ y : Nat, gY rs k = y := ⟨(gY rs k).toNat, by omega⟩
      have hc0 : wv.cell? ⟨b, off + k * 3, none⟩ = some (.int .i64 (gY rs k)) := cellB hS.below hb (hc _ t0)
      have hc1 : wv.cell? ⟨b, off + k * 3 + 1, none⟩ = some (.int .i64 (gF rs k)) := cellB hS.below hb (hc _ t1)
      have hc2 : wv.cell? ⟨b, off + k * 3 + 2, none⟩ = some (.int .i64 (gT rs k)) := cellB hS.below hb (hc _ t2)
      rw [hyy] at hc0
      rw [hf] at hc1
      rw [ht] at hc2
      have HYY := Lib.hid hyy
      have HFF := Lib.hid hf
      have HTT := Lib.hid ht
      obtain ⟨rb, hrb⟩ : ∃ rb, rb = wv.heap.size := ⟨_, rfl⟩
      have HJ : Hid (Pnt W H 4 rs G (pxc W P xs) k (f : Nat) ds ∧ GS w (wv.alloc (.cells #[.int .i64 (y : Int), .int .i64 (f : Int), .int .i64 (t : Int)] 82)) [rt 70 4 u0.heap.size u5.heap.size (.slice (some ⟨g, 0, none⟩) m cg) m ds] [⟨rb, 82, #[.int .i64 (y : Int), .int .i64 (f : Int), .int .i64 (t : Int)]⟩, ⟨gb, 66, #[.int .i64 (W : Int), .int .i64 (H : Int), .slice (some ⟨g, 0, none⟩) m cg]⟩, ⟨w.heap.size + 1, 25, #[.int .i64 0, .int .i64 0, .int .i64 0, .slice none 0 0]⟩, ⟨w.heap.size, 25, #[.int .i64 (W : Int), .int .i64 (H : Int), .int .i64 (P : Int), .slice A xs.length c]⟩]) := Lib.hid (by rw [← hf]; exact ⟨hF, hS.box' _ _ rb hrb⟩)
      have hft : f + 1 ≤ t := by omega
      have ht16 : t ≤ 16 := by omega
      have hy15 : y ≤ 15 := by omega
      have Hrg := Lib.hid (show g < rb by have := (World.ownsRow.lt hS.ot0 g rfl).2; omega)
      clear hF hS hI hc hy0 hy1 hf0 hf1 ht0 ht1 hf ht hyy
      go_upto_region 5 with fail
      rw [← hrb]
      generalize wv.alloc (.cells #[.int .i64 (y : Int), .int .i64 (f : Int), .int .i64 (t : Int)] 82) = wz at *
      clear hc0 hc1 hc2 hrb
      obtain ⟨z0, z1, z2⟩ := HJ.out.2.b0_3
      go_wp2
      clear z0 z1 z2
      go_loopw [10] (fun i wr => ∃ (x : Nat) (ds : List Int), f ≤ x ∧ x ≤ t ∧ i = .int .i64 x ∧ Hid (Pnt W H 4 rs G (pxc W P xs) k (x : Nat) ds ∧ GS w wr [rt 70 4 u0.heap.size u5.heap.size (.slice (some ⟨g, 0, none⟩) m cg) m ds] [⟨rb, 82, #[.int .i64 (y : Int), .int .i64 (f : Int), .int .i64 (t : Int)]⟩, ⟨gb, 66, #[.int .i64 (W : Int), .int .i64 (H : Int), .slice (some ⟨g, 0, none⟩) m cg]⟩, ⟨w.heap.size + 1, 25, #[.int .i64 0, .int .i64 0, .int .i64 0, .slice none 0 0]⟩, ⟨w.heap.size, 25, #[.int .i64 (W : Int), .int .i64 (H : Int), .int .i64 (P : Int), .slice A xs.length c]⟩])) (fun i _ => t - (intOf i).toNat)
      case atStart => exact ⟨f, ds, Nat.le_refl _, by omega, rfl, HJ⟩
      case round =>
        clear HJ
        obtain ⟨x, ds, hfx, hxt, rfl, hI⟩ := hrel
        rename World => wx
        obtain ⟨hF, hS⟩ := hI.out
        obtain ⟨z0, z1, z2⟩ := hS.b0_3
        obtain ⟨n0, n1, n2⟩ := hS.b1_3
        by_cases hxlt : x < t
        · have HPF := Lib.hid hF
          have HSX := Lib.hid hS
          have hxlt2 : (x : Int) < (t : Int) := by omega
          clear hF hS hI
          go_wp2_with fail
          refine (has_any W H _ (x : Int) (y : Int) ⟨by omega, by omega⟩ ⟨by omega, by omega⟩ wx).mono ?_
          rintro e w8 ⟨rfl, hB8⟩
          have HS8 := Lib.hid (HSX.out.call hB8)
          clear hB8 HSX z0 z1 z2 n0 n1 n2
          cases ho : onIm W H (x : Int) (y : Int)
          · have HN : Hid (Pnt W H 4 rs G (pxc W P xs) (k + 1) (gF rs (k + 1)) ds ∧ GS w w8 [rt 70 4 u0.heap.size u5.heap.size (.slice (some ⟨g, 0, none⟩) m cg) m ds] [⟨gb, 66, #[.int .i64 (W : Int), .int .i64 (H : Int), .slice (some ⟨g, 0, none⟩) m cg]⟩, ⟨w.heap.size + 1, 25, #[.int .i64 0, .int .i64 0, .int .i64 0, .slice none 0 0]⟩, ⟨w.heap.size, 25, #[.int .i64 (W : Int), .int .i64 (H : Int), .int .i64 (P : Int), .slice A xs.length c]⟩]) := Lib.hid ⟨HPF.out.next (by rw [HTT.out]; omega) (by rw [HYY.out]; simp only [onIm, Bool.and_eq_false_iff, decide_eq_false_iff_not] at ho; omega), HS8.out.drop⟩
            clear ho HS8 HPF
            go_wp2
            go_roundw
            case rel => exact ⟨k + 1, ds, by omega, by go_num, HN⟩
            case measure => simp [intOf]; omega
          · obtain ⟨hxW, hyH⟩ : x < W ∧ y < H := by
              simp only [onIm, Bool.and_eq_true, decide_eq_true_eq] at ho
              omega
            obtain ⟨m0, m1, m2⟩ := HS8.out.b1_3
            obtain ⟨p0, p1, p2⟩ := HS8.out.b0_3
            have hml := HS8.out.l1
            have hpl := HS8.out.l0
            have hgq := Hg1.out
            have hrg := Hrg.out
            have hgl : g < w8.heap.size := (World.ownsRow.lt HS8.out.ot0 g rfl).2
            have HXr := Lib.hid (HS8.out.arg HR2.out)
            clear ho
            go_wp2
            go_region_held3 (fun w' => (w'.cell? ⟨gb, 0, none⟩ = some (.int .i64 (W : Int)) ∧ w'.cell? ⟨gb, 1, none⟩ = some (.int .i64 (H : Int)) ∧ w'.cell? ⟨gb, 2, none⟩ = some (.slice (some ⟨g, 0, none⟩) m cg)) ∧ (w'.cell? ⟨rb, 0, none⟩ = some (.int .i64 (y : Int)) ∧ w'.cell? ⟨rb, 1, none⟩ = some (.int .i64 (f : Int)) ∧ w'.cell? ⟨rb, 2, none⟩ = some (.int .i64 (t : Int))))
              (first | (with_reducible exact ⟨⟨k0, k1, k2⟩, k3, k4, k5⟩) | (with_reducible exact ⟨⟨d0, d1, d2⟩, d3, d4, d5⟩) | exact ⟨⟨m0, m1, m2⟩, p0, p1, p2⟩)
              (first | (go_at_call 48; refine (at_n W H m9 HM2.out hW hH A2 c2 G x y hxW hyH _ (by exact HXr.out) hc2).mono ?_; rintro e w9 ⟨rfl, hB9⟩; obtain ⟨d0, d1, d2⟩ := keepT hB9 (by exact hml) m0 m1 m2; obtain ⟨d3, d4, d5⟩ := keepT hB9 (by exact hpl) p0 p1 p2; have HB9 : Hid (Below w8.heap.size w8 w9) := Lib.hid ((Below.refl w8.heap.size w8).drew.trans hB9); have HS9 := Lib.hid (HS8.out.call HB9.out); clear hB9) | (go_at_call 83; refine (psetR_any W H hW hH u0.heap.size g cg m HMm.out rs G (pxc W P xs) k x y hxW hyH HYY.out (by rw [HFF.out]; omega) ds HPF.out _ (by exact HS9.out.ot0) hmc).mono ?_; rintro e w10 ⟨rfl, ⟨ds', hO10, hF10⟩, hG10⟩; have hz9 := HB9.out.size; obtain ⟨k0, k1, k2⟩ := keepTg hG10 (by omega) (show gb ≠ g by omega) d0 d1 d2; obtain ⟨k3, k4, k5⟩ := keepTg hG10 (by omega) (show rb ≠ g by omega) d3 d4 d5; have HN : Hid (Pnt W H 4 rs G (pxc W P xs) k ((x + 1 : Nat) : Int) ds' ∧ GS w w10 [rt 70 4 u0.heap.size u5.heap.size (.slice (some ⟨g, 0, none⟩) m cg) m ds'] [⟨rb, 82, #[.int .i64 (y : Int), .int .i64 (f : Int), .int .i64 (t : Int)]⟩, ⟨gb, 66, #[.int .i64 (W : Int), .int .i64 (H : Int), .slice (some ⟨g, 0, none⟩) m cg]⟩, ⟨w.heap.size + 1, 25, #[.int .i64 0, .int .i64 0, .int .i64 0, .slice none 0 0]⟩, ⟨w.heap.size, 25, #[.int .i64 (W : Int), .int .i64 (H : Int), .int .i64 (P : Int), .slice A xs.length c]⟩]) := Lib.hid ⟨hF10, GS.markT (L1 := []) HS9.out hO10 hG10⟩; clear hO10 hG10 hF10))
            all_goals
              clear d0 d1 d2 d3 d4 d5 k0 k1 k2 k3 k4 k5 m0 m1 m2 p0 p1 p2
              (try go_wp2)
              go_roundw
              case rel => exact ⟨x + 1, _, by omega, by omega, by go_num, HN⟩
              case measure => simp [intOf]; omega
        · have hxe : x = t := by omega
          have HN : Hid (Pnt W H 4 rs G (pxc W P xs) (k + 1) (gF rs (k + 1)) ds ∧ GS w wx [rt 70 4 u0.heap.size u5.heap.size (.slice (some ⟨g, 0, none⟩) m cg) m ds] [⟨gb, 66, #[.int .i64 (W : Int), .int .i64 (H : Int), .slice (some ⟨g, 0, none⟩) m cg]⟩, ⟨w.heap.size + 1, 25, #[.int .i64 0, .int .i64 0, .int .i64 0, .slice none 0 0]⟩, ⟨w.heap.size, 25, #[.int .i64 (W : Int), .int .i64 (H : Int), .int .i64 (P : Int), .slice A xs.length c]⟩]) := Lib.hid ⟨hF.next (by rw [HTT.out]; omega) (.inl (by rw [HTT.out]; omega)), hS.drop⟩
          clear hF hS hI hxe
          go_wp2
          go_roundw
          case rel => exact ⟨k + 1, ds, by omega, by go_num, HN⟩
          case measure => simp [intOf]; omega
    · have hk' : k = n := by omega
      have e : ds = img W H 4 (pntF rs n G (pxc W P xs)) := by subst hk'; exact hF.done
      rw [e] at hS
      obtain ⟨m0, m1, m2⟩ := hS.b0_3
      obtain ⟨b0, b1, b2, b3⟩ := hS.b2_4
      have hrd := hS.t0
      have HS := Lib.hid hS
      have HI := Lib.hid (show Calls Try.prog 41 #[.agg #[.int .i64 (W : Int), .int .i64 (H : Int), .slice (some ⟨g, 0, none⟩) m cg], .int .i64 (P : Int)] wv (MadeI W H P (img W H P (pntF rs n G (pxc W P xs))) wv) from by have h := imageOf_any W H P hW hH hP (some ⟨g, 0, none⟩) cg (pntF rs n G (pxc W P xs)) wv hrd (by rw [HMm.out]; exact hmc); rw [HMm.out] at h; exact h)
      clear hS hF hI e hk' hrd
      generalize img W H P (pntF rs n G (pxc W P xs)) = is at *
      go_wp2_with fail
      refine HI.out.mono ?_
      rintro e u7 ⟨v7, rfl, hO7, hB7⟩
      obtain ⟨A7, c7, rfl, hc7⟩ := hO7.slice
      have S7 := HS.out.add hO7 hB7
      obtain ⟨r0, r1, r2, r3⟩ := S7.b1_4
      have f0 := S7.f1 0
      have f1 := S7.f1 1
      have f2 := S7.f1 2
      have f3 := S7.f1 3
      have HE := Lib.hid (S7.e1_4 (.int .i64 (W : Int)) (.int .i64 (H : Int)) (.int .i64 (P : Int)) (.slice A7 is.length c7))
      clear S7 HS hO7 hB7 hc7 b0 b1 b2 b3 m0 m1 m2 HI
      generalize is.length = nl at *
      go_wp2
      exact bodyPost_ret (v := .agg #[.int .i64 (W : Int), .int .i64 (H : Int), .int .i64 (P : Int), .slice A7 nl c7]) (by simp [results, Try.results67, go_sem, r0, r1, r2, r3]) rfl ⟨_, rfl, HE.out.2 _ (List.Mem.head _), HE.out.1⟩
end Go.Proofs.Ytlmpkanlfhjijaa
