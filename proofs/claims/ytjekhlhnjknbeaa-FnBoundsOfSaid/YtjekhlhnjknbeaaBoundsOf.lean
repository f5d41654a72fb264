/- Whatever the code: the bounds of drawn runs are what the model tells; of a region they have all pixels, and each of their sides has one of its pixels. -/
import Derived.Test.YtjekhlhnjknbeaaRows
import Derived.WalkKit
import Derived.ProofKit
import Derived.OpenShut
import Derived.ShutString
import Derived.ChangeOld
import Derived.Below
import Derived.Test.YtjekhlhnjknbeaaBnC
import Derived.Test.YtjekhlhnjknbeaaReg3
import Derived.Deep.RegionHeld3
namespace Go.Proofs.Ytjekhlhnjknbeaa.fnBoundsOf
open Go.ChangeShapes Go.WideShapes Go.ChangeAt Go.RowKit
open Go.ChangeMaps (open_string shut_string)
set_option linter.unusedVariables false

theorem lbox {u W : World} {g : Nat} {T : TypeId} {x y bw bh : Int} (hb : Below u.heap.size u W) (hs : g < u.heap.size) (hg : u.heap[g]? = some (.cells #[.int .i64 x, .int .i64 y, .int .i64 bw, .int .i64 bh] T (0, 0))) :
    W.cell? ⟨g, 0, none⟩ = some (.int .i64 x) ∧ W.cell? ⟨g, 1, none⟩ = some (.int .i64 y) ∧ W.cell? ⟨g, 2, none⟩ = some (.int .i64 bw) ∧ W.cell? ⟨g, 3, none⟩ = some (.int .i64 bh) := by
  have h := (hb.block g hs).trans hg
  refine ⟨?_, ?_, ?_, ?_⟩ <;> (rw [cell_of_row _ _ _ _ _ _ h]; rfl)
set_option maxHeartbeats 32000000 in
theorem walk (w : World) (a0 : Option Addr) (cap0 : Nat) (z0 : List Int) (hc0 : z0.length ≤ cap0) (w0 : Rdw .u8 w w.heap.size a0 z0) :
    Calls Try.prog 12 #[.slice a0 z0.length cap0] w fun e w' => e = .returned (.bool true) ∧ Below w.heap.size w w' := by
  have hm := w0.2.1
  unfold maxLen at hm
  by_cases hlen : 1048576 < z0.length
  · go_enter Try.func12, Try.ntmps12
    go_wp2
    go_ret
    exact ⟨rfl, Below.refl _ _⟩
  · have HD := Lib.hid (drawBounds_any a0 cap0 z0 w hc0 w0)
    clear w0 hc0
    go_enter Try.func12, Try.ntmps12
    go_wp2_with fail
    refine HD.out.mono ?_
    rintro e w1 ⟨v1, n, xs, rfl, hn, hO1, hb1⟩
    obtain ⟨A1, c1, rfl, hc1⟩ := hO1.slice
    have HX : Hid (xs.length = 3 * n) := Lib.hid (by have := hO1.len; omega)
    have HR1 := Lib.hid hO1.rds
    have HB1 := Lib.hid hb1
    clear hO1 hb1
    obtain ⟨X, hX⟩ : ∃ X, X = bX xs n := ⟨_, rfl⟩
    obtain ⟨Y, hY⟩ : ∃ X, X = bY xs n := ⟨_, rfl⟩
    obtain ⟨W, hW⟩ : ∃ X, X = bW xs n := ⟨_, rfl⟩
    obtain ⟨H, hH⟩ : ∃ X, X = bH xs n := ⟨_, rfl⟩
    obtain ⟨ok, hok⟩ : ∃ X, X = bok xs n := ⟨_, rfl⟩
    have HI : Hid (∀ u, Rds .i64 u u.heap.size A1 xs → Calls Try.prog 32 #[.slice A1 n c1] u fun e w' => e = .returned (.tuple #[.agg #[.int .i64 X, .int .i64 Y, .int .i64 W, .int .i64 H], .bool ok]) ∧ Below u.heap.size u w') := Lib.hid (fun u hu => by
      rw [hX, hY, hW, hH, hok]; exact i_BoundsOf A1 n c1 u.heap.size xs u HX.out hu (Nat.le_refl _) (by omega))
    have HS : Hid (∀ u, Rds .i64 u u.heap.size A1 xs → Calls Try.prog 43 #[.slice A1 n c1] u fun e w' => e = .returned (.tuple #[.agg #[.int .i64 X, .int .i64 Y, .int .i64 W, .int .i64 H], .bool ok]) ∧ Below u.heap.size u w') := Lib.hid (fun u hu => by
      rw [hX, hY, hW, hH, hok]; exact s_BoundsOf A1 n c1 u.heap.size xs u HX.out hu (Nat.le_refl _) (by omega))
    have HL : Hid (ok = true → (((0 ≤ X ∧ X ≤ 15) ∧ (1 ≤ W ∧ X + W ≤ 16) ∧ (0 ≤ Y ∧ Y ≤ 15) ∧ (1 ≤ H ∧ Y + H ≤ 16)) ∧
      cbN 2 xs n (brL X Y W H) (brN X Y W H) = 0 ∧ 0 < cbN 1 xs n (brL X Y 1 H) (brN X Y 1 H) ∧ 0 < cbN 1 xs n (brL X Y W 1) (brN X Y W 1) ∧
      0 < cbN 1 xs n (brL (X + W - 1) Y 1 H) (brN (X + W - 1) Y 1 H) ∧ 0 < cbN 1 xs n (brL X (Y + H - 1) W 1) (brN X (Y + H - 1) W 1))) := Lib.hid (fun h => by
        rw [hok] at h
        obtain ⟨e1, e2, e3, e4⟩ := b_yes h
        have h' := h
        unfold bok at h'
        simp only [Bool.and_eq_true, decide_eq_true_eq] at h'
        exact bnd_law (regB_of h'.2) h'.1 (hX.trans e1) (hY.trans e2) (hW.trans e3) (hH.trans e4))
    clear hX hY hW hH hok
    go_wp2_with fail
    refine (HI.out w1 HR1.out).mono ?_
    rintro e w2 ⟨rfl, hb2⟩
    have HR2 := Lib.hid ((HR1.out.below hb2).more hb2.size)
    have HB2 := Lib.hid (HB1.out.trans (hb2.mono HB1.out.size))
    have HRu := Lib.hid ((HR2.out.alloc (Nat.le_refl _) (.cells #[.int .i64 X, .int .i64 Y, .int .i64 W, .int .i64 H] 47)).more (show w2.heap.size ≤ (w2.alloc (.cells #[.int .i64 X, .int .i64 Y, .int .i64 W, .int .i64 H] 47)).heap.size by simp))
    have HBu := Lib.hid (HB2.out.alloc HB2.out.size (.cells #[.int .i64 X, .int .i64 Y, .int .i64 W, .int .i64 H] 47))
    have Hg := Lib.hid (show (w2.alloc (.cells #[.int .i64 X, .int .i64 Y, .int .i64 W, .int .i64 H] 47)).heap[w2.heap.size]? = some (.cells #[.int .i64 X, .int .i64 Y, .int .i64 W, .int .i64 H] 47 (0, 0)) from heap_alloc_new w2 _)
    have Hs : Hid (w2.heap.size < (w2.alloc (.cells #[.int .i64 X, .int .i64 Y, .int .i64 W, .int .i64 H] 47)).heap.size) := Lib.hid (by simp)
    clear hb2 HR1 HB1 HR2 HB2 HI
    go_wp2_with fail
    generalize w2.alloc (.cells #[.int .i64 X, .int .i64 Y, .int .i64 W, .int .i64 H] 47) = u at *
    refine (HS.out u HRu.out).mono ?_
    rintro e w3 ⟨rfl, hb3⟩
    obtain ⟨b, hb⟩ : ∃ b, b = w2.heap.size := ⟨_, rfl⟩
    rw [← hb] at Hg Hs ⊢
    have HB3 := Lib.hid (HBu.out.trans (hb3.mono HBu.out.size))
    have HR3 := Lib.hid ((HRu.out.below hb3).more hb3.size)
    have HUV := Lib.hid (hb3.alloc hb3.size (.cells #[.int .i64 X, .int .i64 Y, .int .i64 W, .int .i64 H] 47))
    obtain ⟨g0, g1, g2, g3⟩ := lbox HUV.out Hs.out Hg.out
    have HG8 := Lib.hid (show (w3.alloc (.cells #[.int .i64 X, .int .i64 Y, .int .i64 W, .int .i64 H] 47)).heap[w3.heap.size]? = some (.cells #[.int .i64 X, .int .i64 Y, .int .i64 W, .int .i64 H] 47 (0, 0)) from heap_alloc_new w3 _)
    have q0 : (w3.alloc (.cells #[.int .i64 X, .int .i64 Y, .int .i64 W, .int .i64 H] 47)).cell? ⟨w3.heap.size, 0, none⟩ = some (.int .i64 X) := by rw [cell_of_row _ _ _ _ _ _ HG8.out]; rfl
    have q1 : (w3.alloc (.cells #[.int .i64 X, .int .i64 Y, .int .i64 W, .int .i64 H] 47)).cell? ⟨w3.heap.size, 1, none⟩ = some (.int .i64 Y) := by rw [cell_of_row _ _ _ _ _ _ HG8.out]; rfl
    have q2 : (w3.alloc (.cells #[.int .i64 X, .int .i64 Y, .int .i64 W, .int .i64 H] 47)).cell? ⟨w3.heap.size, 2, none⟩ = some (.int .i64 W) := by rw [cell_of_row _ _ _ _ _ _ HG8.out]; rfl
    have q3 : (w3.alloc (.cells #[.int .i64 X, .int .i64 Y, .int .i64 W, .int .i64 H] 47)).cell? ⟨w3.heap.size, 3, none⟩ = some (.int .i64 H) := by rw [cell_of_row _ _ _ _ _ _ HG8.out]; rfl
    have HBV := Lib.hid (HB3.out.alloc HB3.out.size (.cells #[.int .i64 X, .int .i64 Y, .int .i64 W, .int .i64 H] 47))
    have HRV := Lib.hid ((HR3.out.alloc (Nat.le_refl _) (.cells #[.int .i64 X, .int .i64 Y, .int .i64 W, .int .i64 H] 47)).more (show w3.heap.size ≤ (w3.alloc (.cells #[.int .i64 X, .int .i64 Y, .int .i64 W, .int .i64 H] 47)).heap.size by simp))
    clear hb3 hb HB3 HR3
    cases ok
    · go_wp2
      go_ret
      exact ⟨rfl, HBV.out⟩
    · obtain ⟨hb0, hf0, hf1, hf2, hf3, hf4⟩ := HL.out rfl
      obtain ⟨⟨x0, x1⟩, ⟨wd0, wd1⟩, ⟨y0, y1⟩, ht0, ht1⟩ := hb0
      have K0 : Hid (∀ u, Calls Try.prog 44 #[.agg #[.int .i64 X, .int .i64 Y, .int .i64 W, .int .i64 H]] u fun e w' => ∃ A N c L, e = .returned (.tuple #[.slice A N c, .bool true]) ∧ (N ≤ 16 ∧ L.length = 3 * N ∧ cbN 2 xs n L N = 0) ∧ Rds .i64 w' w'.heap.size A L ∧ Below u.heap.size u w') := Lib.hid (fun u => (i_BoxRegion X Y W H u).mono (by
        rintro e w' ⟨v, rfl, hO, hb⟩
        obtain ⟨A, c, rfl, _⟩ := hO.slice
        have hft : ftB X Y W H 16 16 = true := ftB_yes (by omega)
        rw [hft]
        exact ⟨A, _, c, _, rfl, ⟨brN_le _ _ _ _, by unfold brL; rw [brow_len]; omega, hf0⟩, hO.rds, hb⟩))
      have K1 : Hid (∀ u, Calls Try.prog 44 #[.agg #[.int .i64 X, .int .i64 Y, .int .i64 1, .int .i64 H]] u fun e w' => ∃ A N c L, e = .returned (.tuple #[.slice A N c, .bool true]) ∧ (N ≤ 16 ∧ L.length = 3 * N ∧ 0 < cbN 1 xs n L N) ∧ Rds .i64 w' w'.heap.size A L ∧ Below u.heap.size u w') := Lib.hid (fun u => (i_BoxRegion X Y 1 H u).mono (by
        rintro e w' ⟨v, rfl, hO, hb⟩
        obtain ⟨A, c, rfl, _⟩ := hO.slice
        have hft : ftB X Y 1 H 16 16 = true := ftB_yes (by omega)
        rw [hft]
        exact ⟨A, _, c, _, rfl, ⟨brN_le _ _ _ _, by unfold brL; rw [brow_len]; omega, hf1⟩, hO.rds, hb⟩))
      have K2 : Hid (∀ u, Calls Try.prog 44 #[.agg #[.int .i64 X, .int .i64 Y, .int .i64 W, .int .i64 1]] u fun e w' => ∃ A N c L, e = .returned (.tuple #[.slice A N c, .bool true]) ∧ (N ≤ 16 ∧ L.length = 3 * N ∧ 0 < cbN 1 xs n L N) ∧ Rds .i64 w' w'.heap.size A L ∧ Below u.heap.size u w') := Lib.hid (fun u => (i_BoxRegion X Y W 1 u).mono (by
        rintro e w' ⟨v, rfl, hO, hb⟩
        obtain ⟨A, c, rfl, _⟩ := hO.slice
        have hft : ftB X Y W 1 16 16 = true := ftB_yes (by omega)
        rw [hft]
        exact ⟨A, _, c, _, rfl, ⟨brN_le _ _ _ _, by unfold brL; rw [brow_len]; omega, hf2⟩, hO.rds, hb⟩))
      have K3 : Hid (∀ u, Calls Try.prog 44 #[.agg #[.int .i64 (X + W - 1), .int .i64 Y, .int .i64 1, .int .i64 H]] u fun e w' => ∃ A N c L, e = .returned (.tuple #[.slice A N c, .bool true]) ∧ (N ≤ 16 ∧ L.length = 3 * N ∧ 0 < cbN 1 xs n L N) ∧ Rds .i64 w' w'.heap.size A L ∧ Below u.heap.size u w') := Lib.hid (fun u => (i_BoxRegion (X + W - 1) Y 1 H u).mono (by
        rintro e w' ⟨v, rfl, hO, hb⟩
        obtain ⟨A, c, rfl, _⟩ := hO.slice
        have hft : ftB (X + W - 1) Y 1 H 16 16 = true := ftB_yes (by omega)
        rw [hft]
        exact ⟨A, _, c, _, rfl, ⟨brN_le _ _ _ _, by unfold brL; rw [brow_len]; omega, hf3⟩, hO.rds, hb⟩))
      have K4 : Hid (∀ u, Calls Try.prog 44 #[.agg #[.int .i64 X, .int .i64 (Y + H - 1), .int .i64 W, .int .i64 1]] u fun e w' => ∃ A N c L, e = .returned (.tuple #[.slice A N c, .bool true]) ∧ (N ≤ 16 ∧ L.length = 3 * N ∧ 0 < cbN 1 xs n L N) ∧ Rds .i64 w' w'.heap.size A L ∧ Below u.heap.size u w') := Lib.hid (fun u => (i_BoxRegion X (Y + H - 1) W 1 u).mono (by
        rintro e w' ⟨v, rfl, hO, hb⟩
        obtain ⟨A, c, rfl, _⟩ := hO.slice
        have hft : ftB X (Y + H - 1) W 1 16 16 = true := ftB_yes (by omega)
        rw [hft]
        exact ⟨A, _, c, _, rfl, ⟨brN_le _ _ _ _, by unfold brL; rw [brow_len]; omega, hf4⟩, hO.rds, hb⟩))
      clear hf0 hf1 hf2 hf3 hf4 HS HL
      go_wp2_with fail
      refine (K0.out _).mono ?_
      rintro e t0 ⟨D0, M0, d0, L0, rfl, ⟨hM0, hl0, hf0⟩, hr0, hb⟩
      have HRt0 := Lib.hid ((HRV.out.below hb).more hb.size)
      have HBt0 := Lib.hid (HBV.out.trans (hb.mono HBV.out.size))
      have HUt0 := Lib.hid (HUV.out.trans (hb.mono HUV.out.size))
      have HQ0_0 := Lib.hid hr0
      have HLn0 := Lib.hid hl0
      have HF0 := Lib.hid hf0
      obtain ⟨s0_0, s0_1, s0_2, s0_3⟩ := lbox HUt0.out Hs.out Hg.out
      clear hb hr0 hl0 hf0 K0 HRV HBV HUV 
      clear g0 g1 g2 g3 q0 q1 q2 q3 HG8
      go_wp2_with fail
      refine (K1.out _).mono ?_
      rintro e t1 ⟨D1, M1, d1, L1, rfl, ⟨hM1, hl1, hf1⟩, hr1, hb⟩
      have HRt1 := Lib.hid ((HRt0.out.below hb).more hb.size)
      have HBt1 := Lib.hid (HBt0.out.trans (hb.mono HBt0.out.size))
      have HUt1 := Lib.hid (HUt0.out.trans (hb.mono HUt0.out.size))
      have HQ0_1 := Lib.hid ((HQ0_0.out.below hb).more hb.size)
      have HQ1_1 := Lib.hid hr1
      have HLn1 := Lib.hid hl1
      have HF1 := Lib.hid hf1
      obtain ⟨s1_0, s1_1, s1_2, s1_3⟩ := lbox HUt1.out Hs.out Hg.out
      clear hb hr1 hl1 hf1 K1 HRt0 HBt0 HUt0 HQ0_0
      clear s0_0 s0_1 s0_2 s0_3
      go_wp2_with fail
      refine (K2.out _).mono ?_
      rintro e t2 ⟨D2, M2, d2, L2, rfl, ⟨hM2, hl2, hf2⟩, hr2, hb⟩
      have HRt2 := Lib.hid ((HRt1.out.below hb).more hb.size)
      have HBt2 := Lib.hid (HBt1.out.trans (hb.mono HBt1.out.size))
      have HUt2 := Lib.hid (HUt1.out.trans (hb.mono HUt1.out.size))
      have HQ0_2 := Lib.hid ((HQ0_1.out.below hb).more hb.size)
      have HQ1_2 := Lib.hid ((HQ1_1.out.below hb).more hb.size)
      have HQ2_2 := Lib.hid hr2
      have HLn2 := Lib.hid hl2
      have HF2 := Lib.hid hf2
      obtain ⟨s2_0, s2_1, s2_2, s2_3⟩ := lbox HUt2.out Hs.out Hg.out
      clear hb hr2 hl2 hf2 K2 HRt1 HBt1 HUt1 HQ0_1 HQ1_1
      clear s1_0 s1_1 s1_2 s1_3
      go_wp2_with fail
      refine (K3.out _).mono ?_
      rintro e t3 ⟨D3, M3, d3, L3, rfl, ⟨hM3, hl3, hf3⟩, hr3, hb⟩
      have HRt3 := Lib.hid ((HRt2.out.below hb).more hb.size)
      have HBt3 := Lib.hid (HBt2.out.trans (hb.mono HBt2.out.size))
      have HUt3 := Lib.hid (HUt2.out.trans (hb.mono HUt2.out.size))
      have HQ0_3 := Lib.hid ((HQ0_2.out.below hb).more hb.size)
      have HQ1_3 := Lib.hid ((HQ1_2.out.below hb).more hb.size)
      have HQ2_3 := Lib.hid ((HQ2_2.out.below hb).more hb.size)
      have HQ3_3 := Lib.hid hr3
      have HLn3 := Lib.hid hl3
      have HF3 := Lib.hid hf3
      obtain ⟨s3_0, s3_1, s3_2, s3_3⟩ := lbox HUt3.out Hs.out Hg.out
      clear hb hr3 hl3 hf3 K3 HRt2 HBt2 HUt2 HQ0_2 HQ1_2 HQ2_2
      clear s2_0 s2_1 s2_2 s2_3
      go_wp2_with fail
      refine (K4.out _).mono ?_
      rintro e t4 ⟨D4, M4, d4, L4, rfl, ⟨hM4, hl4, hf4⟩, hr4, hb⟩
      have HRt4 := Lib.hid ((HRt3.out.below hb).more hb.size)
      have HBt4 := Lib.hid (HBt3.out.trans (hb.mono HBt3.out.size))
      have HUt4 := Lib.hid (HUt3.out.trans (hb.mono HUt3.out.size))
      have HQ0_4 := Lib.hid ((HQ0_3.out.below hb).more hb.size)
      have HQ1_4 := Lib.hid ((HQ1_3.out.below hb).more hb.size)
      have HQ2_4 := Lib.hid ((HQ2_3.out.below hb).more hb.size)
      have HQ3_4 := Lib.hid ((HQ3_3.out.below hb).more hb.size)
      have HQ4_4 := Lib.hid hr4
      have HLn4 := Lib.hid hl4
      have HF4 := Lib.hid hf4
      obtain ⟨s4_0, s4_1, s4_2, s4_3⟩ := lbox HUt4.out Hs.out Hg.out
      clear hb hr4 hl4 hf4 K4 HRt3 HBt3 HUt3 HQ0_3 HQ1_3 HQ2_3 HQ3_3
      clear s3_0 s3_1 s3_2 s3_3
      clear s4_0 s4_1 s4_2 s4_3 HUt4 Hg Hs HBu HRu
      go_wp2_with fail
      refine (combined_any A1 D0 n M0 c1 d0 xs L0 2 t4 HX.out HRt4.out (by omega) HLn0.out HQ0_4.out (by omega)).mono ?_
      rintro e v0 ⟨z, rfl, hO, hb⟩
      obtain ⟨E0, e0, rfl, _⟩ := hO.slice
      rw [HF0.out]
      have HRv0 := Lib.hid ((HRt4.out.below hb).more hb.size)
      have HBv0 := Lib.hid (HBt4.out.trans (hb.mono HBt4.out.size))
      have HQ1_5 := Lib.hid ((HQ1_4.out.below hb).more hb.size)
      have HQ2_5 := Lib.hid ((HQ2_4.out.below hb).more hb.size)
      have HQ3_5 := Lib.hid ((HQ3_4.out.below hb).more hb.size)
      have HQ4_5 := Lib.hid ((HQ4_4.out.below hb).more hb.size)
      clear hb hO HRt4 HBt4 HQ0_4 HQ1_4 HQ2_4 HQ3_4 HQ4_4
      go_wp2_with fail
      refine (combined_any A1 D1 n M1 c1 d1 xs L1 1 v0 HX.out HRv0.out (by omega) HLn1.out HQ1_5.out (by omega)).mono ?_
      rintro e v1 ⟨z, rfl, hO, hb⟩
      obtain ⟨E1, e1, rfl, _⟩ := hO.slice
      have hp1 := HF1.out
      have hpb1 := (cb_len 1 xs n L1 M1).2
      generalize cbN 1 xs n L1 M1 = p1 at *
      have HRv1 := Lib.hid ((HRv0.out.below hb).more hb.size)
      have HBv1 := Lib.hid (HBv0.out.trans (hb.mono HBv0.out.size))
      have HQ2_6 := Lib.hid ((HQ2_5.out.below hb).more hb.size)
      have HQ3_6 := Lib.hid ((HQ3_5.out.below hb).more hb.size)
      have HQ4_6 := Lib.hid ((HQ4_5.out.below hb).more hb.size)
      clear hb hO HRv0 HBv0 HQ1_5 HQ2_5 HQ3_5 HQ4_5
      go_wp2_with fail
      refine (combined_any A1 D2 n M2 c1 d2 xs L2 1 v1 HX.out HRv1.out (by omega) HLn2.out HQ2_6.out (by omega)).mono ?_
      rintro e v2 ⟨z, rfl, hO, hb⟩
      obtain ⟨E2, e2, rfl, _⟩ := hO.slice
      have hp2 := HF2.out
      have hpb2 := (cb_len 1 xs n L2 M2).2
      generalize cbN 1 xs n L2 M2 = p2 at *
      have HRv2 := Lib.hid ((HRv1.out.below hb).more hb.size)
      have HBv2 := Lib.hid (HBv1.out.trans (hb.mono HBv1.out.size))
      have HQ3_7 := Lib.hid ((HQ3_6.out.below hb).more hb.size)
      have HQ4_7 := Lib.hid ((HQ4_6.out.below hb).more hb.size)
      clear hb hO HRv1 HBv1 HQ2_6 HQ3_6 HQ4_6
      go_wp2_with fail
      refine (combined_any A1 D3 n M3 c1 d3 xs L3 1 v2 HX.out HRv2.out (by omega) HLn3.out HQ3_7.out (by omega)).mono ?_
      rintro e v3 ⟨z, rfl, hO, hb⟩
      obtain ⟨E3, e3, rfl, _⟩ := hO.slice
      have hp3 := HF3.out
      have hpb3 := (cb_len 1 xs n L3 M3).2
      generalize cbN 1 xs n L3 M3 = p3 at *
      have HRv3 := Lib.hid ((HRv2.out.below hb).more hb.size)
      have HBv3 := Lib.hid (HBv2.out.trans (hb.mono HBv2.out.size))
      have HQ4_8 := Lib.hid ((HQ4_7.out.below hb).more hb.size)
      clear hb hO HRv2 HBv2 HQ3_7 HQ4_7
      go_wp2_with fail
      refine (combined_any A1 D4 n M4 c1 d4 xs L4 1 v3 HX.out HRv3.out (by omega) HLn4.out HQ4_8.out (by omega)).mono ?_
      rintro e v4 ⟨z, rfl, hO, hb⟩
      obtain ⟨E4, e4, rfl, _⟩ := hO.slice
      have hp4 := HF4.out
      have hpb4 := (cb_len 1 xs n L4 M4).2
      generalize cbN 1 xs n L4 M4 = p4 at *
      have HRv4 := Lib.hid ((HRv3.out.below hb).more hb.size)
      have HBv4 := Lib.hid (HBv3.out.trans (hb.mono HBv3.out.size))
      clear hb hO HRv3 HBv3 HQ4_8
      go_wp2
      go_ret
      exact ⟨rfl, HBv4.out⟩

/-! ### From the walk to the statement. -/
theorem own : ownKnob Try.prog.godebug = none := by kernel_rfl
theorem laidOut : laidOutB Try.prog = true := by kernel_rfl
set_option maxRecDepth 100000 in
theorem lifted (os : Os) (started : os.Started) (H : Type) (enc : TypeId × Value → H) :
    ReturnsInHanded {} Try.checked os 12 .any (Rows.fnBoundsOfSpec.pre6 enc Try.prog Try.f12 Rows.fnBoundsOfRow.domain false) (Rows.fnBoundsOfSpec.post enc Try.prog Try.f12 false true false false) := by
  refine returnsInHanded_of_change (C := Try.checked) own started (by kernel_rfl) Try.func12
    (ChangeSpec.witness6 (enc := enc) (C := Try.checked) false ⟨#[], #[.slice none 0 0], []⟩ 8 (by kernel_rfl) (by kernel_rfl) (by kernel_rfl) (by kernel_rfl)) ?_
  intro W base args ds gs before hval0 hW hcnd _
  have hval : ∀ (j : Nat) t v, Try.f12.params[j]? = some t → args[j]? = some v → Value.okWide Try.prog W .any base t v := hval0
  have hW' := hW
  obtain ⟨p, q, hA0, hV, rfl, hfz, hnd⟩ := hW
  have hA : DataW.TrodAll enc Try.prog W 0 (fun _ => true) true Try.f12.params.toList args.toList ds p := hA0
  rw [Try.params12] at hA hval
  obtain ⟨v0, vs0, d0, ds0, p0, q0, hargs, rfl, rfl, h0, r0⟩ := trodAll_cons hA
  obtain ⟨rfl, rfl, rfl⟩ := trodAll_nil r0
  obtain rfl : args = #[v0] := by cases args; simp_all
  obtain ⟨rfl, rfl⟩ := trodVars_none hV
  obtain ⟨a0, len0, cap0, rfl⟩ := okWide_slice Try.underlying43 (hval 0 43 v0 rfl rfl)
  have k0 := h0
  have lt0 : ∀ x ∈ p0, x.block < W.heap.size := by obtain ⟨m, hm⟩ := k0; exact DataW.trod_lt m _ _ _ hm
  obtain ⟨z0, hl0, hc0, w0⟩ : ∃ zs : List Int, len0 = zs.length ∧ zs.length ≤ cap0 ∧ Rdw .u8 W W.heap.size a0 zs := by
    obtain ⟨fuel, hf⟩ := h0
    rcases open_ints Try.underlying43 Try.underlying5 (by kernel_rfl) hf with ⟨hcs, _⟩ | ⟨x, l, c, zs, hcs, _, hl, hm, hz, _, hcell, hwz⟩
    · simp [Value.cells] at hcs
      obtain ⟨rfl, rfl, rfl⟩ := hcs
      exact ⟨[], rfl, Nat.le_refl _, Rdw.nil⟩
    · simp [Value.cells] at hcs
      obtain ⟨rfl, rfl, rfl⟩ := hcs
      exact ⟨zs.take len0, by simp at hz ⊢; omega, by simp at hz ⊢; omega, Rdw.of_row hl hm (by simpa using hz) hcell hwz⟩
  subst hl0
  clear hA0 hval0
  refine (walk W a0 cap0 z0 hc0 w0).mono fun e W' ⟨he, bel⟩ => ?_
  subst he
  exact ⟨_, rfl, _, _, _, [], _, [], hW', trodAll_mk1 (shut_bool Try.underlying4 _), (trodAll_cons_mk (Below.trod laidOut (by kernel_rfl) (of_decide_eq_true (by kernel_rfl)) k0 bel lt0) trodAll_mk0), rfl, bel.frame _, fun h => by cases h⟩

theorem over : Rows.fnBoundsOfRow.holds Try.pinned (OpenSpec.ofChange Rows.fnBoundsOfSpec) :=
  OpenClaim.holds_of_wide 12 Try.f12 rfl rfl rfl rfl rfl rfl rfl ⟨rfl, rfl, rfl, rfl, rfl⟩ rfl rfl rfl rfl rfl (by kernel_rfl) Try.func12 (by kernel_rfl)
    (of_decide_eq_true (by kernel_rfl)) (by unfold Func.isWrapper; first | (rw [if_pos (by decide +kernel)]; kernel_rfl) | (rw [if_neg (by decide +kernel)]; exact ⟨rfl, rfl⟩))
    (fun os started H enc _ => lifted os started H enc)

theorem proved : Rows.FnBoundsOfSaid := over
end Go.Proofs.Ytjekhlhnjknbeaa.fnBoundsOf
