/- Whatever the code: the region of a drawn box is what the model tells; its bounds are the box, its area is the width times the height of the box, and it is a region. -/
import Derived.Test.YtkchhcphljcloaaRows
import Derived.WalkKit
import Derived.ProofKit
import Derived.OpenShut
import Derived.ShutString
import Derived.ChangeOld
import Derived.Below
import Derived.Test.YtkchhcphljcloaaBoxL
import Derived.Test.YtkchhcphljcloaaBnd
import Derived.Test.YtkchhcphljcloaaDrawBox2
import Derived.Deep.RegionHeld3
namespace Go.Proofs.Ytkchhcphljcloaa.fnBoxRegion
open Go.ChangeShapes Go.WideShapes Go.ChangeAt Go.RowKit
open Go.ChangeMaps (open_string shut_string)
set_option linter.unusedVariables false

set_option maxRecDepth 20000
theorem lbox {u W : World} {g : Nat} {T : TypeId} {x y bw bh : Int} (hb : Below u.heap.size u W) (hs : g < u.heap.size) (hg : u.heap[g]? = some (.cells #[.int .i64 x, .int .i64 y, .int .i64 bw, .int .i64 bh] T (0, 0))) :
    W.cell? ⟨g, 0, none⟩ = some (.int .i64 x) ∧ W.cell? ⟨g, 1, none⟩ = some (.int .i64 y) ∧ W.cell? ⟨g, 2, none⟩ = some (.int .i64 bw) ∧ W.cell? ⟨g, 3, none⟩ = some (.int .i64 bh) := by
  have h := (hb.block g hs).trans hg
  refine ⟨?_, ?_, ?_, ?_⟩ <;> (rw [cell_of_row _ _ _ _ _ _ h]; rfl)
theorem lbel {B : Nat} {a w : World} (h : Below B a w) (n : Nat) : Below B a (w.drewN n) := ⟨h.os, h.tape, h.output, h.size, h.block⟩
set_option maxHeartbeats 16000000 in
theorem walk (w : World) (a0 : Option Addr) (cap0 : Nat) (z0 : List Int) (hc0 : z0.length ≤ cap0) (w0 : Rdw .u8 w w.heap.size a0 z0) :
    Calls Try.prog 8 #[.slice a0 z0.length cap0] w fun e w' => e = .returned (.bool true) ∧ Below w.heap.size w w' := by
  have hm := w0.2.1
  unfold maxLen at hm
  by_cases hlen : 1048576 < z0.length
  · go_enter Try.func8, Try.ntmps8
    go_wp2
    go_ret
    exact ⟨rfl, Below.refl _ _⟩
  · have HD := Lib.hid (BoxDraw.drawBox_any a0 cap0 z0 w hc0 w0)
    clear w0 hc0
    go_enter Try.func8, Try.ntmps8
    go_wp2_with fail
    refine HD.out.mono ?_
    rintro e w1 ⟨x, y, bw, bh, rfl, hb1⟩
    have HS : Hid (∀ W : World, Calls Try.prog 25 #[.agg #[.int .i64 x, .int .i64 y, .int .i64 bw, .int .i64 bh]] W fun e w' => ∃ v, e = .returned (.tuple #[v, .bool (ftB x y bw bh 16 16)]) ∧ OwnT 69 3 w' W.heap.size v (brN x y bw bh) (brL x y bw bh) ∧ Below W.heap.size W w') := Lib.hid (fun W => s_BoxRegion x y bw bh W)
    have HI : Hid (∀ W : World, Calls Try.prog 27 #[.agg #[.int .i64 x, .int .i64 y, .int .i64 bw, .int .i64 bh]] W fun e w' => ∃ v, e = .returned (.tuple #[v, .bool (ftB x y bw bh 16 16)]) ∧ OwnT 69 3 w' W.heap.size v (brN x y bw bh) (brL x y bw bh) ∧ Below W.heap.size W w') := Lib.hid (fun W => i_BoxRegion x y bw bh W)
    have HLn : Hid ((brL x y bw bh).length = 3 * brN x y bw bh) := Lib.hid (by unfold brL; rw [brow_len]; omega)
    have hN := brN_le x y bw bh
    have Hbu := Lib.hid (hb1.alloc hb1.size (.cells #[.int .i64 x, .int .i64 y, .int .i64 bw, .int .i64 bh] 33))
    have Hg := Lib.hid (show (w1.alloc (.cells #[.int .i64 x, .int .i64 y, .int .i64 bw, .int .i64 bh] 33)).heap[w1.heap.size]? = some (.cells #[.int .i64 x, .int .i64 y, .int .i64 bw, .int .i64 bh] 33 (0, 0)) from heap_alloc_new w1 _)
    have Hs : Hid (w1.heap.size < (w1.alloc (.cells #[.int .i64 x, .int .i64 y, .int .i64 bw, .int .i64 bh] 33)).heap.size) := Lib.hid (by simp)
    clear hb1
    have HLW := Lib.hid (fun (h : ftB x y bw bh 16 16 = true) => box_law h)
    generalize brL x y bw bh = L at *
    generalize brN x y bw bh = N at *
    go_wp2_with fail
    generalize w1.alloc (.cells #[.int .i64 x, .int .i64 y, .int .i64 bw, .int .i64 bh] 33) = u at *
    refine (HI.out u).mono ?_
    rintro e w2 ⟨v1, rfl, hO1, hB2⟩
    obtain ⟨A1, c1, rfl, _⟩ := hO1.slice
    have HO1 := Lib.hid hO1
    obtain ⟨q0, q1, q2, q3⟩ := lbox hB2 Hs.out Hg.out
    have HB2 := Lib.hid hB2
    clear hO1 hB2
    go_wp2_with fail
    refine (HS.out w2).mono ?_
    rintro e w3 ⟨v0, rfl, hO0, hB3⟩
    obtain ⟨A0, c0, rfl, _⟩ := hO0.slice
    have HR0 := Lib.hid hO0.rds
    have HR1 := Lib.hid (HO1.out.below hB3 (Nat.le_refl _)).rds
    have HB3 := Lib.hid (HB2.out.trans (hB3.mono HB2.out.size))
    clear hO0 hB3 q0 q1 q2 q3 HO1 HB2
    go_wp2_with fail
    refine (equalRuns_same A1 A0 N c1 c0 L w3.heap.size w3.heap.size w3 HLn.out HR1.out HR0.out (by omega)).mono ?_
    rintro e w4 ⟨rfl, m4, rfl⟩
    cases hK : ftB x y bw bh 16 16
    · go_wp2_with fail
      refine (equalRuns_same A1 A0 N c1 c0 L w3.heap.size w3.heap.size (w3.drewN m4) HLn.out HR1.out HR0.out (by omega)).mono ?_
      rintro e w5 ⟨rfl, m5, rfl⟩
      have HE := Lib.hid (Hbu.out.trans ((lbel HB3.out (m4 + m5)).mono Hbu.out.size))
      go_wp2_with fail
      go_ret
      exact ⟨rfl, HE.out⟩
    · obtain ⟨e1, e2, e3, e4, e5, e6, e7, p0, p1⟩ := HLW.out hK
      have HRg := Lib.hid e1
      have HAr := Lib.hid e7
      have HBd : Hid (∀ W : World, Rds .i64 W W.heap.size A1 L → Calls Try.prog 23 #[.slice A1 N c1] W fun e w' => e = .returned (.tuple #[.agg #[.int .i64 x, .int .i64 y, .int .i64 bw, .int .i64 bh], .bool true]) ∧ Below W.heap.size W w') := Lib.hid (fun W hW => (i_BoundsOf A1 N c1 W.heap.size L W HLn.out hW (Nat.le_refl _) (by omega)).mono fun e w' h => by
        obtain ⟨he, hb⟩ := h
        rw [e2, e3, e4, e5, e6] at he
        exact ⟨he, hb⟩)
      obtain ⟨⟨x0, x1⟩, ⟨b0, b1⟩, ⟨y0, y1⟩, h0, h1⟩ := ftB_bd hK
      have HKK := Lib.hid hK
      clear e1 e2 e3 e4 e5 e6 e7 hK
      go_wp2_with fail
      refine (HBd.out (w3.drewN m4) HR1.out).mono ?_
      rintro e w5 ⟨rfl, hB5⟩
      have HBV0 := Lib.hid (Hbu.out.trans (((lbel HB3.out m4).trans (hB5.mono (lbel HB3.out m4).size)).mono Hbu.out.size))
      have HU5 := Lib.hid ((lbel HB3.out m4).trans (hB5.mono (lbel HB3.out m4).size))
      have HR5 := Lib.hid (((show Rds .i64 (w3.drewN m4) (w3.drewN m4).heap.size A1 L from HR1.out).below hB5).more (show w3.heap.size ≤ w5.heap.size from hB5.size))
      clear hB5
      have HBV := Lib.hid (HBV0.out.alloc HBV0.out.size (.cells #[.int .i64 x, .int .i64 y, .int .i64 bw, .int .i64 bh] 33))
      have HRV := Lib.hid ((HR5.out.alloc (Nat.le_refl _) (.cells #[.int .i64 x, .int .i64 y, .int .i64 bw, .int .i64 bh] 33)).more (show w5.heap.size ≤ (w5.alloc (.cells #[.int .i64 x, .int .i64 y, .int .i64 bw, .int .i64 bh] 33)).heap.size by simp))
      have hg8 : (w5.alloc (.cells #[.int .i64 x, .int .i64 y, .int .i64 bw, .int .i64 bh] 33)).heap[w5.heap.size]? = some (.cells #[.int .i64 x, .int .i64 y, .int .i64 bw, .int .i64 bh] 33 (0, 0)) := heap_alloc_new w5 _
      have HUV := Lib.hid (HU5.out.alloc HU5.out.size (.cells #[.int .i64 x, .int .i64 y, .int .i64 bw, .int .i64 bh] 33))
      have HG8 := Lib.hid hg8
      clear hg8
      go_wp2
      generalize w5.alloc (.cells #[.int .i64 x, .int .i64 y, .int .i64 bw, .int .i64 bh] 33) = V at *
      have g0 : V.cell? ⟨w5.heap.size, 0, none⟩ = some (.int .i64 x) := by rw [cell_of_row _ _ _ _ _ _ HG8.out]; rfl
      have g1 : V.cell? ⟨w5.heap.size, 1, none⟩ = some (.int .i64 y) := by rw [cell_of_row _ _ _ _ _ _ HG8.out]; rfl
      have g2 : V.cell? ⟨w5.heap.size, 2, none⟩ = some (.int .i64 bw) := by rw [cell_of_row _ _ _ _ _ _ HG8.out]; rfl
      have g3 : V.cell? ⟨w5.heap.size, 3, none⟩ = some (.int .i64 bh) := by rw [cell_of_row _ _ _ _ _ _ HG8.out]; rfl
      obtain ⟨g4, g5, g6, g7⟩ := lbox HUV.out Hs.out Hg.out
      have r1 : IntKind.i64.wrap (bw * bh) = bw * bh := IntWalk.i64_in _ (by omega)
      refine wp_region_held_drew (S := (fun w' => w'.cell? ⟨w5.heap.size, 0, none⟩ = some (.int .i64 x) ∧ w'.cell? ⟨w5.heap.size, 1, none⟩ = some (.int .i64 y) ∧ w'.cell? ⟨w5.heap.size, 2, none⟩ = some (.int .i64 bw) ∧ w'.cell? ⟨w5.heap.size, 3, none⟩ = some (.int .i64 bh) ∧ w'.cell? ⟨w1.heap.size, 0, none⟩ = some (.int .i64 x) ∧ w'.cell? ⟨w1.heap.size, 1, none⟩ = some (.int .i64 y) ∧ w'.cell? ⟨w1.heap.size, 2, none⟩ = some (.int .i64 bw) ∧ w'.cell? ⟨w1.heap.size, 3, none⟩ = some (.int .i64 bh))) (by kernel_rfl) (by exact ⟨g0, g1, g2, g3, g4, g5, g6, g7⟩) (fun hHeld => ?_)
      refine' wpAnyH_take (i := 0) (oi := _) (v := _) ?hi1 (by kernel_rfl) (by kernel_rfl) (by kernel_rfl) ?hq1 (Or.inl ⟨?hw1, ?hy1⟩) (by assumption) ?rest1
      case hi1 => (simp only [List.getElem?_toArray, List.getElem?_cons_succ, List.getElem?_cons_zero]; rfl)
      case hq1 => exact fun _ _ _ h => h
      case hw1 => rfl
      case hy1 => (intro wq hSw; (try dsimp only at hSw); go_simp; (try with_reducible rfl))
      (try simp only [Act.put, List.setIfInBounds_toArray, List.set_cons_zero, List.set_cons_succ])
      refine' wpAnyH_take (i := 1) (oi := _) (v := _) ?hi2 (by kernel_rfl) (by kernel_rfl) (by kernel_rfl) ?hq2 (Or.inl ⟨?hw2, ?hy2⟩) (by assumption) ?rest2
      case hi2 => (simp only [List.getElem?_toArray, List.getElem?_cons_succ, List.getElem?_cons_zero]; rfl)
      case hq2 => exact fun _ _ _ h => h
      case hw2 => rfl
      case hy2 => (intro wq hSw; (try dsimp only at hSw); go_simp; (try with_reducible rfl))
      (try simp only [Act.put, List.setIfInBounds_toArray, List.set_cons_zero, List.set_cons_succ])
      refine' wpAnyH_take (i := 2) (oi := _) (v := _) ?hi3 (by kernel_rfl) (by kernel_rfl) (by kernel_rfl) ?hq3 (Or.inl ⟨?hw3, ?hy3⟩) (by assumption) ?rest3
      case hi3 => (simp only [List.getElem?_toArray, List.getElem?_cons_succ, List.getElem?_cons_zero]; rfl)
      case hq3 => exact fun _ _ _ h => h
      case hw3 => rfl
      case hy3 => (intro wq hSw; (try dsimp only at hSw); go_simp; (try with_reducible rfl))
      (try simp only [Act.put, List.setIfInBounds_toArray, List.set_cons_zero, List.set_cons_succ])
      refine' wpAnyH_take (i := 3) (oi := _) (v := _) ?hi4 (by kernel_rfl) (by kernel_rfl) (by kernel_rfl) ?hq4 (Or.inl ⟨?hw4, ?hy4⟩) (by assumption) ?rest4
      case hi4 => (simp only [List.getElem?_toArray, List.getElem?_cons_succ, List.getElem?_cons_zero]; rfl)
      case hq4 => exact fun _ _ _ h => h
      case hw4 => rfl
      case hy4 => (intro wq hSw; (try dsimp only at hSw); go_simp; (try with_reducible rfl))
      (try simp only [Act.put, List.setIfInBounds_toArray, List.set_cons_zero, List.set_cons_succ])
      refine' wpAnyH_take (i := 4) (oi := _) (v := _) ?hi5 (by kernel_rfl) (by kernel_rfl) (by kernel_rfl) ?hq5 (Or.inl ⟨?hw5, ?hy5⟩) (by assumption) ?rest5
      case hi5 => (simp only [List.getElem?_toArray, List.getElem?_cons_succ, List.getElem?_cons_zero]; rfl)
      case hq5 => exact fun _ _ _ h => h
      case hw5 => rfl
      case hy5 => (intro wq hSw; (try dsimp only at hSw); go_simp; (try with_reducible rfl))
      (try simp only [Act.put, List.setIfInBounds_toArray, List.set_cons_zero, List.set_cons_succ])
      refine' wpAnyH_take (i := 5) (oi := _) (v := _) ?hi6 (by kernel_rfl) (by kernel_rfl) (by kernel_rfl) ?hq6 (Or.inl ⟨?hw6, ?hy6⟩) (by assumption) ?rest6
      case hi6 => (simp only [List.getElem?_toArray, List.getElem?_cons_succ, List.getElem?_cons_zero]; rfl)
      case hq6 => exact fun _ _ _ h => h
      case hw6 => rfl
      case hy6 => (intro wq hSw; (try dsimp only at hSw); go_simp; (try with_reducible rfl))
      (try simp only [Act.put, List.setIfInBounds_toArray, List.set_cons_zero, List.set_cons_succ])
      refine' wpAnyH_take (i := 6) (oi := _) (v := _) ?hi7 (by kernel_rfl) (by kernel_rfl) (by kernel_rfl) ?hq7 (Or.inl ⟨?hw7, ?hy7⟩) (by assumption) ?rest7
      case hi7 => (simp only [List.getElem?_toArray, List.getElem?_cons_succ, List.getElem?_cons_zero]; rfl)
      case hq7 => exact fun _ _ _ h => h
      case hw7 => rfl
      case hy7 => (intro wq hSw; (try dsimp only at hSw); go_simp; (try with_reducible rfl))
      (try simp only [Act.put, List.setIfInBounds_toArray, List.set_cons_zero, List.set_cons_succ])
      refine' wpAnyH_take (i := 7) (oi := _) (v := _) ?hi8 (by kernel_rfl) (by kernel_rfl) (by kernel_rfl) ?hq8 (Or.inl ⟨?hw8, ?hy8⟩) (by assumption) ?rest8
      case hi8 => (simp only [List.getElem?_toArray, List.getElem?_cons_succ, List.getElem?_cons_zero]; rfl)
      case hq8 => exact fun _ _ _ h => h
      case hw8 => rfl
      case hy8 => (intro wq hSw; (try dsimp only at hSw); go_simp; (try with_reducible rfl))
      (try simp only [Act.put, List.setIfInBounds_toArray, List.set_cons_zero, List.set_cons_succ])
      refine' wpAnyH_take (i := 9) (oi := _) (v := _) ?hi9 (by kernel_rfl) (by kernel_rfl) (by kernel_rfl) ?hq9 (Or.inl ⟨?hw9, ?hy9⟩) (by assumption) ?rest9
      case hi9 => (simp only [List.getElem?_toArray, List.getElem?_cons_succ, List.getElem?_cons_zero]; rfl)
      case hq9 => exact fun _ _ _ h => h
      case hw9 => rfl
      case hy9 => (intro wq hSw; (try dsimp only at hSw); go_simp; (try with_reducible rfl))
      (try simp only [Act.put, List.setIfInBounds_toArray, List.set_cons_zero, List.set_cons_succ])
      refine' wpAnyH_take (i := 10) (oi := _) (v := _) ?hi10 (by kernel_rfl) (by kernel_rfl) (by kernel_rfl) ?hq10 (Or.inl ⟨?hw10, ?hy10⟩) (by assumption) ?rest10
      case hi10 => (simp only [List.getElem?_toArray, List.getElem?_cons_succ, List.getElem?_cons_zero]; rfl)
      case hq10 => exact fun _ _ _ h => h
      case hw10 => rfl
      case hy10 => (intro wq hSw; (try dsimp only at hSw); go_simp; (try with_reducible rfl))
      (try simp only [Act.put, List.setIfInBounds_toArray, List.set_cons_zero, List.set_cons_succ])
      refine' wpAnyH_take (i := 11) (oi := _) (v := _) ?hi11 (by kernel_rfl) (by kernel_rfl) (by kernel_rfl) ?hq11 (Or.inl ⟨?hw11, ?hy11⟩) (by assumption) ?rest11
      case hi11 => (simp only [List.getElem?_toArray, List.getElem?_cons_succ, List.getElem?_cons_zero]; rfl)
      case hq11 => exact fun _ _ _ h => h
      case hw11 => rfl
      case hy11 => (intro wq hSw; (try dsimp only at hSw); go_simp; (try with_reducible rfl))
      (try simp only [Act.put, List.setIfInBounds_toArray, List.set_cons_zero, List.set_cons_succ])
      refine' wpAnyH_take (i := 12) (oi := _) (v := _) ?hi12 (by kernel_rfl) (by kernel_rfl) (by kernel_rfl) ?hq12 (Or.inl ⟨?hw12, ?hy12⟩) (by assumption) ?rest12
      case hi12 => (simp only [List.getElem?_toArray, List.getElem?_cons_succ, List.getElem?_cons_zero]; rfl)
      case hq12 => exact fun _ _ _ h => h
      case hw12 => rfl
      case hy12 => (intro wq hSw; (try dsimp only at hSw); go_simp; (try with_reducible rfl))
      (try simp only [Act.put, List.setIfInBounds_toArray, List.set_cons_zero, List.set_cons_succ])
      refine' wpAnyH_take (i := 13) (oi := _) (v := _) ?hi13 (by kernel_rfl) (by kernel_rfl) (by kernel_rfl) ?hq13 (Or.inl ⟨?hw13, ?hy13⟩) (by assumption) ?rest13
      case hi13 => (simp only [List.getElem?_toArray, List.getElem?_cons_succ, List.getElem?_cons_zero]; rfl)
      case hq13 => exact fun _ _ _ h => h
      case hw13 => rfl
      case hy13 => (intro wq hSw; (try dsimp only at hSw); go_simp; (try with_reducible rfl))
      (try simp only [Act.put, List.setIfInBounds_toArray, List.set_cons_zero, List.set_cons_succ])
      refine wpAnyH_ready (rs := [8]) (by kernel_rfl) (by simp) ?_
      refine' AllReadyH.cons (o := _) ?hi14 (fun K hK => ?rest14) AllReadyH.nil
      case hi14 => (simp only [List.getElem?_toArray, List.getElem?_cons_succ, List.getElem?_cons_zero]; rfl)
      go_simp
      go_at_call 16
      refine (i_AreaOf A1 N c1 V.heap.size L V.drew HLn.out HRV.out (Nat.le_refl _) (by omega)).mono ?_
      rintro e u2 ⟨rfl, hB2⟩
      rw [HAr.out]
      have q0 := (hB2.cell (p := ⟨w5.heap.size, 0, none⟩) (World.block_lt_of_cell? V.drew _ g0)).trans g0
      have q1 := (hB2.cell (p := ⟨w5.heap.size, 1, none⟩) (World.block_lt_of_cell? V.drew _ g1)).trans g1
      have q2 := (hB2.cell (p := ⟨w5.heap.size, 2, none⟩) (World.block_lt_of_cell? V.drew _ g2)).trans g2
      have q3 := (hB2.cell (p := ⟨w5.heap.size, 3, none⟩) (World.block_lt_of_cell? V.drew _ g3)).trans g3
      have q4 := (hB2.cell (p := ⟨w1.heap.size, 0, none⟩) (World.block_lt_of_cell? V.drew _ g4)).trans g4
      have q5 := (hB2.cell (p := ⟨w1.heap.size, 1, none⟩) (World.block_lt_of_cell? V.drew _ g5)).trans g5
      have q6 := (hB2.cell (p := ⟨w1.heap.size, 2, none⟩) (World.block_lt_of_cell? V.drew _ g6)).trans g6
      have q7 := (hB2.cell (p := ⟨w1.heap.size, 3, none⟩) (World.block_lt_of_cell? V.drew _ g7)).trans g7
      have HR2 := Lib.hid (((show Rds .i64 V.drew V.drew.heap.size A1 L from HRV.out).below hB2).more hB2.size)
      have HB2 := Lib.hid (HBV.out.drew.trans (hB2.mono HBV.out.drew.size))
      have HZ2 : Hid (V.heap.size ≤ u2.heap.size) := Lib.hid hB2.size
      clear hB2
      go_wp2_with fail
      refine hK.out _ _ (by (try dsimp only); exact ⟨q0, q1, q2, q3, q4, q5, q6, q7⟩) (fun hHeld => ?_)
      clear hK K
      (try simp only [Act.put, List.setIfInBounds_toArray, List.set_cons_zero, List.set_cons_succ])
      refine' wpAnyH_take (i := 14) (oi := _) (v := _) ?hi15 (by kernel_rfl) (by kernel_rfl) (by kernel_rfl) ?hq15 (Or.inl ⟨?hw15, ?hy15⟩) (by assumption) ?rest15
      case hi15 => (simp only [List.getElem?_toArray, List.getElem?_cons_succ, List.getElem?_cons_zero]; rfl)
      case hq15 => exact fun _ _ _ h => h
      case hw15 => rfl
      case hy15 => (intro wq hSw; (try dsimp only at hSw); go_simp; (try with_reducible rfl))
      (try simp only [Act.put, List.setIfInBounds_toArray, List.set_cons_zero, List.set_cons_succ])
      refine' wpAnyH_take (i := 15) (oi := _) (v := _) ?hi16 (by kernel_rfl) (by kernel_rfl) (by kernel_rfl) ?hq16 (Or.inl ⟨?hw16, ?hy16⟩) (by assumption) ?rest16
      case hi16 => (simp only [List.getElem?_toArray, List.getElem?_cons_succ, List.getElem?_cons_zero]; rfl)
      case hq16 => exact fun _ _ _ h => h
      case hw16 => rfl
      case hy16 => (intro wq hSw; (try dsimp only at hSw); go_simp; (try with_reducible rfl))
      (try simp only [Act.put, List.setIfInBounds_toArray, List.set_cons_zero, List.set_cons_succ])
      refine' wpAnyH_take (i := 16) (oi := _) (v := _) ?hi17 (by kernel_rfl) (by kernel_rfl) (by kernel_rfl) ?hq17 (Or.inl ⟨?hw17, ?hy17⟩) (by assumption) ?rest17
      case hi17 => (simp only [List.getElem?_toArray, List.getElem?_cons_succ, List.getElem?_cons_zero]; rfl)
      case hq17 => exact fun _ _ _ h => h
      case hw17 => rfl
      case hy17 => (intro wq hSw; (try dsimp only at hSw); go_simp; (try with_reducible rfl))
      (try simp only [Act.put, List.setIfInBounds_toArray, List.set_cons_zero, List.set_cons_succ])
      refine' wpAnyH_take (i := 17) (oi := _) (v := _) ?hi18 (by kernel_rfl) (by kernel_rfl) (by kernel_rfl) ?hq18 (Or.inl ⟨?hw18, ?hy18⟩) (by assumption) ?rest18
      case hi18 => (simp only [List.getElem?_toArray, List.getElem?_cons_succ, List.getElem?_cons_zero]; rfl)
      case hq18 => exact fun _ _ _ h => h
      case hw18 => rfl
      case hy18 => (intro wq hSw; (try dsimp only at hSw); go_simp; (try with_reducible rfl))
      (try simp only [Act.put, List.setIfInBounds_toArray, List.set_cons_zero, List.set_cons_succ])
      refine wpAnyH_ready (rs := [18]) (by kernel_rfl) (by simp) ?_
      refine' AllReadyH.cons (o := _) ?hi19 (fun K hK => ?rest19) AllReadyH.nil
      case hi19 => (simp only [List.getElem?_toArray, List.getElem?_cons_succ, List.getElem?_cons_zero]; rfl)
      go_simp
      go_at_call 19
      refine (i_ValidRegion A1 N c1 u2.heap.size L u2 HLn.out HR2.out (Nat.le_refl _) (by omega)).mono ?_
      rintro e u3 ⟨rfl, hB3⟩
      rw [HRg.out]
      have s0 := (hB3.cell (p := ⟨w5.heap.size, 0, none⟩) (World.block_lt_of_cell? u2 _ q0)).trans q0
      have s1 := (hB3.cell (p := ⟨w5.heap.size, 1, none⟩) (World.block_lt_of_cell? u2 _ q1)).trans q1
      have s2 := (hB3.cell (p := ⟨w5.heap.size, 2, none⟩) (World.block_lt_of_cell? u2 _ q2)).trans q2
      have s3 := (hB3.cell (p := ⟨w5.heap.size, 3, none⟩) (World.block_lt_of_cell? u2 _ q3)).trans q3
      have s4 := (hB3.cell (p := ⟨w1.heap.size, 0, none⟩) (World.block_lt_of_cell? u2 _ q4)).trans q4
      have s5 := (hB3.cell (p := ⟨w1.heap.size, 1, none⟩) (World.block_lt_of_cell? u2 _ q5)).trans q5
      have s6 := (hB3.cell (p := ⟨w1.heap.size, 2, none⟩) (World.block_lt_of_cell? u2 _ q6)).trans q6
      have s7 := (hB3.cell (p := ⟨w1.heap.size, 3, none⟩) (World.block_lt_of_cell? u2 _ q7)).trans q7
      have HB4 := Lib.hid (HB2.out.trans (hB3.mono HB2.out.size))
      clear hB3
      go_wp2_with fail
      refine hK.out _ _ (by (try dsimp only); exact ⟨s0, s1, s2, s3, s4, s5, s6, s7⟩) (fun hHeld => ?_)
      clear hK K
      (try simp only [Act.put, List.setIfInBounds_toArray, List.set_cons_zero, List.set_cons_succ])
      refine' wpAnyH_take (i := 19) (oi := _) (v := _) ?hi20 (by kernel_rfl) (by kernel_rfl) (by kernel_rfl) ?hq20 (Or.inl ⟨?hw20, ?hy20⟩) (by assumption) ?rest20
      case hi20 => (simp only [List.getElem?_toArray, List.getElem?_cons_succ, List.getElem?_cons_zero]; rfl)
      case hq20 => exact fun _ _ _ h => h
      case hw20 => rfl
      case hy20 => (intro wq hSw; (try dsimp only at hSw); go_simp; (try with_reducible rfl))
      (try simp only [Act.put, List.setIfInBounds_toArray, List.set_cons_zero, List.set_cons_succ])
      refine' wpAnyH_take (i := 20) (oi := _) (v := _) ?hi21 (by kernel_rfl) (by kernel_rfl) (by kernel_rfl) ?hq21 (Or.inl ⟨?hw21, ?hy21⟩) (by assumption) ?rest21
      case hi21 => (simp only [List.getElem?_toArray, List.getElem?_cons_succ, List.getElem?_cons_zero]; rfl)
      case hq21 => exact fun _ _ _ h => h
      case hw21 => rfl
      case hy21 => (intro wq hSw; (try dsimp only at hSw); go_simp; (try with_reducible rfl))
      (try simp only [Act.put, List.setIfInBounds_toArray, List.set_cons_zero, List.set_cons_succ])
      refine wpAnyH_done (by kernel_rfl) ?_ _
      clear r1
      go_wp2
      go_ret
      exact ⟨by simp, HB4.out⟩

/-! ### From the walk to the statement. -/
theorem own : ownKnob Try.prog.godebug = none := by kernel_rfl
theorem laidOut : laidOutB Try.prog = true := by kernel_rfl
set_option maxRecDepth 100000 in
theorem lifted (os : Os) (started : os.Started) (H : Type) (enc : TypeId × Value → H) :
    ReturnsInHanded {} Try.checked os 8 .any (Rows.fnBoxRegionSpec.pre6 enc Try.prog Try.f8 Rows.fnBoxRegionRow.domain false) (Rows.fnBoxRegionSpec.post enc Try.prog Try.f8 false true false false) := by
  refine returnsInHanded_of_change (C := Try.checked) own started (by kernel_rfl) Try.func8
    (ChangeSpec.witness6 (enc := enc) (C := Try.checked) false ⟨#[], #[.slice none 0 0], []⟩ 8 (by kernel_rfl) (by kernel_rfl) (by kernel_rfl) (by kernel_rfl)) ?_
  intro W base args ds gs before hval0 hW hcnd _
  have hval : ∀ (j : Nat) t v, Try.f8.params[j]? = some t → args[j]? = some v → Value.okWide Try.prog W .any base t v := hval0
  have hW' := hW
  obtain ⟨p, q, hA0, hV, rfl, hfz, hnd⟩ := hW
  have hA : DataW.TrodAll enc Try.prog W 0 (fun _ => true) true Try.f8.params.toList args.toList ds p := hA0
  rw [Try.params8] at hA hval
  obtain ⟨v0, vs0, d0, ds0, p0, q0, hargs, rfl, rfl, h0, r0⟩ := trodAll_cons hA
  obtain ⟨rfl, rfl, rfl⟩ := trodAll_nil r0
  obtain rfl : args = #[v0] := by cases args; simp_all
  obtain ⟨rfl, rfl⟩ := trodVars_none hV
  obtain ⟨a0, len0, cap0, rfl⟩ := okWide_slice Try.underlying43 (hval 0 43 v0 rfl rfl)
  have k0 := h0
  have lt0 : ∀ x ∈ p0, x.block < W.heap.size := by obtain ⟨m, hm⟩ := k0; exact DataW.trod_lt m _ _ _ hm
  obtain ⟨z0, hl0, hc0, w0⟩ : ∃ zs : List Int, len0 = zs.length ∧ zs.length ≤ cap0 ∧ Rdw .u8 W W.heap.size a0 zs := by
    obtain ⟨fuel, hf⟩ := h0
    rcases open_ints Try.underlying43 Try.underlying5 (by kernel_rfl) hf with ⟨hcs, _⟩ | ⟨x, l, c, zs, hcs, _, hl, hm, hz, _, hcell, hwz⟩
    · simp [Value.cells] at hcs
      obtain ⟨rfl, rfl, rfl⟩ := hcs
      exact ⟨[], rfl, Nat.le_refl _, Rdw.nil⟩
    · simp [Value.cells] at hcs
      obtain ⟨rfl, rfl, rfl⟩ := hcs
      exact ⟨zs.take len0, by simp at hz ⊢; omega, by simp at hz ⊢; omega, Rdw.of_row hl hm (by simpa using hz) hcell hwz⟩
  subst hl0
  clear hA0 hval0
  refine (walk W a0 cap0 z0 hc0 w0).mono fun e W' ⟨he, bel⟩ => ?_
  subst he
  exact ⟨_, rfl, _, _, _, [], _, [], hW', trodAll_mk1 (shut_bool Try.underlying4 _), (trodAll_cons_mk (Below.trod laidOut (by kernel_rfl) (of_decide_eq_true (by kernel_rfl)) k0 bel lt0) trodAll_mk0), rfl, bel.frame _, fun h => by cases h⟩

theorem over : Rows.fnBoxRegionRow.holds Try.pinned (OpenSpec.ofChange Rows.fnBoxRegionSpec) :=
  OpenClaim.holds_of_wide 8 Try.f8 rfl rfl rfl rfl rfl rfl rfl ⟨rfl, rfl, rfl, rfl, rfl⟩ rfl rfl rfl rfl rfl (by kernel_rfl) Try.func8 (by kernel_rfl)
    (of_decide_eq_true (by kernel_rfl)) (by unfold Func.isWrapper; first | (rw [if_pos (by decide +kernel)]; kernel_rfl) | (rw [if_neg (by decide +kernel)]; exact ⟨rfl, rfl⟩))
    (fun os started H enc _ => lifted os started H enc)

theorem proved : Rows.FnBoxRegionSaid := over
end Go.Proofs.Ytkchhcphljcloaa.fnBoxRegion
