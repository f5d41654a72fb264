/- ColorImage of the program. -/
import Derived.Test.YtkjebidkkopalaaNcI
import Derived.Test.YtkjebidkkopalaaColS
import Derived.Test.YtkjebidkkopalaaScaP
import Derived.Test.YtkjebidkkopalaaGridJ
import Derived.Test.YtkjebidkkopalaaEquI
namespace Go.Proofs.Ytkjebidkkopalaa
open Go.RowKit Go.Shelf
set_option linter.unusedSimpArgs false
set_option linter.unusedVariables false
set_option maxRecDepth 20000

theorem GS.argSS2 {W0 w : World} {L : List Rg} {Bs : List Bxg} (h : GS W0 w L Bs) {A : Option Addr} {xss : List (List Int)} (hr : Rdss W0 W0.heap.size A xss) : Rdss w w.heap.size A xss := (hr.below h.1).more h.1.size
set_option maxHeartbeats 16000000 in
theorem iCo1_any (W H n : Nat) (hn : W * H = n) (hW : W ≤ 16) (hH : H ≤ 16) (A : Option Addr) (c : Nat) (f : Nat → Nat → Int) (hc : n ≤ c) (A6 : Option Addr) (n2 c6 : Nat) (xss : List (List Int)) (x y : Nat) (hx : x < W) (hy : y < H) (vn : Nat) (hvn : f x y = (vn : Int)) (hv2 : vn < n2) (pc pg : Nat) (w : World) (hr : Rds .i64 w w.heap.size A (grN W H f)) (hr6 : Rds .i64 w w.heap.size A6 (clr xss n2))
    (hpc : Bx w pc 61 #[.slice A6 n2 c6]) (hpg : Bx w pg 74 #[.int .i64 (W : Int), .int .i64 (H : Int), .slice A n c]) :
    Calls Try.prog 57 (#[.int .i64 (x : Int), .int .i64 (y : Int)] ++ #[.pointer (some ⟨pc, 0, none⟩), .pointer (some ⟨pg, 0, none⟩)]) w fun e w' => e = .returned (colV (fun p => (xss.getD vn []).getD p 0)) ∧ Below w.heap.size w w' := by
  obtain ⟨b6, off6, rfl, hb6, hc6⟩ := hr6.cells_ (j := vn * 4) (by rw [clr_len]; omega)
  obtain ⟨k0, k1, k2, k3⟩ := clr_cells hc6 hv2
  have Hvn := Lib.hid hvn
  have Hn := Lib.hid hn
  have HY := Lib.hid (show colV (fun p => (xss.getD vn []).getD p 0) = .agg #[.int .i64 ((xss.getD vn []).getD 0 0), .int .i64 ((xss.getD vn []).getD 1 0), .int .i64 ((xss.getD vn []).getD 2 0), .int .i64 ((xss.getD vn []).getD 3 0)] from rfl)
  rw [HY.out]
  generalize (xss.getD vn []).getD 0 0 = y0 at *
  generalize (xss.getD vn []).getD 1 0 = y1 at *
  generalize (xss.getD vn []).getD 2 0 = y2 at *
  generalize (xss.getD vn []).getD 3 0 = y3 at *
  have HR := Lib.hid hr
  have HPC := Lib.hid hpc
  have HPG := Lib.hid hpg
  have HK := Lib.hid (And.intro k0 (And.intro k1 (And.intro k2 k3)))
  have hpcl0 := hpc.lt
  have hpgl0 := hpg.lt
  clear hvn hn hr hr6 hpc hpg hc6 k0 k1 k2 k3 HY
  show Calls Try.prog 57 #[.int .i64 (x : Int), .int .i64 (y : Int), .pointer (some ⟨pc, 0, none⟩), .pointer (some ⟨pg, 0, none⟩)] w _
  go_enter Try.func57, Try.ntmps57
  go_wp2
  have hB0 : Below w.heap.size w (w.alloc (.cells #[.int .i64 0, .int .i64 0, .int .i64 0, .int .i64 0] 66)) := (Below.refl _ _).alloc (Nat.le_refl _) _
  have HXu := Lib.hid (show Bx (w.alloc (.cells #[.int .i64 0, .int .i64 0, .int .i64 0, .int .i64 0] 66)).drew w.heap.size 66 #[.int .i64 0, .int .i64 0, .int .i64 0, .int .i64 0] from Bx.new w _ _)
  have HBu := Lib.hid hB0.drew
  have HRu := Lib.hid ((HR.out.below hB0.drew).more hB0.drew.size)
  have qa := (hB0.drew.cell (p := ⟨pc, 0, none⟩) hpcl0).trans (bx1 HPC.out)
  have qg0 := (hB0.drew.cell (p := ⟨pg, 0, none⟩) hpgl0).trans (bx3 HPG.out).1
  have qg1 := (hB0.drew.cell (p := ⟨pg, 1, none⟩) hpgl0).trans (bx3 HPG.out).2.1
  have qg2 := (hB0.drew.cell (p := ⟨pg, 2, none⟩) hpgl0).trans (bx3 HPG.out).2.2
  have qy0 := (hB0.drew.cell (p := ⟨b6, off6 + vn * 4, none⟩) hb6).trans HK.out.1
  have qy1 := (hB0.drew.cell (p := ⟨b6, off6 + vn * 4 + 1, none⟩) hb6).trans HK.out.2.1
  have qy2 := (hB0.drew.cell (p := ⟨b6, off6 + vn * 4 + 2, none⟩) hb6).trans HK.out.2.2.1
  have qy3 := (hB0.drew.cell (p := ⟨b6, off6 + vn * 4 + 3, none⟩) hb6).trans HK.out.2.2.2
  have hne1 : pc ≠ w.heap.size := Nat.ne_of_lt hpcl0
  have hne2 : pg ≠ w.heap.size := Nat.ne_of_lt hpgl0
  have hne3 : b6 ≠ w.heap.size := Nat.ne_of_lt hb6
  have hpcl : pc < (w.alloc (.cells #[.int .i64 0, .int .i64 0, .int .i64 0, .int .i64 0] 66)).drew.heap.size := Nat.lt_of_lt_of_le hpcl0 hB0.drew.size
  have hpgl : pg < (w.alloc (.cells #[.int .i64 0, .int .i64 0, .int .i64 0, .int .i64 0] 66)).drew.heap.size := Nat.lt_of_lt_of_le hpgl0 hB0.drew.size
  have hb6u : b6 < (w.alloc (.cells #[.int .i64 0, .int .i64 0, .int .i64 0, .int .i64 0] 66)).drew.heap.size := Nat.lt_of_lt_of_le hb6 hB0.drew.size
  clear hB0 HR HPC HPG HK
  generalize w.alloc (.cells #[.int .i64 0, .int .i64 0, .int .i64 0, .int .i64 0] 66) = u at *
  refine wp_region_held_drew (S := (fun w' => w'.cell? ⟨pc, 0, none⟩ = some (.slice (some ⟨b6, off6, none⟩) n2 c6) ∧ w'.cell? ⟨pg, 0, none⟩ = some (.int .i64 (W : Int)) ∧ w'.cell? ⟨pg, 1, none⟩ = some (.int .i64 (H : Int)) ∧ w'.cell? ⟨pg, 2, none⟩ = some (.slice A n c) ∧ w'.cell? ⟨b6, off6 + vn * 4, none⟩ = some (.int .i64 y0) ∧ w'.cell? ⟨b6, off6 + vn * 4 + 1, none⟩ = some (.int .i64 y1) ∧ w'.cell? ⟨b6, off6 + vn * 4 + 2, none⟩ = some (.int .i64 y2) ∧ w'.cell? ⟨b6, off6 + vn * 4 + 3, none⟩ = some (.int .i64 y3))) (by kernel_rfl) (by exact ⟨qa, qg0, qg1, qg2, qy0, qy1, qy2, qy3⟩) (fun hHeld => ?_)
  refine' wpAnyH_take (i := 0) (oi := _) (v := _) ?hi1 (by kernel_rfl) (by kernel_rfl) (by kernel_rfl) ?hq1 (Or.inl ⟨?hw1, ?hy1⟩) (by assumption) ?rest1
  case hi1 => (simp only [List.getElem?_toArray, List.getElem?_cons_succ, List.getElem?_cons_zero]; rfl)
  case hq1 => exact fun _ _ _ h => h
  case hw1 => rfl
  case hy1 => (intro wq hSw; (try dsimp only at hSw); go_simp; (try with_reducible rfl))
  (try simp only [Act.put, List.setIfInBounds_toArray, List.set_cons_zero, List.set_cons_succ])
  refine' wpAnyH_take (i := 1) (oi := _) (v := _) ?hi2 (by kernel_rfl) (by kernel_rfl) (by kernel_rfl) ?hq2 (Or.inl ⟨?hw2, ?hy2⟩) (by assumption) ?rest2
  case hi2 => (simp only [List.getElem?_toArray, List.getElem?_cons_succ, List.getElem?_cons_zero]; rfl)
  case hq2 => exact fun _ _ _ h => h
  case hw2 => rfl
  case hy2 => (intro wq hSw; (try dsimp only at hSw); go_simp; (try with_reducible rfl))
  (try simp only [Act.put, List.setIfInBounds_toArray, List.set_cons_zero, List.set_cons_succ])
  refine' wpAnyH_take (i := 2) (oi := _) (v := _) ?hi3 (by kernel_rfl) (by kernel_rfl) (by kernel_rfl) ?hq3 (Or.inl ⟨?hw3, ?hy3⟩) (by assumption) ?rest3
  case hi3 => (simp only [List.getElem?_toArray, List.getElem?_cons_succ, List.getElem?_cons_zero]; rfl)
  case hq3 => exact fun _ _ _ h => h
  case hw3 => rfl
  case hy3 => (intro wq hSw; (try dsimp only at hSw); go_simp; (try with_reducible rfl))
  (try simp only [Act.put, List.setIfInBounds_toArray, List.set_cons_zero, List.set_cons_succ])
  refine' wpAnyH_take (i := 3) (oi := _) (v := _) ?hi4 (by kernel_rfl) (by kernel_rfl) (by kernel_rfl) ?hq4 (Or.inl ⟨?hw4, ?hy4⟩) (by assumption) ?rest4
  case hi4 => (simp only [List.getElem?_toArray, List.getElem?_cons_succ, List.getElem?_cons_zero]; rfl)
  case hq4 => exact fun _ _ _ h => h
  case hw4 => rfl
  case hy4 => (intro wq hSw; (try dsimp only at hSw); go_simp; (try with_reducible rfl))
  (try simp only [Act.put, List.setIfInBounds_toArray, List.set_cons_zero, List.set_cons_succ])
  refine wpAnyH_ready (rs := [4]) (by kernel_rfl) (by simp) ?_
  refine' AllReadyH.cons (o := _) ?hi5 (fun K hK => ?rest5) AllReadyH.nil
  case hi5 => (simp only [List.getElem?_toArray, List.getElem?_cons_succ, List.getElem?_cons_zero]; rfl)
  go_simp
  go_at_call 58
  refine (atN_any W H n Hn.out hW hH A c f x y hx hy _ HRu.out hc).mono ?_
  rintro e w3 ⟨rfl, hB3⟩
  rw [Hvn.out]
  have za := (hB3.cell (p := ⟨pc, 0, none⟩) (by exact hpcl)).trans qa
  have zg0 := (hB3.cell (p := ⟨pg, 0, none⟩) (by exact hpgl)).trans qg0
  have zg1 := (hB3.cell (p := ⟨pg, 1, none⟩) (by exact hpgl)).trans qg1
  have zg2 := (hB3.cell (p := ⟨pg, 2, none⟩) (by exact hpgl)).trans qg2
  have zy0 := (hB3.cell (p := ⟨b6, off6 + vn * 4, none⟩) (by exact hb6u)).trans qy0
  have zy1 := (hB3.cell (p := ⟨b6, off6 + vn * 4 + 1, none⟩) (by exact hb6u)).trans qy1
  have zy2 := (hB3.cell (p := ⟨b6, off6 + vn * 4 + 2, none⟩) (by exact hb6u)).trans qy2
  have zy3 := (hB3.cell (p := ⟨b6, off6 + vn * 4 + 3, none⟩) (by exact hb6u)).trans qy3
  have HX3 := Lib.hid (HXu.out.below hB3)
  have HB3 := Lib.hid (HBu.out.trans (hB3.mono HBu.out.size))
  obtain ⟨x0, x1, x2, x3⟩ := bx4 HX3.out
  have xf0 := HX3.out.fz' 0
  have xf1 := HX3.out.fz' 1
  have xf2 := HX3.out.fz' 2
  have xf3 := HX3.out.fz' 3
  clear hB3
  go_wp2_with fail
  refine hK.out _ _ (by (try dsimp only); exact ⟨za, zg0, zg1, zg2, zy0, zy1, zy2, zy3⟩) (fun hHeld => ?_)
  clear hK K
  (try simp only [Act.put, List.setIfInBounds_toArray, List.set_cons_zero, List.set_cons_succ])
  refine' wpAnyH_take (i := 5) (oi := _) (v := _) ?hi6 (by kernel_rfl) (by kernel_rfl) (by kernel_rfl) ?hq6 (Or.inl ⟨?hw6, ?hy6⟩) (by assumption) ?rest6
  case hi6 => (simp only [List.getElem?_toArray, List.getElem?_cons_succ, List.getElem?_cons_zero]; rfl)
  case hq6 => exact fun _ _ _ h => h
  case hw6 => rfl
  case hy6 => (intro wq hSw; (try dsimp only at hSw); go_simp; (try with_reducible rfl))
  (try simp only [Act.put, List.setIfInBounds_toArray, List.set_cons_zero, List.set_cons_succ])
  refine' wpAnyH_take (i := 6) (oi := _) (v := _) ?hi7 (by kernel_rfl) (by kernel_rfl) (by kernel_rfl) ?hq7 (Or.inl ⟨?hw7, ?hy7⟩) (by assumption) ?rest7
  case hi7 => (simp only [List.getElem?_toArray, List.getElem?_cons_succ, List.getElem?_cons_zero]; rfl)
  case hq7 => exact fun _ _ _ h => h
  case hw7 => rfl
  case hy7 => (intro wq hSw; (try dsimp only at hSw); go_simp; (try with_reducible rfl))
  (try simp only [Act.put, List.setIfInBounds_toArray, List.set_cons_zero, List.set_cons_succ])
  refine wpAnyH_ready (rs := [7]) (by kernel_rfl) (by simp) ?_
  refine' AllReadyH.cons (o := _) ?hi8 (fun K hK => ?rest8) AllReadyH.nil
  case hi8 => (simp only [List.getElem?_toArray, List.getElem?_cons_succ, List.getElem?_cons_zero]; rfl)
  go_simp
  refine hK.out _ _ (by (try dsimp only); exact ⟨(sc4 hne1 _ _ _ _).trans za, (sc4 hne2 _ _ _ _).trans zg0, (sc4 hne2 _ _ _ _).trans zg1, (sc4 hne2 _ _ _ _).trans zg2, (sc4 hne3 _ _ _ _).trans zy0, (sc4 hne3 _ _ _ _).trans zy1, (sc4 hne3 _ _ _ _).trans zy2, (sc4 hne3 _ _ _ _).trans zy3⟩) (fun hHeld => ?_)
  clear hK K
  (try simp only [Act.put, List.setIfInBounds_toArray, List.set_cons_zero, List.set_cons_succ])
  refine wpAnyH_done (by kernel_rfl) ?_ _
  clear qa qg0 qg1 qg2 qy0 qy1 qy2 qy3 x0 x1 x2 x3
  have HX4 : Hid (Bx ((((w3.setCell ⟨w.heap.size, 0, none⟩ (.int .i64 y0)).setCell ⟨w.heap.size, 1, none⟩ (.int .i64 y1)).setCell ⟨w.heap.size, 2, none⟩ (.int .i64 y2)).setCell ⟨w.heap.size, 3, none⟩ (.int .i64 y3)) w.heap.size 66 #[.int .i64 y0, .int .i64 y1, .int .i64 y2, .int .i64 y3]) := Lib.hid (by
    have h1 := heap_setCell_same w3 w.heap.size 0 _ _ (.int .i64 y0) HX3.out
    have h2 := heap_setCell_same _ w.heap.size 1 _ _ (.int .i64 y1) h1
    have h3 := heap_setCell_same _ w.heap.size 2 _ _ (.int .i64 y2) h2
    have h4 := heap_setCell_same _ w.heap.size 3 _ _ (.int .i64 y3) h3
    simpa [Bx] using h4)
  obtain ⟨x0, x1, x2, x3⟩ := bx4 HX4.out
  go_wp2
  exact bodyPost_ret (v := .agg #[.int .i64 y0, .int .i64 y1, .int .i64 y2, .int .i64 y3]) (by simp [results, Try.results57, go_sem, x0, x1, x2, x3]) rfl ⟨rfl, by (repeat' (first | (exact HB3.out) | (refine Below.setCell ?_ (by first | omega | (simp; done) | (simp; omega)) _) | (refine below_dn ?_ _) | (refine Below.drew ?_) | (refine Below.alloc ?_ (by first | omega | (simp; done) | (simp; omega)) _) | (exact Below.refl _ _)))⟩
theorem mx_lt {xs : List Int} {n : Int} (h0 : 0 < xs.length) (hb : ∀ j, j < xs.length → 0 ≤ xs.getD j 0 ∧ xs.getD j 0 ≤ 255) : allB 0 (n - 1) xs = !decide (mx xs xs.length ≥ n) := by
  by_cases h : mx xs xs.length ≥ n
  · rw [decide_eq_true h]
    obtain ⟨j, hj, e⟩ := mx_in xs h0 xs.length (Nat.le_refl _)
    exact (allB_no (lo := 0) (hi := n - 1) hj) (by omega)
  · rw [decide_eq_false h]
    exact allB_yes (lo := 0) (hi := n - 1) (fun j hj => by have h1 := hb j hj; have h2 := mx_ge xs xs.length j hj; omega)
set_option maxHeartbeats 16000000 in
theorem i_ColorImage (W H P a : Int) (A : Option Addr) (c : Nat) (xs : List Int) (A2 : Option Addr) (n0 c2 : Nat) (xss : List (List Int)) (w : World) (hx : Rds .i64 w w.heap.size A xs) (hl : xs.length ≤ 2000000) (hlc : xs.length ≤ c) (hs : Rdss w w.heap.size A2 xss) (hn2 : n0 = xss.length) (ht : tot xss ≤ 2000000) :
    Calls Try.prog 17 #[.agg #[.int .i64 W, .int .i64 H, .int .i64 P, .slice A xs.length c], .slice A2 n0 c2, .int .i64 a] w (ColR (ciOk W H P xs xss a) W H a (ciL W.toNat H.toNat a.toNat xs xss) w) := by
  have HX := Lib.hid hx
  have HV : Hid (ciOk W H P xs xss a = (vim W H P xs && (decide (P = 1) && (decide (1 ≤ a ∧ a ≤ 4) && (palB xss a && allB 0 ((xss.length : Int) - 1) xs))))) := Lib.hid rfl
  have S0 : GS w ((w.alloc (.cells #[.int .i64 W, .int .i64 H, .int .i64 P, .slice A xs.length c] 25)).alloc (.cells #[.int .i64 0, .int .i64 0, .int .i64 0, .slice none 0 0] 25)) [] [⟨(w.heap.size + 1), 25, #[.int .i64 0, .int .i64 0, .int .i64 0, .slice none 0 0]⟩, ⟨w.heap.size, 25, #[.int .i64 W, .int .i64 H, .int .i64 P, .slice A xs.length c]⟩] := GS.box' (GS.box' (GS.start w) 25 #[.int .i64 W, .int .i64 H, .int .i64 P, .slice A xs.length c] w.heap.size (by simp)) 25 #[.int .i64 0, .int .i64 0, .int .i64 0, .slice none 0 0] (w.heap.size + 1) (by simp)
  have Eg : Hid (∀ args w, (callFunc 57 args).run Try.prog w = .ok (.enter 57 args) w) := Lib.hid (enters_of Try.func57 (by kernel_rfl) rfl)
  have HCO := Lib.hid (iClr_any A2 c2 n0 xss a _ hn2 (S0.argSS2 hs) ht)
  clear hx hs hn2 ht
  go_enter Try.func17, Try.ntmps17
  go_wp2_with fail
  generalize (w.alloc (.cells #[.int .i64 W, .int .i64 H, .int .i64 P, .slice A xs.length c] 25)).alloc (.cells #[.int .i64 0, .int .i64 0, .int .i64 0, .slice none 0 0] 25) = u0 at *
  refine HCO.out.mono ?_
  rintro e u1 ⟨hB, hor⟩
  clear HCO
  rcases hor with ⟨hno, rfl⟩ | ⟨ha, hpal, v, rfl, hO⟩
  · have Hv : Hid (ciOk W H P xs xss a = false) := Lib.hid (by
      rw [HV.out]
      cases h1 : decide (1 ≤ a ∧ a ≤ 4)
      · simp
      · rw [h1, Bool.true_and] at hno
        rw [hno]; simp)
    clear HV hno
    obtain ⟨cb, hcb⟩ : ∃ cb, cb = u1.heap.size := ⟨_, rfl⟩
    have S1 := GS.box' (S0.call hB) 61 #[.slice none 0 0] cb hcb
    clear S0 hB
    go_upto_region 2 with fail
    rw [← hcb]
    generalize u1.alloc (.cells #[.slice none 0 0] 61) = u2 at *
    clear hcb
    have HC := Lib.hid S1.drew
    clear S1
    refine wp_region_held_drew (S := (fun _ => True)) (by kernel_rfl) (by exact trivial) (fun hHeld => ?_)
    refine' wpAnyH_take (i := 0) (oi := _) (v := _) ?hi9 (by kernel_rfl) (by kernel_rfl) (by kernel_rfl) ?hq9 (Or.inl ⟨?hw9, ?hy9⟩) (by assumption) ?rest9
    case hi9 => (simp only [List.getElem?_toArray, List.getElem?_cons_succ, List.getElem?_cons_zero]; rfl)
    case hq9 => exact fun _ _ _ h => h
    case hw9 => rfl
    case hy9 => (intro wq hSw; (try dsimp only at hSw); go_simp; (try with_reducible rfl))
    (try simp only [Act.put, List.setIfInBounds_toArray, List.set_cons_zero, List.set_cons_succ])
    refine' wpAnyH_take (i := 1) (oi := _) (v := Value.bool true) ?hi10 (by kernel_rfl) (by kernel_rfl) (by kernel_rfl) ?hq10 (Or.inl ⟨?hw10, ?hy10⟩) (by assumption) ?rest10
    case hi10 => (simp only [List.getElem?_toArray, List.getElem?_cons_succ, List.getElem?_cons_zero]; rfl)
    case hq10 => exact fun _ _ _ h => h
    case hw10 => rfl
    case hy10 => (intro wq hSw; (try dsimp only at hSw); (try go_simp); (first | done | (with_reducible rfl) | rfl | simp))
    (try simp only [Act.put, List.setIfInBounds_toArray, List.set_cons_zero, List.set_cons_succ])
    refine' wpAnyH_take (i := 2) (oi := _) (v := Value.bool true) ?hi11 (by kernel_rfl) (by kernel_rfl) (by kernel_rfl) ?hq11 (Or.inl ⟨?hw11, ?hy11⟩) (by assumption) ?rest11
    case hi11 => (simp only [List.getElem?_toArray, List.getElem?_cons_succ, List.getElem?_cons_zero]; rfl)
    case hq11 => exact fun _ _ _ h => h
    case hw11 => rfl
    case hy11 => (intro wq hSw; (try dsimp only at hSw); (try go_simp); (first | done | (with_reducible rfl) | rfl | simp))
    (try simp only [Act.put, List.setIfInBounds_toArray, List.set_cons_zero, List.set_cons_succ])
    refine' wpAnyH_take (i := 3) (oi := _) (v := undef) ?hi12 (by kernel_rfl) (by kernel_rfl) (by kernel_rfl) ?hq12 (Or.inr ?hw12) (by assumption) ?rest12
    case hi12 => (simp only [List.getElem?_toArray, List.getElem?_cons_succ, List.getElem?_cons_zero]; rfl)
    case hq12 => exact fun _ _ _ h => h
    case hw12 => exact ⟨rfl, rfl⟩
    (try simp only [Act.put, List.setIfInBounds_toArray, List.set_cons_zero, List.set_cons_succ])
    refine' wpAnyH_take (i := 4) (oi := _) (v := undef) ?hi13 (by kernel_rfl) (by kernel_rfl) (by kernel_rfl) ?hq13 (Or.inr ?hw13) (by assumption) ?rest13
    case hi13 => (simp only [List.getElem?_toArray, List.getElem?_cons_succ, List.getElem?_cons_zero]; rfl)
    case hq13 => exact fun _ _ _ h => h
    case hw13 => exact ⟨rfl, rfl⟩
    (try simp only [Act.put, List.setIfInBounds_toArray, List.set_cons_zero, List.set_cons_succ])
    refine' wpAnyH_take (i := 5) (oi := _) (v := undef) ?hi14 (by kernel_rfl) (by kernel_rfl) (by kernel_rfl) ?hq14 (Or.inr ?hw14) (by assumption) ?rest14
    case hi14 => (simp only [List.getElem?_toArray, List.getElem?_cons_succ, List.getElem?_cons_zero]; rfl)
    case hq14 => exact fun _ _ _ h => h
    case hw14 => exact ⟨rfl, rfl⟩
    (try simp only [Act.put, List.setIfInBounds_toArray, List.set_cons_zero, List.set_cons_succ])
    refine' wpAnyH_take (i := 6) (oi := _) (v := Value.bool true) ?hi15 (by kernel_rfl) (by kernel_rfl) (by kernel_rfl) ?hq15 (Or.inl ⟨?hw15, ?hy15⟩) (by assumption) ?rest15
    case hi15 => (simp only [List.getElem?_toArray, List.getElem?_cons_succ, List.getElem?_cons_zero]; rfl)
    case hq15 => exact fun _ _ _ h => h
    case hw15 => rfl
    case hy15 => (intro wq hSw; (try dsimp only at hSw); (try go_simp); (first | done | (with_reducible rfl) | rfl | simp))
    (try simp only [Act.put, List.setIfInBounds_toArray, List.set_cons_zero, List.set_cons_succ])
    refine' wpAnyH_take (i := 7) (oi := _) (v := Value.bool true) ?hi16 (by kernel_rfl) (by kernel_rfl) (by kernel_rfl) ?hq16 (Or.inl ⟨?hw16, ?hy16⟩) (by assumption) ?rest16
    case hi16 => (simp only [List.getElem?_toArray, List.getElem?_cons_succ, List.getElem?_cons_zero]; rfl)
    case hq16 => exact fun _ _ _ h => h
    case hw16 => rfl
    case hy16 => (intro wq hSw; (try dsimp only at hSw); (try go_simp); (first | done | (with_reducible rfl) | rfl | simp))
    (try simp only [Act.put, List.setIfInBounds_toArray, List.set_cons_zero, List.set_cons_succ])
    refine' wpAnyH_take (i := 8) (oi := _) (v := undef) ?hi17 (by kernel_rfl) (by kernel_rfl) (by kernel_rfl) ?hq17 (Or.inr ?hw17) (by assumption) ?rest17
    case hi17 => (simp only [List.getElem?_toArray, List.getElem?_cons_succ, List.getElem?_cons_zero]; rfl)
    case hq17 => exact fun _ _ _ h => h
    case hw17 => exact ⟨rfl, rfl⟩
    (try simp only [Act.put, List.setIfInBounds_toArray, List.set_cons_zero, List.set_cons_succ])
    refine' wpAnyH_take (i := 9) (oi := _) (v := undef) ?hi18 (by kernel_rfl) (by kernel_rfl) (by kernel_rfl) ?hq18 (Or.inr ?hw18) (by assumption) ?rest18
    case hi18 => (simp only [List.getElem?_toArray, List.getElem?_cons_succ, List.getElem?_cons_zero]; rfl)
    case hq18 => exact fun _ _ _ h => h
    case hw18 => exact ⟨rfl, rfl⟩
    (try simp only [Act.put, List.setIfInBounds_toArray, List.set_cons_zero, List.set_cons_succ])
    refine' wpAnyH_take (i := 10) (oi := _) (v := undef) ?hi19 (by kernel_rfl) (by kernel_rfl) (by kernel_rfl) ?hq19 (Or.inr ?hw19) (by assumption) ?rest19
    case hi19 => (simp only [List.getElem?_toArray, List.getElem?_cons_succ, List.getElem?_cons_zero]; rfl)
    case hq19 => exact fun _ _ _ h => h
    case hw19 => exact ⟨rfl, rfl⟩
    (try simp only [Act.put, List.setIfInBounds_toArray, List.set_cons_zero, List.set_cons_succ])
    refine' wpAnyH_take (i := 11) (oi := _) (v := undef) ?hi20 (by kernel_rfl) (by kernel_rfl) (by kernel_rfl) ?hq20 (Or.inr ?hw20) (by assumption) ?rest20
    case hi20 => (simp only [List.getElem?_toArray, List.getElem?_cons_succ, List.getElem?_cons_zero]; rfl)
    case hq20 => exact fun _ _ _ h => h
    case hw20 => exact ⟨rfl, rfl⟩
    (try simp only [Act.put, List.setIfInBounds_toArray, List.set_cons_zero, List.set_cons_succ])
    refine' wpAnyH_take (i := 12) (oi := _) (v := undef) ?hi21 (by kernel_rfl) (by kernel_rfl) (by kernel_rfl) ?hq21 (Or.inr ?hw21) (by assumption) ?rest21
    case hi21 => (simp only [List.getElem?_toArray, List.getElem?_cons_succ, List.getElem?_cons_zero]; rfl)
    case hq21 => exact fun _ _ _ h => h
    case hw21 => exact ⟨rfl, rfl⟩
    (try simp only [Act.put, List.setIfInBounds_toArray, List.set_cons_zero, List.set_cons_succ])
    refine' wpAnyH_take (i := 13) (oi := _) (v := undef) ?hi22 (by kernel_rfl) (by kernel_rfl) (by kernel_rfl) ?hq22 (Or.inr ?hw22) (by assumption) ?rest22
    case hi22 => (simp only [List.getElem?_toArray, List.getElem?_cons_succ, List.getElem?_cons_zero]; rfl)
    case hq22 => exact fun _ _ _ h => h
    case hw22 => exact ⟨rfl, rfl⟩
    (try simp only [Act.put, List.setIfInBounds_toArray, List.set_cons_zero, List.set_cons_succ])
    refine' wpAnyH_take (i := 14) (oi := _) (v := Value.bool true) ?hi23 (by kernel_rfl) (by kernel_rfl) (by kernel_rfl) ?hq23 (Or.inl ⟨?hw23, ?hy23⟩) (by assumption) ?rest23
    case hi23 => (simp only [List.getElem?_toArray, List.getElem?_cons_succ, List.getElem?_cons_zero]; rfl)
    case hq23 => exact fun _ _ _ h => h
    case hw23 => rfl
    case hy23 => (intro wq hSw; (try dsimp only at hSw); (try go_simp); (first | done | (with_reducible rfl) | rfl | simp))
    (try simp only [Act.put, List.setIfInBounds_toArray, List.set_cons_zero, List.set_cons_succ])
    refine wpAnyH_done (by kernel_rfl) ?_ _
    have HC2 := HC.out
    clear HC hHeld
    generalize u2.drew = u3 at *
    obtain ⟨r0, r1, r2, r3⟩ := HC2.b1_4
    have f0 := HC2.f1 0
    have f1 := HC2.f1 1
    have f2 := HC2.f1 2
    have f3 := HC2.f1 3
    have HE := Lib.hid (HC2.e1_4 (.int .i64 0) (.int .i64 0) (.int .i64 0) (.slice none 0 0))
    clear HC2
    go_wp2
    exact bodyPost_ret (v := .tuple #[.agg #[.int .i64 0, .int .i64 0, .int .i64 0, .slice none 0 0], .bool false]) (by simp [results, Try.results17, go_sem, r0, r1, r2, r3]) rfl (ColR.no Hv.out HE.out.1)
  · have HPal := Lib.hid hpal
    have HA := Lib.hid ha
    have hpo := palB_of hpal
    have S1 := S0.addR hO hB
    obtain ⟨A6, c6, rfl, hc6⟩ := hO.slice
    obtain ⟨lo6, hlo6⟩ : ∃ lo6, lo6 = u0.heap.size := ⟨_, rfl⟩
    obtain ⟨hi6, hhi6⟩ : ∃ hi6, hi6 = u1.heap.size := ⟨_, rfl⟩
    obtain ⟨cb, hcb⟩ : ∃ cb, cb = u1.heap.size := ⟨_, rfl⟩
    obtain ⟨n2, hn2⟩ : ∃ n2, n2 = xss.length := ⟨_, rfl⟩
    rw [← hlo6, ← hhi6, ← hn2] at S1
    rw [← hn2] at hc6 hpo ⊢
    have S2 := GS.box' S1 61 #[.slice A6 n2 c6] cb hcb
    have HS2 : Hid (GS w (u1.alloc (.cells #[.slice A6 n2 c6] 61)) [rt 66 4 lo6 hi6 (.slice A6 n2 c6) n2 (clr xss n2)] [⟨cb, 61, #[.slice A6 n2 c6]⟩, ⟨(w.heap.size + 1), 25, #[.int .i64 0, .int .i64 0, .int .i64 0, .slice none 0 0]⟩, ⟨w.heap.size, 25, #[.int .i64 W, .int .i64 H, .int .i64 P, .slice A xs.length c]⟩]) := Lib.hid S2
    have HCl := Lib.hid hpo.2
    have hn16 := hpo.1
    have Hn2 := Lib.hid hn2
    clear S0 S1 S2 hB hO ha hpal hpo hn2 hlo6 hhi6
    go_upto_region 2 with fail
    rw [← hcb]
    generalize u1.alloc (.cells #[.slice A6 n2 c6] 61) = u2 at *
    clear hcb
    have HC := Lib.hid HS2.out.drew
    clear HS2
    cases hvp : vpl W H P xs
    · have HVP := Lib.hid hvp
      have Hv : Hid (ciOk W H P xs xss a = false) := Lib.hid (by
        rw [HV.out]
        unfold vpl at hvp
        cases h1 : vim W H P xs
        · rfl
        · rw [h1, Bool.true_and] at hvp
          rw [hvp]; rfl)
      clear HV hvp
      refine wp_region_held_drew (S := (fun w' => w'.cell? ⟨w.heap.size, 0, none⟩ = some (.int .i64 W) ∧ w'.cell? ⟨w.heap.size, 1, none⟩ = some (.int .i64 H) ∧ w'.cell? ⟨w.heap.size, 2, none⟩ = some (.int .i64 P) ∧ w'.cell? ⟨w.heap.size, 3, none⟩ = some (.slice A xs.length c) ∧ w'.cell? ⟨cb, 0, none⟩ = some (.slice A6 n2 c6))) (by kernel_rfl) (by exact ⟨HC.out.b2_4.1, HC.out.b2_4.2.1, HC.out.b2_4.2.2.1, HC.out.b2_4.2.2.2, bx1 HC.out.x0⟩) (fun hHeld => ?_)
      refine' wpAnyH_take (i := 0) (oi := _) (v := _) ?hi24 (by kernel_rfl) (by kernel_rfl) (by kernel_rfl) ?hq24 (Or.inl ⟨?hw24, ?hy24⟩) (by assumption) ?rest24
      case hi24 => (simp only [List.getElem?_toArray, List.getElem?_cons_succ, List.getElem?_cons_zero]; rfl)
      case hq24 => exact fun _ _ _ h => h
      case hw24 => rfl
      case hy24 => (intro wq hSw; (try dsimp only at hSw); go_simp; (try with_reducible rfl))
      (try simp only [Act.put, List.setIfInBounds_toArray, List.set_cons_zero, List.set_cons_succ])
      refine' wpAnyH_take (i := 1) (oi := _) (v := Value.bool false) ?hi25 (by kernel_rfl) (by kernel_rfl) (by kernel_rfl) ?hq25 (Or.inl ⟨?hw25, ?hy25⟩) (by assumption) ?rest25
      case hi25 => (simp only [List.getElem?_toArray, List.getElem?_cons_succ, List.getElem?_cons_zero]; rfl)
      case hq25 => exact fun _ _ _ h => h
      case hw25 => rfl
      case hy25 => (intro wq hSw; (try dsimp only at hSw); (try go_simp); (first | done | (with_reducible rfl) | rfl | simp))
      (try simp only [Act.put, List.setIfInBounds_toArray, List.set_cons_zero, List.set_cons_succ])
      refine' wpAnyH_take (i := 2) (oi := _) (v := Value.bool false) ?hi26 (by kernel_rfl) (by kernel_rfl) (by kernel_rfl) ?hq26 (Or.inl ⟨?hw26, ?hy26⟩) (by assumption) ?rest26
      case hi26 => (simp only [List.getElem?_toArray, List.getElem?_cons_succ, List.getElem?_cons_zero]; rfl)
      case hq26 => exact fun _ _ _ h => h
      case hw26 => rfl
      case hy26 => (intro wq hSw; (try dsimp only at hSw); (try go_simp); (first | done | (with_reducible rfl) | rfl | simp))
      (try simp only [Act.put, List.setIfInBounds_toArray, List.set_cons_zero, List.set_cons_succ])
      refine' wpAnyH_take (i := 3) (oi := _) (v := _) ?hi27 (by kernel_rfl) (by kernel_rfl) (by kernel_rfl) ?hq27 (Or.inl ⟨?hw27, ?hy27⟩) (by assumption) ?rest27
      case hi27 => (simp only [List.getElem?_toArray, List.getElem?_cons_succ, List.getElem?_cons_zero]; rfl)
      case hq27 => exact fun _ _ _ h => h
      case hw27 => rfl
      case hy27 => (intro wq hSw; (try dsimp only at hSw); go_simp; (try with_reducible rfl))
      (try simp only [Act.put, List.setIfInBounds_toArray, List.set_cons_zero, List.set_cons_succ])
      refine wpAnyH_ready (rs := [4]) (by kernel_rfl) (by simp) ?_
      refine' AllReadyH.cons (o := _) ?hi28 (fun K hK => ?rest28) AllReadyH.nil
      case hi28 => (simp only [List.getElem?_toArray, List.getElem?_cons_succ, List.getElem?_cons_zero]; rfl)
      go_simp
      go_at_call 52
      refine (iVplane_any W H P A c xs _ (HC.out.arg HX.out) hl).mono ?_
      rintro e u5 ⟨rfl, hB5⟩
      have HD := Lib.hid (HC.out.call hB5)
      clear HC hB5
      have HC := HD
      clear HD
      rw [HVP.out]
      go_wp2_with fail
      refine hK.out _ _ (by (try dsimp only); exact ⟨HC.out.b2_4.1, HC.out.b2_4.2.1, HC.out.b2_4.2.2.1, HC.out.b2_4.2.2.2, bx1 HC.out.x0⟩) (fun hHeld => ?_)
      clear hK K
      (try simp only [Act.put, List.setIfInBounds_toArray, List.set_cons_zero, List.set_cons_succ])
      refine' wpAnyH_take (i := 5) (oi := _) (v := Value.bool true) ?hi29 (by kernel_rfl) (by kernel_rfl) (by kernel_rfl) ?hq29 (Or.inl ⟨?hw29, ?hy29⟩) (by assumption) ?rest29
      case hi29 => (simp only [List.getElem?_toArray, List.getElem?_cons_succ, List.getElem?_cons_zero]; rfl)
      case hq29 => exact fun _ _ _ h => h
      case hw29 => rfl
      case hy29 => (intro wq hSw; (try dsimp only at hSw); (try go_simp); (first | done | (with_reducible rfl) | rfl | simp))
      (try simp only [Act.put, List.setIfInBounds_toArray, List.set_cons_zero, List.set_cons_succ])
      refine' wpAnyH_take (i := 6) (oi := _) (v := Value.bool true) ?hi30 (by kernel_rfl) (by kernel_rfl) (by kernel_rfl) ?hq30 (Or.inl ⟨?hw30, ?hy30⟩) (by assumption) ?rest30
      case hi30 => (simp only [List.getElem?_toArray, List.getElem?_cons_succ, List.getElem?_cons_zero]; rfl)
      case hq30 => exact fun _ _ _ h => h
      case hw30 => rfl
      case hy30 => (intro wq hSw; (try dsimp only at hSw); (try go_simp); (first | done | (with_reducible rfl) | rfl | simp))
      (try simp only [Act.put, List.setIfInBounds_toArray, List.set_cons_zero, List.set_cons_succ])
      refine' wpAnyH_take (i := 7) (oi := _) (v := Value.bool true) ?hi31 (by kernel_rfl) (by kernel_rfl) (by kernel_rfl) ?hq31 (Or.inl ⟨?hw31, ?hy31⟩) (by assumption) ?rest31
      case hi31 => (simp only [List.getElem?_toArray, List.getElem?_cons_succ, List.getElem?_cons_zero]; rfl)
      case hq31 => exact fun _ _ _ h => h
      case hw31 => rfl
      case hy31 => (intro wq hSw; (try dsimp only at hSw); (try go_simp); (first | done | (with_reducible rfl) | rfl | simp))
      (try simp only [Act.put, List.setIfInBounds_toArray, List.set_cons_zero, List.set_cons_succ])
      refine' wpAnyH_take (i := 8) (oi := _) (v := undef) ?hi32 (by kernel_rfl) (by kernel_rfl) (by kernel_rfl) ?hq32 (Or.inr ?hw32) (by assumption) ?rest32
      case hi32 => (simp only [List.getElem?_toArray, List.getElem?_cons_succ, List.getElem?_cons_zero]; rfl)
      case hq32 => exact fun _ _ _ h => h
      case hw32 => exact ⟨rfl, rfl⟩
      (try simp only [Act.put, List.setIfInBounds_toArray, List.set_cons_zero, List.set_cons_succ])
      refine' wpAnyH_take (i := 9) (oi := _) (v := undef) ?hi33 (by kernel_rfl) (by kernel_rfl) (by kernel_rfl) ?hq33 (Or.inr ?hw33) (by assumption) ?rest33
      case hi33 => (simp only [List.getElem?_toArray, List.getElem?_cons_succ, List.getElem?_cons_zero]; rfl)
      case hq33 => exact fun _ _ _ h => h
      case hw33 => exact ⟨rfl, rfl⟩
      (try simp only [Act.put, List.setIfInBounds_toArray, List.set_cons_zero, List.set_cons_succ])
      refine' wpAnyH_take (i := 10) (oi := _) (v := undef) ?hi34 (by kernel_rfl) (by kernel_rfl) (by kernel_rfl) ?hq34 (Or.inr ?hw34) (by assumption) ?rest34
      case hi34 => (simp only [List.getElem?_toArray, List.getElem?_cons_succ, List.getElem?_cons_zero]; rfl)
      case hq34 => exact fun _ _ _ h => h
      case hw34 => exact ⟨rfl, rfl⟩
      (try simp only [Act.put, List.setIfInBounds_toArray, List.set_cons_zero, List.set_cons_succ])
      refine' wpAnyH_take (i := 11) (oi := _) (v := undef) ?hi35 (by kernel_rfl) (by kernel_rfl) (by kernel_rfl) ?hq35 (Or.inr ?hw35) (by assumption) ?rest35
      case hi35 => (simp only [List.getElem?_toArray, List.getElem?_cons_succ, List.getElem?_cons_zero]; rfl)
      case hq35 => exact fun _ _ _ h => h
      case hw35 => exact ⟨rfl, rfl⟩
      (try simp only [Act.put, List.setIfInBounds_toArray, List.set_cons_zero, List.set_cons_succ])
      refine' wpAnyH_take (i := 12) (oi := _) (v := undef) ?hi36 (by kernel_rfl) (by kernel_rfl) (by kernel_rfl) ?hq36 (Or.inr ?hw36) (by assumption) ?rest36
      case hi36 => (simp only [List.getElem?_toArray, List.getElem?_cons_succ, List.getElem?_cons_zero]; rfl)
      case hq36 => exact fun _ _ _ h => h
      case hw36 => exact ⟨rfl, rfl⟩
      (try simp only [Act.put, List.setIfInBounds_toArray, List.set_cons_zero, List.set_cons_succ])
      refine' wpAnyH_take (i := 13) (oi := _) (v := undef) ?hi37 (by kernel_rfl) (by kernel_rfl) (by kernel_rfl) ?hq37 (Or.inr ?hw37) (by assumption) ?rest37
      case hi37 => (simp only [List.getElem?_toArray, List.getElem?_cons_succ, List.getElem?_cons_zero]; rfl)
      case hq37 => exact fun _ _ _ h => h
      case hw37 => exact ⟨rfl, rfl⟩
      (try simp only [Act.put, List.setIfInBounds_toArray, List.set_cons_zero, List.set_cons_succ])
      refine' wpAnyH_take (i := 14) (oi := _) (v := Value.bool true) ?hi38 (by kernel_rfl) (by kernel_rfl) (by kernel_rfl) ?hq38 (Or.inl ⟨?hw38, ?hy38⟩) (by assumption) ?rest38
      case hi38 => (simp only [List.getElem?_toArray, List.getElem?_cons_succ, List.getElem?_cons_zero]; rfl)
      case hq38 => exact fun _ _ _ h => h
      case hw38 => rfl
      case hy38 => (intro wq hSw; (try dsimp only at hSw); (try go_simp); (first | done | (with_reducible rfl) | rfl | simp))
      (try simp only [Act.put, List.setIfInBounds_toArray, List.set_cons_zero, List.set_cons_succ])
      refine wpAnyH_done (by kernel_rfl) ?_ _
      have HC2 := HC.out
      clear HC
      obtain ⟨r0, r1, r2, r3⟩ := HC2.b1_4
      have f0 := HC2.f1 0
      have f1 := HC2.f1 1
      have f2 := HC2.f1 2
      have f3 := HC2.f1 3
      have HE := Lib.hid (HC2.e1_4 (.int .i64 0) (.int .i64 0) (.int .i64 0) (.slice none 0 0))
      clear HC2
      go_wp2
      exact bodyPost_ret (v := .tuple #[.agg #[.int .i64 0, .int .i64 0, .int .i64 0, .slice none 0 0], .bool false]) (by simp [results, Try.results17, go_sem, r0, r1, r2, r3]) rfl (ColR.no Hv.out HE.out.1)
    · have HVP := Lib.hid hvp
      have hvp2 : vim W H P xs = true ∧ P = 1 := by
        unfold vpl at hvp
        rw [Bool.and_eq_true] at hvp
        exact ⟨hvp.1, of_decide_eq_true hvp.2⟩
      have hvim := hvp2.1
      have hP1 := hvp2.2
      obtain ⟨W', H', P', eW, eH, eP, hW1, hW, hH1, hH, _, _, hln, hby⟩ := vim_nat hvim
      have hP'1 : P' = 1 := by omega
      subst hP'1
      rw [Nat.mul_one] at hln
      have Hpos : Hid (0 < xs.length) := Lib.hid (by rw [hln]; exact Nat.mul_pos hW1 hH1)
      have HBy := Lib.hid hby
      have HEq := Lib.hid (And.intro eW (And.intro eH hln))
      clear eW eH eP hln
      obtain ⟨mxv, hmx⟩ : ∃ m, m = mx xs xs.length := ⟨_, rfl⟩
      have HMx := Lib.hid hmx.symm
      have hmxb := mx_bd xs Hpos.out hby xs.length (Nat.le_refl _)
      rw [← hmx] at hmxb
      have hall := mx_lt (n := (xss.length : Int)) Hpos.out hby
      rw [← hmx, ← Hn2.out] at hall
      by_cases hge' : mxv ≥ (n2 : Int)
      · have hge : decide (mxv ≥ (n2 : Int)) = true := decide_eq_true hge'
        have Hv : Hid (ciOk W H P xs xss a = false) := Lib.hid (by rw [HV.out, ← Hn2.out, hall, hge]; simp)
        clear HV hvp hvp2 hvim hall hP1 hmx hby
        refine wp_region_held_drew (S := (fun w' => w'.cell? ⟨w.heap.size, 0, none⟩ = some (.int .i64 W) ∧ w'.cell? ⟨w.heap.size, 1, none⟩ = some (.int .i64 H) ∧ w'.cell? ⟨w.heap.size, 2, none⟩ = some (.int .i64 P) ∧ w'.cell? ⟨w.heap.size, 3, none⟩ = some (.slice A xs.length c) ∧ w'.cell? ⟨cb, 0, none⟩ = some (.slice A6 n2 c6))) (by kernel_rfl) (by exact ⟨HC.out.b2_4.1, HC.out.b2_4.2.1, HC.out.b2_4.2.2.1, HC.out.b2_4.2.2.2, bx1 HC.out.x0⟩) (fun hHeld => ?_)
        refine' wpAnyH_take (i := 0) (oi := _) (v := _) ?hi39 (by kernel_rfl) (by kernel_rfl) (by kernel_rfl) ?hq39 (Or.inl ⟨?hw39, ?hy39⟩) (by assumption) ?rest39
        case hi39 => (simp only [List.getElem?_toArray, List.getElem?_cons_succ, List.getElem?_cons_zero]; rfl)
        case hq39 => exact fun _ _ _ h => h
        case hw39 => rfl
        case hy39 => (intro wq hSw; (try dsimp only at hSw); go_simp; (try with_reducible rfl))
        (try simp only [Act.put, List.setIfInBounds_toArray, List.set_cons_zero, List.set_cons_succ])
        refine' wpAnyH_take (i := 1) (oi := _) (v := Value.bool false) ?hi40 (by kernel_rfl) (by kernel_rfl) (by kernel_rfl) ?hq40 (Or.inl ⟨?hw40, ?hy40⟩) (by assumption) ?rest40
        case hi40 => (simp only [List.getElem?_toArray, List.getElem?_cons_succ, List.getElem?_cons_zero]; rfl)
        case hq40 => exact fun _ _ _ h => h
        case hw40 => rfl
        case hy40 => (intro wq hSw; (try dsimp only at hSw); (try go_simp); (first | done | (with_reducible rfl) | rfl | simp))
        (try simp only [Act.put, List.setIfInBounds_toArray, List.set_cons_zero, List.set_cons_succ])
        refine' wpAnyH_take (i := 2) (oi := _) (v := Value.bool false) ?hi41 (by kernel_rfl) (by kernel_rfl) (by kernel_rfl) ?hq41 (Or.inl ⟨?hw41, ?hy41⟩) (by assumption) ?rest41
        case hi41 => (simp only [List.getElem?_toArray, List.getElem?_cons_succ, List.getElem?_cons_zero]; rfl)
        case hq41 => exact fun _ _ _ h => h
        case hw41 => rfl
        case hy41 => (intro wq hSw; (try dsimp only at hSw); (try go_simp); (first | done | (with_reducible rfl) | rfl | simp))
        (try simp only [Act.put, List.setIfInBounds_toArray, List.set_cons_zero, List.set_cons_succ])
        refine' wpAnyH_take (i := 3) (oi := _) (v := _) ?hi42 (by kernel_rfl) (by kernel_rfl) (by kernel_rfl) ?hq42 (Or.inl ⟨?hw42, ?hy42⟩) (by assumption) ?rest42
        case hi42 => (simp only [List.getElem?_toArray, List.getElem?_cons_succ, List.getElem?_cons_zero]; rfl)
        case hq42 => exact fun _ _ _ h => h
        case hw42 => rfl
        case hy42 => (intro wq hSw; (try dsimp only at hSw); go_simp; (try with_reducible rfl))
        (try simp only [Act.put, List.setIfInBounds_toArray, List.set_cons_zero, List.set_cons_succ])
        refine wpAnyH_ready (rs := [4]) (by kernel_rfl) (by simp) ?_
        refine' AllReadyH.cons (o := _) ?hi43 (fun K hK => ?rest43) AllReadyH.nil
        case hi43 => (simp only [List.getElem?_toArray, List.getElem?_cons_succ, List.getElem?_cons_zero]; rfl)
        go_simp
        go_at_call 52
        refine (iVplane_any W H P A c xs _ (HC.out.arg HX.out) hl).mono ?_
        rintro e u5 ⟨rfl, hB5⟩
        have HD := Lib.hid (HC.out.call hB5)
        clear HC hB5
        have HC := HD
        clear HD
        rw [HVP.out]
        go_wp2_with fail
        refine hK.out _ _ (by (try dsimp only); exact ⟨HC.out.b2_4.1, HC.out.b2_4.2.1, HC.out.b2_4.2.2.1, HC.out.b2_4.2.2.2, bx1 HC.out.x0⟩) (fun hHeld => ?_)
        clear hK K
        (try simp only [Act.put, List.setIfInBounds_toArray, List.set_cons_zero, List.set_cons_succ])
        refine' wpAnyH_take (i := 5) (oi := _) (v := Value.bool false) ?hi44 (by kernel_rfl) (by kernel_rfl) (by kernel_rfl) ?hq44 (Or.inl ⟨?hw44, ?hy44⟩) (by assumption) ?rest44
        case hi44 => (simp only [List.getElem?_toArray, List.getElem?_cons_succ, List.getElem?_cons_zero]; rfl)
        case hq44 => exact fun _ _ _ h => h
        case hw44 => rfl
        case hy44 => (intro wq hSw; (try dsimp only at hSw); (try go_simp); (first | done | (with_reducible rfl) | rfl | simp))
        (try simp only [Act.put, List.setIfInBounds_toArray, List.set_cons_zero, List.set_cons_succ])
        refine' wpAnyH_take (i := 6) (oi := _) (v := Value.bool false) ?hi45 (by kernel_rfl) (by kernel_rfl) (by kernel_rfl) ?hq45 (Or.inl ⟨?hw45, ?hy45⟩) (by assumption) ?rest45
        case hi45 => (simp only [List.getElem?_toArray, List.getElem?_cons_succ, List.getElem?_cons_zero]; rfl)
        case hq45 => exact fun _ _ _ h => h
        case hw45 => rfl
        case hy45 => (intro wq hSw; (try dsimp only at hSw); (try go_simp); (first | done | (with_reducible rfl) | rfl | simp))
        (try simp only [Act.put, List.setIfInBounds_toArray, List.set_cons_zero, List.set_cons_succ])
        refine' wpAnyH_take (i := 7) (oi := _) (v := Value.bool false) ?hi46 (by kernel_rfl) (by kernel_rfl) (by kernel_rfl) ?hq46 (Or.inl ⟨?hw46, ?hy46⟩) (by assumption) ?rest46
        case hi46 => (simp only [List.getElem?_toArray, List.getElem?_cons_succ, List.getElem?_cons_zero]; rfl)
        case hq46 => exact fun _ _ _ h => h
        case hw46 => rfl
        case hy46 => (intro wq hSw; (try dsimp only at hSw); (try go_simp); (first | done | (with_reducible rfl) | rfl | simp))
        (try simp only [Act.put, List.setIfInBounds_toArray, List.set_cons_zero, List.set_cons_succ])
        refine' wpAnyH_take (i := 8) (oi := _) (v := _) ?hi47 (by kernel_rfl) (by kernel_rfl) (by kernel_rfl) ?hq47 (Or.inl ⟨?hw47, ?hy47⟩) (by assumption) ?rest47
        case hi47 => (simp only [List.getElem?_toArray, List.getElem?_cons_succ, List.getElem?_cons_zero]; rfl)
        case hq47 => exact fun _ _ _ h => h
        case hw47 => rfl
        case hy47 => (intro wq hSw; (try dsimp only at hSw); go_simp; (try with_reducible rfl))
        (try simp only [Act.put, List.setIfInBounds_toArray, List.set_cons_zero, List.set_cons_succ])
        refine' wpAnyH_take (i := 9) (oi := _) (v := _) ?hi48 (by kernel_rfl) (by kernel_rfl) (by kernel_rfl) ?hq48 (Or.inl ⟨?hw48, ?hy48⟩) (by assumption) ?rest48
        case hi48 => (simp only [List.getElem?_toArray, List.getElem?_cons_succ, List.getElem?_cons_zero]; rfl)
        case hq48 => exact fun _ _ _ h => h
        case hw48 => rfl
        case hy48 => (intro wq hSw; (try dsimp only at hSw); go_simp; (try with_reducible rfl))
        (try simp only [Act.put, List.setIfInBounds_toArray, List.set_cons_zero, List.set_cons_succ])
        refine' wpAnyH_take (i := 11) (oi := _) (v := _) ?hi49 (by kernel_rfl) (by kernel_rfl) (by kernel_rfl) ?hq49 (Or.inl ⟨?hw49, ?hy49⟩) (by assumption) ?rest49
        case hi49 => (simp only [List.getElem?_toArray, List.getElem?_cons_succ, List.getElem?_cons_zero]; rfl)
        case hq49 => exact fun _ _ _ h => h
        case hw49 => rfl
        case hy49 => (intro wq hSw; (try dsimp only at hSw); go_simp; (try with_reducible rfl))
        (try simp only [Act.put, List.setIfInBounds_toArray, List.set_cons_zero, List.set_cons_succ])
        refine' wpAnyH_take (i := 12) (oi := _) (v := _) ?hi50 (by kernel_rfl) (by kernel_rfl) (by kernel_rfl) ?hq50 (Or.inl ⟨?hw50, ?hy50⟩) (by assumption) ?rest50
        case hi50 => (simp only [List.getElem?_toArray, List.getElem?_cons_succ, List.getElem?_cons_zero]; rfl)
        case hq50 => exact fun _ _ _ h => h
        case hw50 => rfl
        case hy50 => (intro wq hSw; (try dsimp only at hSw); go_simp; (try with_reducible rfl))
        (try simp only [Act.put, List.setIfInBounds_toArray, List.set_cons_zero, List.set_cons_succ])
        refine wpAnyH_ready (rs := [10]) (by kernel_rfl) (by simp) ?_
        refine' AllReadyH.cons (o := _) ?hi51 (fun K hK => ?rest51) AllReadyH.nil
        case hi51 => (simp only [List.getElem?_toArray, List.getElem?_cons_succ, List.getElem?_cons_zero]; rfl)
        go_simp
        go_at_call 53
        refine (smax_any A c xs _ Hpos.out (HC.out.arg HX.out) hl HBy.out).mono ?_
        rintro e u6 ⟨rfl, rfl⟩
        rw [HMx.out]
        go_wp2_with fail
        refine hK.out _ _ (by (try dsimp only); exact ⟨HC.out.b2_4.1, HC.out.b2_4.2.1, HC.out.b2_4.2.2.1, HC.out.b2_4.2.2.2, bx1 HC.out.x0⟩) (fun hHeld => ?_)
        clear hK K
        (try simp only [Act.put, List.setIfInBounds_toArray, List.set_cons_zero, List.set_cons_succ])
        refine' wpAnyH_take (i := 13) (oi := _) (v := Value.bool true) ?hi52 (by kernel_rfl) (by kernel_rfl) (by kernel_rfl) ?hq52 (Or.inl ⟨?hw52, ?hy52⟩) (by assumption) ?rest52
        case hi52 => (simp only [List.getElem?_toArray, List.getElem?_cons_succ, List.getElem?_cons_zero]; rfl)
        case hq52 => exact fun _ _ _ h => h
        case hw52 => rfl
        case hy52 => (intro wq hSw; (try dsimp only at hSw); (try go_simp); (first | done | (with_reducible rfl) | rfl | exact hge | rw [hge] | simp))
        (try simp only [Act.put, List.setIfInBounds_toArray, List.set_cons_zero, List.set_cons_succ])
        refine' wpAnyH_take (i := 14) (oi := _) (v := Value.bool true) ?hi53 (by kernel_rfl) (by kernel_rfl) (by kernel_rfl) ?hq53 (Or.inl ⟨?hw53, ?hy53⟩) (by assumption) ?rest53
        case hi53 => (simp only [List.getElem?_toArray, List.getElem?_cons_succ, List.getElem?_cons_zero]; rfl)
        case hq53 => exact fun _ _ _ h => h
        case hw53 => rfl
        case hy53 => (intro wq hSw; (try dsimp only at hSw); (try go_simp); (first | done | (with_reducible rfl) | rfl | simp))
        (try simp only [Act.put, List.setIfInBounds_toArray, List.set_cons_zero, List.set_cons_succ])
        refine wpAnyH_done (by kernel_rfl) ?_ _
        have HC2 := HC.out
        clear HC
        obtain ⟨r0, r1, r2, r3⟩ := HC2.b1_4
        have f0 := HC2.f1 0
        have f1 := HC2.f1 1
        have f2 := HC2.f1 2
        have f3 := HC2.f1 3
        have HE := Lib.hid (HC2.e1_4 (.int .i64 0) (.int .i64 0) (.int .i64 0) (.slice none 0 0))
        clear HC2
        go_wp2
        exact bodyPost_ret (v := .tuple #[.agg #[.int .i64 0, .int .i64 0, .int .i64 0, .slice none 0 0], .bool false]) (by simp [results, Try.results17, go_sem, r0, r1, r2, r3]) rfl (ColR.no Hv.out HE.out.1)
      · have hge : decide (mxv ≥ (n2 : Int)) = false := decide_eq_false hge'
        have Hv : Hid (ciOk W H P xs xss a = true) := Lib.hid (by rw [HV.out, hvim, decide_eq_true hP1, decide_eq_true HA.out, HPal.out, ← Hn2.out, hall, hge]; rfl)
        have HVn : Hid (∀ k, k < xs.length → ∃ vn : Nat, xs.getD k 0 = (vn : Int) ∧ vn < n2) := Lib.hid (fun k hk => by
          have h1 := hby k hk
          have h2 := mx_ge xs xs.length k hk
          exact ⟨(xs.getD k 0).toNat, by omega, by omega⟩)
        have HP1 := Lib.hid hP1
        clear HV hvp hvp2 hvim hall hmx hP1 hby
        refine wp_region_held_drew (S := (fun w' => w'.cell? ⟨w.heap.size, 0, none⟩ = some (.int .i64 W) ∧ w'.cell? ⟨w.heap.size, 1, none⟩ = some (.int .i64 H) ∧ w'.cell? ⟨w.heap.size, 2, none⟩ = some (.int .i64 P) ∧ w'.cell? ⟨w.heap.size, 3, none⟩ = some (.slice A xs.length c) ∧ w'.cell? ⟨cb, 0, none⟩ = some (.slice A6 n2 c6))) (by kernel_rfl) (by exact ⟨HC.out.b2_4.1, HC.out.b2_4.2.1, HC.out.b2_4.2.2.1, HC.out.b2_4.2.2.2, bx1 HC.out.x0⟩) (fun hHeld => ?_)
        refine' wpAnyH_take (i := 0) (oi := _) (v := _) ?hi54 (by kernel_rfl) (by kernel_rfl) (by kernel_rfl) ?hq54 (Or.inl ⟨?hw54, ?hy54⟩) (by assumption) ?rest54
        case hi54 => (simp only [List.getElem?_toArray, List.getElem?_cons_succ, List.getElem?_cons_zero]; rfl)
        case hq54 => exact fun _ _ _ h => h
        case hw54 => rfl
        case hy54 => (intro wq hSw; (try dsimp only at hSw); go_simp; (try with_reducible rfl))
        (try simp only [Act.put, List.setIfInBounds_toArray, List.set_cons_zero, List.set_cons_succ])
        refine' wpAnyH_take (i := 1) (oi := _) (v := Value.bool false) ?hi55 (by kernel_rfl) (by kernel_rfl) (by kernel_rfl) ?hq55 (Or.inl ⟨?hw55, ?hy55⟩) (by assumption) ?rest55
        case hi55 => (simp only [List.getElem?_toArray, List.getElem?_cons_succ, List.getElem?_cons_zero]; rfl)
        case hq55 => exact fun _ _ _ h => h
        case hw55 => rfl
        case hy55 => (intro wq hSw; (try dsimp only at hSw); (try go_simp); (first | done | (with_reducible rfl) | rfl | simp))
        (try simp only [Act.put, List.setIfInBounds_toArray, List.set_cons_zero, List.set_cons_succ])
        refine' wpAnyH_take (i := 2) (oi := _) (v := Value.bool false) ?hi56 (by kernel_rfl) (by kernel_rfl) (by kernel_rfl) ?hq56 (Or.inl ⟨?hw56, ?hy56⟩) (by assumption) ?rest56
        case hi56 => (simp only [List.getElem?_toArray, List.getElem?_cons_succ, List.getElem?_cons_zero]; rfl)
        case hq56 => exact fun _ _ _ h => h
        case hw56 => rfl
        case hy56 => (intro wq hSw; (try dsimp only at hSw); (try go_simp); (first | done | (with_reducible rfl) | rfl | simp))
        (try simp only [Act.put, List.setIfInBounds_toArray, List.set_cons_zero, List.set_cons_succ])
        refine' wpAnyH_take (i := 3) (oi := _) (v := _) ?hi57 (by kernel_rfl) (by kernel_rfl) (by kernel_rfl) ?hq57 (Or.inl ⟨?hw57, ?hy57⟩) (by assumption) ?rest57
        case hi57 => (simp only [List.getElem?_toArray, List.getElem?_cons_succ, List.getElem?_cons_zero]; rfl)
        case hq57 => exact fun _ _ _ h => h
        case hw57 => rfl
        case hy57 => (intro wq hSw; (try dsimp only at hSw); go_simp; (try with_reducible rfl))
        (try simp only [Act.put, List.setIfInBounds_toArray, List.set_cons_zero, List.set_cons_succ])
        refine wpAnyH_ready (rs := [4]) (by kernel_rfl) (by simp) ?_
        refine' AllReadyH.cons (o := _) ?hi58 (fun K hK => ?rest58) AllReadyH.nil
        case hi58 => (simp only [List.getElem?_toArray, List.getElem?_cons_succ, List.getElem?_cons_zero]; rfl)
        go_simp
        go_at_call 52
        refine (iVplane_any W H P A c xs _ (HC.out.arg HX.out) hl).mono ?_
        rintro e u5 ⟨rfl, hB5⟩
        have HD := Lib.hid (HC.out.call hB5)
        clear HC hB5
        have HC := HD
        clear HD
        rw [HVP.out]
        go_wp2_with fail
        refine hK.out _ _ (by (try dsimp only); exact ⟨HC.out.b2_4.1, HC.out.b2_4.2.1, HC.out.b2_4.2.2.1, HC.out.b2_4.2.2.2, bx1 HC.out.x0⟩) (fun hHeld => ?_)
        clear hK K
        (try simp only [Act.put, List.setIfInBounds_toArray, List.set_cons_zero, List.set_cons_succ])
        refine' wpAnyH_take (i := 5) (oi := _) (v := Value.bool false) ?hi59 (by kernel_rfl) (by kernel_rfl) (by kernel_rfl) ?hq59 (Or.inl ⟨?hw59, ?hy59⟩) (by assumption) ?rest59
        case hi59 => (simp only [List.getElem?_toArray, List.getElem?_cons_succ, List.getElem?_cons_zero]; rfl)
        case hq59 => exact fun _ _ _ h => h
        case hw59 => rfl
        case hy59 => (intro wq hSw; (try dsimp only at hSw); (try go_simp); (first | done | (with_reducible rfl) | rfl | simp))
        (try simp only [Act.put, List.setIfInBounds_toArray, List.set_cons_zero, List.set_cons_succ])
        refine' wpAnyH_take (i := 6) (oi := _) (v := Value.bool false) ?hi60 (by kernel_rfl) (by kernel_rfl) (by kernel_rfl) ?hq60 (Or.inl ⟨?hw60, ?hy60⟩) (by assumption) ?rest60
        case hi60 => (simp only [List.getElem?_toArray, List.getElem?_cons_succ, List.getElem?_cons_zero]; rfl)
        case hq60 => exact fun _ _ _ h => h
        case hw60 => rfl
        case hy60 => (intro wq hSw; (try dsimp only at hSw); (try go_simp); (first | done | (with_reducible rfl) | rfl | simp))
        (try simp only [Act.put, List.setIfInBounds_toArray, List.set_cons_zero, List.set_cons_succ])
        refine' wpAnyH_take (i := 7) (oi := _) (v := Value.bool false) ?hi61 (by kernel_rfl) (by kernel_rfl) (by kernel_rfl) ?hq61 (Or.inl ⟨?hw61, ?hy61⟩) (by assumption) ?rest61
        case hi61 => (simp only [List.getElem?_toArray, List.getElem?_cons_succ, List.getElem?_cons_zero]; rfl)
        case hq61 => exact fun _ _ _ h => h
        case hw61 => rfl
        case hy61 => (intro wq hSw; (try dsimp only at hSw); (try go_simp); (first | done | (with_reducible rfl) | rfl | simp))
        (try simp only [Act.put, List.setIfInBounds_toArray, List.set_cons_zero, List.set_cons_succ])
        refine' wpAnyH_take (i := 8) (oi := _) (v := _) ?hi62 (by kernel_rfl) (by kernel_rfl) (by kernel_rfl) ?hq62 (Or.inl ⟨?hw62, ?hy62⟩) (by assumption) ?rest62
        case hi62 => (simp only [List.getElem?_toArray, List.getElem?_cons_succ, List.getElem?_cons_zero]; rfl)
        case hq62 => exact fun _ _ _ h => h
        case hw62 => rfl
        case hy62 => (intro wq hSw; (try dsimp only at hSw); go_simp; (try with_reducible rfl))
        (try simp only [Act.put, List.setIfInBounds_toArray, List.set_cons_zero, List.set_cons_succ])
        refine' wpAnyH_take (i := 9) (oi := _) (v := _) ?hi63 (by kernel_rfl) (by kernel_rfl) (by kernel_rfl) ?hq63 (Or.inl ⟨?hw63, ?hy63⟩) (by assumption) ?rest63
        case hi63 => (simp only [List.getElem?_toArray, List.getElem?_cons_succ, List.getElem?_cons_zero]; rfl)
        case hq63 => exact fun _ _ _ h => h
        case hw63 => rfl
        case hy63 => (intro wq hSw; (try dsimp only at hSw); go_simp; (try with_reducible rfl))
        (try simp only [Act.put, List.setIfInBounds_toArray, List.set_cons_zero, List.set_cons_succ])
        refine' wpAnyH_take (i := 11) (oi := _) (v := _) ?hi64 (by kernel_rfl) (by kernel_rfl) (by kernel_rfl) ?hq64 (Or.inl ⟨?hw64, ?hy64⟩) (by assumption) ?rest64
        case hi64 => (simp only [List.getElem?_toArray, List.getElem?_cons_succ, List.getElem?_cons_zero]; rfl)
        case hq64 => exact fun _ _ _ h => h
        case hw64 => rfl
        case hy64 => (intro wq hSw; (try dsimp only at hSw); go_simp; (try with_reducible rfl))
        (try simp only [Act.put, List.setIfInBounds_toArray, List.set_cons_zero, List.set_cons_succ])
        refine' wpAnyH_take (i := 12) (oi := _) (v := _) ?hi65 (by kernel_rfl) (by kernel_rfl) (by kernel_rfl) ?hq65 (Or.inl ⟨?hw65, ?hy65⟩) (by assumption) ?rest65
        case hi65 => (simp only [List.getElem?_toArray, List.getElem?_cons_succ, List.getElem?_cons_zero]; rfl)
        case hq65 => exact fun _ _ _ h => h
        case hw65 => rfl
        case hy65 => (intro wq hSw; (try dsimp only at hSw); go_simp; (try with_reducible rfl))
        (try simp only [Act.put, List.setIfInBounds_toArray, List.set_cons_zero, List.set_cons_succ])
        refine wpAnyH_ready (rs := [10]) (by kernel_rfl) (by simp) ?_
        refine' AllReadyH.cons (o := _) ?hi66 (fun K hK => ?rest66) AllReadyH.nil
        case hi66 => (simp only [List.getElem?_toArray, List.getElem?_cons_succ, List.getElem?_cons_zero]; rfl)
        go_simp
        go_at_call 53
        refine (smax_any A c xs _ Hpos.out (HC.out.arg HX.out) hl HBy.out).mono ?_
        rintro e u6 ⟨rfl, rfl⟩
        rw [HMx.out]
        go_wp2_with fail
        refine hK.out _ _ (by (try dsimp only); exact ⟨HC.out.b2_4.1, HC.out.b2_4.2.1, HC.out.b2_4.2.2.1, HC.out.b2_4.2.2.2, bx1 HC.out.x0⟩) (fun hHeld => ?_)
        clear hK K
        (try simp only [Act.put, List.setIfInBounds_toArray, List.set_cons_zero, List.set_cons_succ])
        refine' wpAnyH_take (i := 13) (oi := _) (v := Value.bool false) ?hi67 (by kernel_rfl) (by kernel_rfl) (by kernel_rfl) ?hq67 (Or.inl ⟨?hw67, ?hy67⟩) (by assumption) ?rest67
        case hi67 => (simp only [List.getElem?_toArray, List.getElem?_cons_succ, List.getElem?_cons_zero]; rfl)
        case hq67 => exact fun _ _ _ h => h
        case hw67 => rfl
        case hy67 => (intro wq hSw; (try dsimp only at hSw); (try go_simp); (first | done | (with_reducible rfl) | rfl | exact hge | rw [hge] | simp))
        (try simp only [Act.put, List.setIfInBounds_toArray, List.set_cons_zero, List.set_cons_succ])
        refine' wpAnyH_take (i := 14) (oi := _) (v := Value.bool false) ?hi68 (by kernel_rfl) (by kernel_rfl) (by kernel_rfl) ?hq68 (Or.inl ⟨?hw68, ?hy68⟩) (by assumption) ?rest68
        case hi68 => (simp only [List.getElem?_toArray, List.getElem?_cons_succ, List.getElem?_cons_zero]; rfl)
        case hq68 => exact fun _ _ _ h => h
        case hw68 => rfl
        case hy68 => (intro wq hSw; (try dsimp only at hSw); (try go_simp); (first | done | (with_reducible rfl) | rfl | simp))
        (try simp only [Act.put, List.setIfInBounds_toArray, List.set_cons_zero, List.set_cons_succ])
        refine wpAnyH_done (by kernel_rfl) ?_ _
        clear HMx hHeld hge hge' hmxb
        obtain ⟨rfl, rfl, hln⟩ := HEq.out
        have hP1 := HP1.out
        subst hP1
        obtain ⟨a', rfl⟩ := Int.eq_ofNat_of_zero_le (show 0 ≤ a by have := HA.out; omega)
        have ha4 : 1 ≤ a' ∧ a' ≤ 4 := by have := HA.out; omega
        clear HEq HP1
        have HLn := Lib.hid hln
        obtain ⟨m0, m1, m2, m3⟩ := HC.out.b2_4
        have HPL := Lib.hid (iPlane_any W' H' 1 0 hW hH (by omega) (by omega) A c xs (by rw [hln]; omega) u6 (HC.out.arg HX.out))
        clear hln
        go_wp2_with fail
        refine HPL.out.mono ?_
        rintro e u7 ⟨v7, rfl, hO7, hB7⟩
        clear HPL m0 m1 m2 m3
        have S7 := GS.add HC.out hO7 hB7
        obtain ⟨A7, c7, rfl, hc7⟩ := hO7.slice
        have hl7 : (img W' H' 1 (fun x y _ => px W' 1 xs x y 0)).length = W' * H' := by rw [img_len]; simp
        rw [hl7] at hc7 S7 ⊢
        obtain ⟨gb, hgb⟩ : ∃ gb, gb = u7.heap.size := ⟨_, rfl⟩
        have HGb := Lib.hid hgb
        have S8 := Lib.hid (GS.box' S7 74 #[.int .i64 (W' : Int), .int .i64 (H' : Int), .slice A7 (W' * H') c7] gb hgb)
        obtain ⟨n, hn⟩ : ∃ n, n = W' * H' := ⟨_, rfl⟩
        rw [← hn] at S8 hc7 ⊢
        have Hn := Lib.hid hn
        clear hO7 hB7 S7 HC hgb hl7 hn
        obtain ⟨m0, m1, m2, m3⟩ := S8.out.b3_4
        go_wp2_with fail
        rw [← HGb.out]
        generalize u7.alloc (.cells #[.int .i64 (W' : Int), .int .i64 (H' : Int), .slice A7 n c7] 74) = u8 at *
        have HBU := Lib.hid (build_any W' H' hW hH 57 #[.pointer (some ⟨cb, 0, none⟩), .pointer (some ⟨gb, 0, none⟩)] (ciF W' xs xss) u8 Eg.out (fun x y w' hx hy hbel => by
          obtain ⟨vn, h1, h2⟩ := HVn.out (y * W' + x) (by rw [HLn.out]; exact row_lt hx hy)
          have h3 : px W' 1 xs x y 0 = (vn : Int) := by rw [← h1]; unfold px pix; rw [Nat.mul_one, Nat.add_zero]
          have h4 : (px W' 1 xs x y 0).toNat = vn := by rw [h3]; rfl
          have h := iCo1_any W' H' n Hn.out.symm hW hH A7 c7 (fun x y => px W' 1 xs x y 0) hc7 A6 n2 c6 xss x y hx hy vn h3 h2 cb gb w' ((S8.out.call hbel).r0) ((S8.out.call hbel).rdsT (E := 66) (C := 4) (lo := lo6) (hi := hi6) (A := A6) (n := n2) (m := n2) (c := c6) (xs := clr xss n2) (by simp)) ((S8.out.call hbel).x1) ((S8.out.call hbel).x0)
          have e : colV (ciF W' xs xss x y) = colV (fun p => (xss.getD vn []).getD p 0) := by
            have h5 : ciF W' xs xss x y = fun p => (xss.getD vn []).getD p 0 := by funext p; unfold ciF; rw [h4]
            rw [h5]
          rw [e]; exact h))
        refine HBU.out.mono ?_
        rintro e u9 ⟨v9, rfl, hO9, hB9⟩
        have S9 := GS.addR S8.out hO9 hB9
        obtain ⟨A9, c9, rfl, hc9⟩ := hO9.slice
        have HS9 := Lib.hid (show GS w u9 (rt 66 4 u8.heap.size u9.heap.size (.slice A9 (W' * H') c9) (W' * H') (img W' H' 4 (ciF W' xs xss)) :: _) _ from S9)
        clear hO9 hB9 S8 S9 HBU m0 m1 m2 m3
        have HJg := Lib.hid (imageOf_any W' H' a' hW hH ha4.2 A9 c9 (ciF W' xs xss) u9 (HS9.out.t0) hc9)
        go_wp2_with fail
        refine HJg.out.mono ?_
        rintro e u10 ⟨v10, rfl, hO10, hB10⟩
        have S10 := GS.add HS9.out hO10 hB10
        obtain ⟨A10, c10, rfl, hc10⟩ := hO10.slice
        clear hO10 hB10 HS9 HJg
        obtain ⟨r0, r1, r2, r3⟩ := S10.b2_4
        have f0 := S10.f2 0
        have f1 := S10.f2 1
        have f2 := S10.f2 2
        have f3 := S10.f2 3
        have HE := Lib.hid (S10.e2_4 (.int .i64 (W' : Int)) (.int .i64 (H' : Int)) (.int .i64 (a' : Int)) (.slice A10 (img W' H' a' (ciF W' xs xss)).length c10))
        clear S10
        go_wp2
        exact bodyPost_ret (v := .tuple #[.agg #[.int .i64 (W' : Int), .int .i64 (H' : Int), .int .i64 (a' : Int), .slice A10 (img W' H' a' (ciF W' xs xss)).length c10], .bool true]) (by simp [results, Try.results17, go_sem, r0, r1, r2, r3]) rfl (ColR.yes Hv.out (HE.out.2 _ (List.Mem.head _)) HE.out.1)
end Go.Proofs.Ytkjebidkkopalaa
