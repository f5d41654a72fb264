/- Contract of ChangedRegion in the program. -/
import Derived.Test.YtlmpkanlfhjijaaChrM
import Derived.Laws.StructEq
import Derived.Deep.CutRange
namespace Go.Proofs.Ytlmpkanlfhjijaa
open Go.RowKit Go.Shelf
set_option linter.unusedSimpArgs false
set_option linter.unusedVariables false
set_option maxRecDepth 20000

/-- Two colors are compared. -/
theorem neq_col (F G : Nat → Int) (w : World) : (binOp .neq 70 (colV F) (colV G)).run Try.prog w = .ok (.bool (!decide (F 0 = G 0 ∧ F 1 = G 1 ∧ F 2 = G 2 ∧ F 3 = G 3))) w := by
  have hu := Try.underlying70
  have hu3 := Try.underlying3
  unfold colV
  rw [run_neq_struct]
  have e : (Op.equalIn 10000 70 (.agg #[.int .i64 (F 0), .int .i64 (F 1), .int .i64 (F 2), .int .i64 (F 3)]) (.agg #[.int .i64 (G 0), .int .i64 (G 1), .int .i64 (G 2), .int .i64 (G 3)])).run Try.prog w = .ok (decide (F 0 = G 0 ∧ F 1 = G 1 ∧ F 2 = G 2 ∧ F 3 = G 3)) w := by
    rw [Op.equalIn]
    simp [run_underlying hu, go_sem]
    have ha : ∀ w', (isAgg 3).run Try.prog w' = .ok false w' := fun w' => by simp [isAgg, run_underlying hu3, go_sem]
    have hi : ∀ (a b : Int) w', (Op.equalIn 9999 3 (.int .i64 a) (.int .i64 b)).run Try.prog w' = .ok (a == b) w' := fun a b w' => run_equalIn_int w' 9998 3 .i64 .i64 a b hu3
    simp [List.range', ha, hi, go_sem]
    by_cases h0 : F 0 = G 0
    · by_cases h1 : F 1 = G 1
      · by_cases h2 : F 2 = G 2
        · by_cases h3 : F 3 = G 3
          · simp [h0, h1, h2, h3, hi, ha, go_sem]
          · simp [h0, h1, h2, h3, hi, ha, go_sem]
        · simp [h0, h1, h2, hi, ha, go_sem]
      · simp [h0, h1, hi, ha, go_sem]
    · simp [h0, hi, ha, go_sem]
  rw [e]; rfl
theorem guard_col (F G : Nat → Int) (x y : Operand) (w : World) : (eqGuard .neq 70 x y (colV F) (colV G)).run Try.prog w = .ok () w := run_eqGuard_agg w .neq 70 x y _ _ (by kernel_rfl)
set_option maxHeartbeats 8000000 in
theorem chr1_any (W H P n : Nat) (hn : W * H = n) (hW : W ≤ 16) (hH : H ≤ 16) (hP : P ≤ 4) (xs ys : List Int) (A1 A2 : Option Addr) (c1 c2 : Nat) (hc1 : n ≤ c1) (hc2 : n ≤ c2) (x y : Nat) (hx : x < W) (hy : y < H) (p1 p2 : Nat) (w : World)
    (hr1 : Rds .i64 w w.heap.size A1 (img W H 4 (pxc W P xs))) (hr2 : Rds .i64 w w.heap.size A2 (img W H 4 (pxc W P ys)))
    (h1 : Bx w p1 66 #[.int .i64 (W : Int), .int .i64 (H : Int), .slice A1 n c1]) (h2 : Bx w p2 66 #[.int .i64 (W : Int), .int .i64 (H : Int), .slice A2 n c2]) :
    Calls Try.prog 57 (#[.int .i64 (x : Int), .int .i64 (y : Int)] ++ #[.pointer (some ⟨p1, 0, none⟩), .pointer (some ⟨p2, 0, none⟩)]) w fun e w' => e = .returned (.bool (chF W P xs ys x y)) ∧ Below w.heap.size w w' := by
  have Hr1 := Lib.hid hr1
  have Hr2 := Lib.hid hr2
  have Hn := Lib.hid hn
  have g0 : w.cell? ⟨p1, 0, none⟩ = some (.int .i64 (W : Int)) := (cell_of_row w p1 0 _ _ _ h1).trans rfl
  have g1 : w.cell? ⟨p1, 1, none⟩ = some (.int .i64 (H : Int)) := (cell_of_row w p1 1 _ _ _ h1).trans rfl
  have g2 : w.cell? ⟨p1, 2, none⟩ = some (.slice A1 n c1) := (cell_of_row w p1 2 _ _ _ h1).trans rfl
  have g3 : w.cell? ⟨p2, 0, none⟩ = some (.int .i64 (W : Int)) := (cell_of_row w p2 0 _ _ _ h2).trans rfl
  have g4 : w.cell? ⟨p2, 1, none⟩ = some (.int .i64 (H : Int)) := (cell_of_row w p2 1 _ _ _ h2).trans rfl
  have g5 : w.cell? ⟨p2, 2, none⟩ = some (.slice A2 n c2) := (cell_of_row w p2 2 _ _ _ h2).trans rfl
  have l1 := h1.lt
  have l2 := h2.lt
  have HBw : Hid (Below w.heap.size w w.drew) := Lib.hid ⟨rfl, rfl, rfl, Nat.le_refl _, fun _ _ => rfl⟩
  obtain ⟨F, hF⟩ : ∃ F, F = pxc W P xs x y := ⟨_, rfl⟩
  obtain ⟨G, hG⟩ : ∃ G, G = pxc W P ys x y := ⟨_, rfl⟩
  have HE : Hid (chF W P xs ys x y = !decide (F 0 = G 0 ∧ F 1 = G 1 ∧ F 2 = G 2 ∧ F 3 = G 3)) := Lib.hid (by
    unfold chF; rw [hF, hG]; congr 1; exact decide_eq_decide.2 (pxl_eq_iff hP).symm)
  have HF := Lib.hid hF
  have HG := Lib.hid hG
  have hneq := neq_col F G
  have hgd := guard_col F G
  rw [← HE.out] at hneq
  clear hr1 hr2 hn h1 h2 hF hG
  show Calls Try.prog 57 #[.int .i64 (x : Int), .int .i64 (y : Int), .pointer (some ⟨p1, 0, none⟩), .pointer (some ⟨p2, 0, none⟩)] w _
  go_enter Try.func57, Try.ntmps57
  go_wp2
  go_region_held3 (fun w' => w'.cell? ⟨p1, 0, none⟩ = some (.int .i64 (W : Int)) ∧ w'.cell? ⟨p1, 1, none⟩ = some (.int .i64 (H : Int)) ∧ w'.cell? ⟨p1, 2, none⟩ = some (.slice A1 n c1) ∧ w'.cell? ⟨p2, 0, none⟩ = some (.int .i64 (W : Int)) ∧ w'.cell? ⟨p2, 1, none⟩ = some (.int .i64 (H : Int)) ∧ w'.cell? ⟨p2, 2, none⟩ = some (.slice A2 n c2))
    (first | (with_reducible exact ⟨d0, d1, d2, d3, d4, d5⟩) | exact ⟨g0, g1, g2, g3, g4, g5⟩ | go_keep)
    (first
      | (go_at_call 48; (with_reducible refine Calls.mono (at_n W H n Hn.out hW hH A1 c1 (pxc W P xs) x y hx hy _ (by exact (Hr1.out.below HBw.out).more HBw.out.size) hc1) ?_); rintro e w3 ⟨rfl, hB3⟩; rw [← HF.out]; have HB3 := Lib.hid (HBw.out.trans (hB3.mono HBw.out.size)); have d0 := (HB3.out.cell (p := ⟨p1, 0, none⟩) (by exact l1)).trans g0; have d1 := (HB3.out.cell (p := ⟨p1, 1, none⟩) (by exact l1)).trans g1; have d2 := (HB3.out.cell (p := ⟨p1, 2, none⟩) (by exact l1)).trans g2; have d3 := (HB3.out.cell (p := ⟨p2, 0, none⟩) (by exact l2)).trans g3; have d4 := (HB3.out.cell (p := ⟨p2, 1, none⟩) (by exact l2)).trans g4; have d5 := (HB3.out.cell (p := ⟨p2, 2, none⟩) (by exact l2)).trans g5; clear hB3)
      | (go_at_call 48; (with_reducible refine Calls.mono (at_n W H n Hn.out hW hH A2 c2 (pxc W P ys) x y hx hy _ (by exact (Hr2.out.below HB3.out).more HB3.out.size) hc2) ?_); rintro e w4 ⟨rfl, hB4⟩; rw [← HG.out]; have HB4 := Lib.hid (HB3.out.trans (hB4.mono HB3.out.size)); clear d0 d1 d2 d3 d4 d5; have d0 := (HB4.out.cell (p := ⟨p1, 0, none⟩) (by exact l1)).trans g0; have d1 := (HB4.out.cell (p := ⟨p1, 1, none⟩) (by exact l1)).trans g1; have d2 := (HB4.out.cell (p := ⟨p1, 2, none⟩) (by exact l1)).trans g2; have d3 := (HB4.out.cell (p := ⟨p2, 0, none⟩) (by exact l2)).trans g3; have d4 := (HB4.out.cell (p := ⟨p2, 1, none⟩) (by exact l2)).trans g4; have d5 := (HB4.out.cell (p := ⟨p2, 2, none⟩) (by exact l2)).trans g5; clear hB4))
  all_goals
    clear d0 d1 d2 d3 d4 d5 g0 g1 g2 g3 g4 g5
    go_wp2
    go_ret
    exact ⟨rfl, HB4.out⟩
theorem OwnC.formC {w : World} {base : Nat} {v : Value} {n : Nat} {xs : List Int} (h : OwnC w base v n xs) (hx : 0 < n) : ∃ g cap, v = .slice (some ⟨g, 0, none⟩) n cap ∧ base ≤ g ∧ g < w.heap.size ∧ n ≤ cap := by
  rcases h.2 with ⟨rfl, h0⟩ | ⟨g, cap, cur, rfl, hb, hg, hnc, _⟩
  · omega
  · refine ⟨g, cap, rfl, hb, ?_, hnc⟩
    rcases Nat.lt_or_ge g w.heap.size with hlt | hge
    · exact hlt
    · rw [Array.getElem?_eq_none hge] at hg; cases hg
set_option maxHeartbeats 16000000 in
theorem i_ChangedRegion (W H P W' H' P' : Int) (A A' : Option Addr) (c c' : Nat) (xs ys : List Int) (w : World) (hx : Rds .i64 w w.heap.size A xs) (hl : xs.length ≤ 2000000) (hlc : xs.length ≤ c) (hy : Rds .i64 w w.heap.size A' ys) (hl' : ys.length ≤ 2000000) (hlc' : ys.length ≤ c') :
    Calls Try.prog 22 #[.agg #[.int .i64 W, .int .i64 H, .int .i64 P, .slice A xs.length c], .agg #[.int .i64 W', .int .i64 H', .int .i64 P', .slice A' ys.length c']] w (RunsIf (cmpB W H P xs W' H' P' ys) (chG W.toNat H.toNat P.toNat xs ys) w) := by
  have HX := Lib.hid hx
  have HY := Lib.hid hy
  clear hx hy
  have Eg : Hid (∀ args w, (callFunc 57 args).run Try.prog w = .ok (.enter 57 args) w) := Lib.hid (enters_of Try.func57 (by kernel_rfl) rfl)
  have S0 := ((GS.start w).box' 25 #[.int .i64 W, .int .i64 H, .int .i64 P, .slice A xs.length c] w.heap.size (by simp)).box' 25 #[.int .i64 W', .int .i64 H', .int .i64 P', .slice A' ys.length c'] (w.heap.size + 1) (by simp)
  go_enter Try.func22, Try.ntmps22
  go_wp2_with fail
  generalize (w.alloc (.cells #[.int .i64 W, .int .i64 H, .int .i64 P, .slice A xs.length c] 25)).alloc (.cells #[.int .i64 W', .int .i64 H', .int .i64 P', .slice A' ys.length c'] 25) = u0 at *
  refine (iCmp_any W H P W' H' P' A A' c c' xs ys u0 (S0.arg HX.out) hl (S0.arg HY.out) hl').mono ?_
  rintro e u1 ⟨rfl, hB⟩
  have HS := Lib.hid (S0.call hB)
  clear hB S0
  cases hv : cmpB W H P xs W' H' P' ys
  · have HB := Lib.hid HS.out.below
    clear HS
    go_wp2
    go_ret
    exact RunsIf.no hv HB.out
  have HR := Lib.hid hv
  obtain ⟨W, H, P, rfl, rfl, rfl, rfl, rfl, rfl, ⟨hW1, hW⟩, ⟨hH1, hH⟩, ⟨hP1, hP⟩, hxl, hyl, _, _⟩ := cmpB_nat hv
  have HXL := Lib.hid hxl
  have HYL := Lib.hid hyl
  have hpos : 0 < xs.length := by rw [hxl]; exact Nat.mul_pos (Nat.mul_pos hW1 hH1) hP1
  obtain ⟨m0, m1, m2, m3⟩ := HS.out.b1_4
  obtain ⟨p0, p1, p2, p3⟩ := HS.out.b0_4
  have hml := HS.out.l1
  have hpl := HS.out.l0
  clear hv hxl hyl
  go_upto_region 3 with fail
  go_cut [5, 6] from 11 to 14 (fun s8 s9 wx => ∃ (g cg lo1 hi1 b8 b9 lo2 hi2 : Nat) (A2 : Option Addr) (c2 : Nat), s8 = .pointer (some ⟨b8, 0, none⟩) ∧ s9 = .pointer (some ⟨b9, 0, none⟩) ∧ Hid (W * H ≤ cg ∧ W * H ≤ c2 ∧ GS w wx [rt 70 4 lo2 hi2 (.slice A2 (W * H) c2) (W * H) (img W H 4 (pxc W P ys)), rt 70 4 lo1 hi1 (.slice (some ⟨g, 0, none⟩) (W * H) cg) (W * H) (img W H 4 (pxc W P xs))] [⟨b9, 66, #[.int .i64 (W : Int), .int .i64 (H : Int), .slice A2 (W * H) c2]⟩, ⟨b8, 66, #[.int .i64 (W : Int), .int .i64 (H : Int), .slice (some ⟨g, 0, none⟩) (W * H) cg]⟩, ⟨w.heap.size + 1, 25, #[.int .i64 (W : Int), .int .i64 (H : Int), .int .i64 (P : Int), .slice A' ys.length c']⟩, ⟨w.heap.size, 25, #[.int .i64 (W : Int), .int .i64 (H : Int), .int .i64 (P : Int), .slice A xs.length c]⟩]))
  case first =>
    go_region_held3 (fun w' => (w'.cell? ⟨w.heap.size, 0, none⟩ = some (.int .i64 (W : Int)) ∧ w'.cell? ⟨w.heap.size, 1, none⟩ = some (.int .i64 (H : Int)) ∧ w'.cell? ⟨w.heap.size, 2, none⟩ = some (.int .i64 (P : Int)) ∧ w'.cell? ⟨w.heap.size, 3, none⟩ = some (.slice A xs.length c)) ∧ (w'.cell? ⟨w.heap.size + 1, 0, none⟩ = some (.int .i64 (W : Int)) ∧ w'.cell? ⟨w.heap.size + 1, 1, none⟩ = some (.int .i64 (H : Int)) ∧ w'.cell? ⟨w.heap.size + 1, 2, none⟩ = some (.int .i64 (P : Int)) ∧ w'.cell? ⟨w.heap.size + 1, 3, none⟩ = some (.slice A' ys.length c')))
      (first | (with_reducible exact ⟨⟨k0, k1, k2, k3⟩, k4, k5, k6, k7⟩) | (with_reducible exact ⟨⟨d0, d1, d2, d3⟩, d4, d5, d6, d7⟩) | (with_reducible exact ⟨⟨m0, m1, m2, m3⟩, p0, p1, p2, p3⟩) | (refine ⟨⟨?_, ?_, ?_, ?_⟩, ?_, ?_, ?_, ?_⟩ <;> ((repeat (first | with_reducible refine (sc3C (by omega) _ _ _).trans ?_ | with_reducible refine (al1C (by first | omega | (simp; omega)) _).trans ?_)); (with_reducible first | exact k0 | exact k1 | exact k2 | exact k3 | exact k4 | exact k5 | exact k6 | exact k7))) | go_keep)
      (first
        | (go_at_call 39; refine (gridOf_any W H P hW hH hP1 hP hW1 hH1 A c xs HXL.out hlc _ (by first | exact HS.out.drew.arg HX.out | exact (HS.out.drew.box' _ _ u1.heap.size rfl).arg HX.out | exact ((HS.out.drew.box' _ _ u1.heap.size rfl).box' _ _ (u1.heap.size + 1) (by simp)).arg HX.out)).mono ?_; rintro e u3 ⟨v3, rfl, hO3, hB3⟩; obtain ⟨g, c9, rfl, hg1, hg2, hc9⟩ := OwnC.formC hO3 (Nat.mul_pos hW1 hH1); obtain ⟨hBB, hXs⟩ := below2C (u := u1) (by first | exact (Below.refl _ _).drew | exact (Below.refl _ _).drew.alloc (Nat.le_refl _) _ | exact ((Below.refl _ _).drew.alloc (Nat.le_refl _) _).alloc ((Below.refl _ _).drew.alloc (Nat.le_refl _) _).size _) hB3; obtain ⟨d0, d1, d2, d3⟩ := keep4 hBB hml m0 m1 m2 m3; obtain ⟨d4, d5, d6, d7⟩ := keep4 hBB hpl p0 p1 p2 p3; have hml3 := Nat.lt_of_lt_of_le hml hBB.size; have hpl3 := Nat.lt_of_lt_of_le hpl hBB.size; clear hBB; (first | have HS3 := Lib.hid (HS.out.drew.addT hO3 hB3) | have HS3 := Lib.hid ((HS.out.drew.box' _ _ u1.heap.size rfl).addT hO3 hB3) | have HS3 := Lib.hid (((HS.out.drew.box' _ _ u1.heap.size rfl).box' _ _ (u1.heap.size + 1) (by simp)).addT hO3 hB3)); have Hc9 := Lib.hid hc9; have hu13 : u1.heap.size < u3.heap.size := (by have hg1' := Nat.le_trans hXs hg1; omega); have hx1 : ¬ u1.heap.size = u3.heap.size := (by omega); have hx2 : ¬ u3.heap.size = u1.heap.size := (by omega); clear hO3 hB3 hc9 hg1 hg2)
        | (go_at_call 39; refine (gridOf_any W H P hW hH hP1 hP hW1 hH1 A' c' ys HYL.out hlc' _ (by first | exact HS3.out.arg HY.out | exact (HS3.out.box' _ _ u3.heap.size rfl).arg HY.out | exact ((HS3.out.box' _ _ u3.heap.size rfl).box' _ _ (u3.heap.size + 1) (by simp)).arg HY.out)).mono ?_; rintro e u4 ⟨v4, rfl, hO4, hB4⟩; obtain ⟨A10, c10, rfl, hc10⟩ := OwnC.slice hO4; obtain ⟨hBB, hXs4⟩ := below2C (u := u3) (by first | exact Below.refl _ _ | exact (Below.refl _ _).alloc (Nat.le_refl _) _ | exact ((Below.refl _ _).alloc (Nat.le_refl _) _).alloc ((Below.refl _ _).alloc (Nat.le_refl _) _).size _) hB4; obtain ⟨k0, k1, k2, k3⟩ := keep4 hBB hml3 d0 d1 d2 d3; obtain ⟨k4, k5, k6, k7⟩ := keep4 hBB hpl3 d4 d5 d6 d7; have hml4 := Nat.lt_of_lt_of_le hml3 hBB.size; have hpl4 := Nat.lt_of_lt_of_le hpl3 hBB.size; clear hBB; (first | have HS4 := Lib.hid (HS3.out.addT hO4 hB4) | have HS4 := Lib.hid ((HS3.out.box' _ _ u3.heap.size rfl).addT hO4 hB4) | have HS4 := Lib.hid (((HS3.out.box' _ _ u3.heap.size rfl).box' _ _ (u3.heap.size + 1) (by simp)).addT hO4 hB4)); have Hc10 := Lib.hid hc10; clear hO4 hB4 hc10; (try (obtain ⟨y0, y1, y2⟩ := HS4.out.b0_3; have y3 := HS4.out.f0 0; have y4 := HS4.out.f0 1; have y5 := HS4.out.f0 2; have y6 := HS4.out.l0)); (try (obtain ⟨z0, z1, z2⟩ := HS4.out.b1_3; have z3 := HS4.out.f1 0; have z4 := HS4.out.f1 1; have z5 := HS4.out.f1 2; have z6 := HS4.out.l1))))
    all_goals
      (go_wp2_with fail; go_meet; exact ⟨g, c9, _, _, _, _, _, _, _, _, rfl, rfl, Lib.hid ⟨Hc9.out, Hc10.out, (by first | with_reducible exact (HS4.out.box' _ _ u4.heap.size rfl).box' _ _ (u4.heap.size + 1) (by simp) | with_reducible exact ((HS4.out.box' _ _ u4.heap.size rfl).box' _ _ (u4.heap.size + 1) (by simp)).swapC | with_reducible exact (HS4.out.fill3C _ _ _).box' _ _ u4.heap.size (by simp [World.setCell]) | with_reducible exact ((HS4.out.fill3C _ _ _).box' _ _ u4.heap.size (by simp [World.setCell])).swapC | with_reducible exact (HS4.out.swapC.fill3C _ _ _).swapC.fill3C _ _ _ | with_reducible exact (HS4.out.fill3C _ _ _).swapC.fill3C _ _ _)⟩⟩)
  case rest =>
  obtain ⟨g, cg, lo1, hi1, b8, b9, lo2, hi2, A2, c2, rfl, rfl, HG⟩ := hcut
  obtain ⟨m, hm⟩ : ∃ m, W * H = m := ⟨_, rfl⟩
  rw [hm] at HG
  obtain ⟨hcg, hc2, hG0⟩ := HG.out
  have Hm := Lib.hid hm
  have HS2 := Lib.hid hG0
  clear HG hG0 hm HS m0 m1 m2 m3 p0 p1 p2 p3 hml hpl
  generalize wc = u2 at *
  obtain ⟨m0, m1, m2, m3⟩ := HS2.out.b3_4
  go_wp2_with fail
  refine (i_regionWhere W H hW hH 57 #[.pointer (some ⟨b8, 0, none⟩), .pointer (some ⟨b9, 0, none⟩)] (chG W H P xs ys) u2 Eg.out (fun a b w' ha hb hbel => ?_) (fun a b ha => by unfold chG; rw [decide_eq_false (by omega)]; rfl) (fun a b hb => by unfold chG; rw [decide_eq_false (show ¬ b < H by omega)]; simp)).mono ?_
  · have e : chG W H P xs ys a b = chF W P xs ys a b := by unfold chG; rw [decide_eq_true ha, decide_eq_true hb]; rfl
    rw [e]
    have hK := HS2.out.call hbel
    exact chr1_any W H P m Hm.out hW hH hP xs ys _ A2 cg c2 hcg hc2 a b ha hb b8 b9 w' hK.t1 hK.t0 hK.x1 hK.x0
  rintro e w3 hR
  have HE := Lib.hid (RunsIf.yes (w := w) (G := chG W H P xs ys) HR.out (fun _ _ _ _ => rfl) HS2.out.below hR)
  obtain ⟨v3, rfl, _, _⟩ := hR
  clear HS2 m0 m1 m2 m3
  go_wp2
  go_ret
  exact HE.out
end Go.Proofs.Ytlmpkanlfhjijaa
