/- Contract of PatchImage in the program. -/
import Derived.Test.YtebfaomlljekiaaPatM
import Derived.Test.YtebfaomlljekiaaPasteK
import Derived.Test.YtebfaomlljekiaaPartI
import Derived.Deep.CutRange
import Derived.Deep.Cut
import Derived.Deep.RegionHeld3
import Derived.StillTailTactics
namespace Go.Proofs.Ytebfaomlljekiaa
open Go.RowKit Go.Shelf
set_option linter.unusedSimpArgs false
set_option linter.unusedVariables false
set_option maxRecDepth 20000

theorem GS.swap {W0 w : World} {L : List Rg} {a b : Bxg} {Bs : List Bxg} (h : GS W0 w L (a :: b :: Bs)) : GS W0 w L (b :: a :: Bs) := by
  have hp := List.pairwise_cons.1 h.2.2.2.2
  have hq := List.pairwise_cons.1 hp.2
  refine ⟨h.1, h.2.1, h.2.2.1, fun c hc => h.2.2.2.1 c ?_, .cons (fun c hc => ?_) (.cons (fun c hc => hp.1 c (List.mem_cons_of_mem _ hc)) hq.2)⟩
  · rcases List.mem_cons.1 hc with rfl | hc
    · exact List.mem_cons_of_mem _ List.mem_cons_self
    · rcases List.mem_cons.1 hc with rfl | hc
      · exact List.mem_cons_self
      · exact List.mem_cons_of_mem _ (List.mem_cons_of_mem _ hc)
  · rcases List.mem_cons.1 hc with rfl | hc
    · exact (hp.1 b List.mem_cons_self).symm
    · exact hq.1 c hc
theorem GS.fill3 {W0 w : World} {L : List Rg} {Bs : List Bxg} {g : Nat} {T : TypeId} {a0 a1 a2 : Value} (h : GS W0 w L (⟨g, T, #[a0, a1, a2]⟩ :: Bs)) (c0 c1 c2 : Value) :
    GS W0 (((w.setCell ⟨g, 0, none⟩ c0).setCell ⟨g, 1, none⟩ c1).setCell ⟨g, 2, none⟩ c2) L (⟨g, T, #[c0, c1, c2]⟩ :: Bs) := by
  have hb := h.bx (List.Mem.head _)
  have h1 := heap_setCell_same w g 0 _ T c0 hb
  have h2 := heap_setCell_same _ g 1 _ T c1 h1
  have h3 := heap_setCell_same _ g 2 _ T c2 h2
  exact h.fill (by simpa [Bx] using h3) (grown_set3 w g c0 c1 c2)
theorem sc3 {u : World} {a b o : Nat} (h : a ≠ b) (v0 v1 v2 : Value) : (((u.setCell ⟨b, 0, none⟩ v0).setCell ⟨b, 1, none⟩ v1).setCell ⟨b, 2, none⟩ v2).cell? ⟨a, o, none⟩ = u.cell? ⟨a, o, none⟩ := by
  have e : ∀ (w : World) (i : Nat) (u : Value), (w.setCell ⟨b, i, none⟩ u).cell? ⟨a, o, none⟩ = w.cell? ⟨a, o, none⟩ := fun w i u => World.cell?_setCell_other w ⟨b, i, none⟩ ⟨a, o, none⟩ u (fun e => h (by injection e with e1; exact e1.symm))
  rw [e, e, e]
theorem al1 {u : World} {a o : Nat} (h : a < u.heap.size) (ob : Obj) : (u.alloc ob).cell? ⟨a, o, none⟩ = u.cell? ⟨a, o, none⟩ :=
  World.cell?_of_block ((World.grownBy_alloc u ob none).block a h (by simp))
theorem below2 {u X u3 : World} (h : Below u.heap.size u X) (hB : Below X.heap.size X u3) : Below u.heap.size u u3 ∧ u.heap.size ≤ X.heap.size := ⟨h.trans (hB.mono h.size), h.size⟩
set_option maxHeartbeats 16000000 in
theorem i_PatchImage (W H P W' H' P' : Int) (A A' A3 : Option Addr) (c c' n c3 : Nat) (xs ys bs : List Int) (w : World) (hx : Rds .i64 w w.heap.size A xs) (hl : xs.length ≤ 2000000) (hlc : xs.length ≤ c) (hy : Rds .i64 w w.heap.size A' ys) (hl' : ys.length ≤ 2000000) (hlc' : ys.length ≤ c') (hr : Rds .i64 w w.heap.size A3 bs) (hrl : bs.length = 4 * n) (hn : n ≤ 2000000) :
    Calls Try.prog 55 #[.agg #[.int .i64 W, .int .i64 H, .int .i64 P, .slice A xs.length c], .agg #[.int .i64 W', .int .i64 H', .int .i64 P', .slice A' ys.length c'], .slice A3 n c3] w (MadeIc (patOk W H P xs W' H' P' ys bs n) W H P (patL W.toNat H.toNat P.toNat xs ys bs n) w) := by
  have HX := Lib.hid hx
  have HY := Lib.hid hy
  have HR := Lib.hid hr
  have HRL := Lib.hid hrl
  have HV : Hid (patOk W H P xs W' H' P' ys bs n = (cmpB W H P xs W' H' P' ys && (decide ((n : Int) ≤ 128) && fitsN W H bs n))) := Lib.hid rfl
  clear hx hy hr hrl
  have S0 := (((GS.start w).box' 25 #[.int .i64 W, .int .i64 H, .int .i64 P, .slice A xs.length c] w.heap.size (by simp)).box' 25 #[.int .i64 W', .int .i64 H', .int .i64 P', .slice A' ys.length c'] (w.heap.size + 1) (by simp)).box' 25 #[.int .i64 0, .int .i64 0, .int .i64 0, .slice none 0 0] (w.heap.size + 1 + 1) (by simp)
  go_enter Try.func55, Try.ntmps55
  go_wp2_with fail
  generalize ((w.alloc (.cells #[.int .i64 W, .int .i64 H, .int .i64 P, .slice A xs.length c] 25)).alloc (.cells #[.int .i64 W', .int .i64 H', .int .i64 P', .slice A' ys.length c'] 25)).alloc (.cells #[.int .i64 0, .int .i64 0, .int .i64 0, .slice none 0 0] 25) = u0 at *
  refine (iCmp_any W H P W' H' P' A A' c c' xs ys u0 (S0.arg HX.out) hl (S0.arg HY.out) hl').mono ?_
  rintro e u1 ⟨rfl, hB⟩
  have HS := Lib.hid (S0.call hB)
  clear hB S0
  cases hv : cmpB W H P xs W' H' P' ys
  · have HF : Hid (patOk W H P xs W' H' P' ys bs n = false) := Lib.hid (by rw [HV.out, hv]; rfl)
    obtain ⟨r0, r1, r2, r3⟩ := HS.out.b0_4
    have f0 := HS.out.f0 0
    have f1 := HS.out.f0 1
    have f2 := HS.out.f0 2
    have f3 := HS.out.f0 3
    have HE := Lib.hid (HS.out.e0_4 (.int .i64 0) (.int .i64 0) (.int .i64 0) (.slice none 0 0)).1
    clear HV hv HS
    go_wp2
    exact bodyPost_ret (v := .tuple #[.agg #[.int .i64 0, .int .i64 0, .int .i64 0, .slice none 0 0], .bool false]) (by simp [results, Try.results55, go_sem, r0, r1, r2, r3]) rfl ⟨_, by rw [HF.out]; rfl, by rw [HF.out]; exact World.ownsRow_nil _ _ _ _, HE.out⟩
  by_cases hnN : ¬ (n : Int) ≤ 128
  · have hn2 : (128 : Int) < (n : Int) := by omega
    have HF : Hid (patOk W H P xs W' H' P' ys bs n = false) := Lib.hid (by rw [HV.out, decide_eq_false hnN]; simp)
    obtain ⟨r0, r1, r2, r3⟩ := HS.out.b0_4
    have f0 := HS.out.f0 0
    have f1 := HS.out.f0 1
    have f2 := HS.out.f0 2
    have f3 := HS.out.f0 3
    have HE := Lib.hid (HS.out.e0_4 (.int .i64 0) (.int .i64 0) (.int .i64 0) (.slice none 0 0)).1
    clear HV hv HS
    go_wp2
    exact bodyPost_ret (v := .tuple #[.agg #[.int .i64 0, .int .i64 0, .int .i64 0, .slice none 0 0], .bool false]) (by simp [results, Try.results55, go_sem, r0, r1, r2, r3]) rfl ⟨_, by rw [HF.out]; rfl, by rw [HF.out]; exact World.ownsRow_nil _ _ _ _, HE.out⟩
  have hnP : (n : Int) ≤ 128 := Classical.not_not.1 hnN
  have HV2 : Hid (patOk W H P xs W' H' P' ys bs n = fitsN W H bs n) := Lib.hid (by rw [HV.out, hv, decide_eq_true hnP]; rfl)
  clear hnN HV
  have hn2 : ¬ (128 : Int) < (n : Int) := by omega
  obtain ⟨W, H, P, rfl, rfl, rfl, rfl, rfl, rfl, ⟨hW1, hW⟩, ⟨hH1, hH⟩, ⟨hP1, hP⟩, hxl, hyl, _, _⟩ := cmpB_nat hv
  have HXL := Lib.hid hxl
  have HYL := Lib.hid hyl
  have hpos : 0 < xs.length := by rw [hxl]; exact Nat.mul_pos (Nat.mul_pos hW1 hH1) hP1
  obtain ⟨m0, m1, m2, m3⟩ := HS.out.b2_4
  obtain ⟨p0, p1, p2, p3⟩ := HS.out.b1_4
  have hml := HS.out.l2
  have hpl := HS.out.l1
  clear hv hxl hyl
  go_upto_region 3 with fail
  go_cut [8, 9] from 22 to 25 (fun s8 s9 wx => ∃ (g cg lo1 hi1 b8 b9 lo2 hi2 : Nat) (A2 : Option Addr) (c2 : Nat), s8 = .pointer (some ⟨b8, 0, none⟩) ∧ s9 = .pointer (some ⟨b9, 0, none⟩) ∧ Hid (W * H ≤ cg ∧ W * H ≤ c2 ∧ GS w wx [rt 124 4 lo2 hi2 (.slice A2 (W * H) c2) (W * H) (img W H 4 (pxc W P ys)), rt 124 4 lo1 hi1 (.slice (some ⟨g, 0, none⟩) (W * H) cg) (W * H) (img W H 4 (pxc W P xs))] [⟨b9, 138, #[.int .i64 (W : Int), .int .i64 (H : Int), .slice A2 (W * H) c2]⟩, ⟨b8, 138, #[.int .i64 (W : Int), .int .i64 (H : Int), .slice (some ⟨g, 0, none⟩) (W * H) cg]⟩, ⟨w.heap.size + 1 + 1, 25, #[.int .i64 0, .int .i64 0, .int .i64 0, .slice none 0 0]⟩, ⟨w.heap.size + 1, 25, #[.int .i64 (W : Int), .int .i64 (H : Int), .int .i64 (P : Int), .slice A' ys.length c']⟩, ⟨w.heap.size, 25, #[.int .i64 (W : Int), .int .i64 (H : Int), .int .i64 (P : Int), .slice A xs.length c]⟩]))
  case first =>
    go_region_held3 (fun w' => (w'.cell? ⟨w.heap.size, 0, none⟩ = some (.int .i64 (W : Int)) ∧ w'.cell? ⟨w.heap.size, 1, none⟩ = some (.int .i64 (H : Int)) ∧ w'.cell? ⟨w.heap.size, 2, none⟩ = some (.int .i64 (P : Int)) ∧ w'.cell? ⟨w.heap.size, 3, none⟩ = some (.slice A xs.length c)) ∧ (w'.cell? ⟨w.heap.size + 1, 0, none⟩ = some (.int .i64 (W : Int)) ∧ w'.cell? ⟨w.heap.size + 1, 1, none⟩ = some (.int .i64 (H : Int)) ∧ w'.cell? ⟨w.heap.size + 1, 2, none⟩ = some (.int .i64 (P : Int)) ∧ w'.cell? ⟨w.heap.size + 1, 3, none⟩ = some (.slice A' ys.length c')))
      (first | (with_reducible exact ⟨⟨k0, k1, k2, k3⟩, k4, k5, k6, k7⟩) | (with_reducible exact ⟨⟨d0, d1, d2, d3⟩, d4, d5, d6, d7⟩) | (with_reducible exact ⟨⟨m0, m1, m2, m3⟩, p0, p1, p2, p3⟩) | (refine ⟨⟨?_, ?_, ?_, ?_⟩, ?_, ?_, ?_, ?_⟩ <;> ((repeat (first | with_reducible refine (sc3 (by omega) _ _ _).trans ?_ | with_reducible refine (al1 (by first | omega | (simp; omega)) _).trans ?_)); (with_reducible first | exact k0 | exact k1 | exact k2 | exact k3 | exact k4 | exact k5 | exact k6 | exact k7))) | go_keep)
      (first
        | (go_at_call 117; refine (gridOf_any W H P hW hH hP1 hP hW1 hH1 A c xs HXL.out hlc _ (by first | exact HS.out.drew.arg HX.out | exact (HS.out.drew.box' _ _ u1.heap.size rfl).arg HX.out | exact ((HS.out.drew.box' _ _ u1.heap.size rfl).box' _ _ (u1.heap.size + 1) (by simp)).arg HX.out)).mono ?_; rintro e u3 ⟨v3, rfl, hO3, hB3⟩; obtain ⟨g, c9, rfl, hg1, hg2, hc9⟩ := OwnC.form hO3 (Nat.mul_pos hW1 hH1); obtain ⟨hBB, hXs⟩ := below2 (u := u1) (by first | exact (Below.refl _ _).drew | exact (Below.refl _ _).drew.alloc (Nat.le_refl _) _ | exact ((Below.refl _ _).drew.alloc (Nat.le_refl _) _).alloc ((Below.refl _ _).drew.alloc (Nat.le_refl _) _).size _) hB3; obtain ⟨d0, d1, d2, d3⟩ := keep4 hBB hml m0 m1 m2 m3; obtain ⟨d4, d5, d6, d7⟩ := keep4 hBB hpl p0 p1 p2 p3; have hml3 := Nat.lt_of_lt_of_le hml hBB.size; have hpl3 := Nat.lt_of_lt_of_le hpl hBB.size; clear hBB; (first | have HS3 := Lib.hid (HS.out.drew.addT hO3 hB3) | have HS3 := Lib.hid ((HS.out.drew.box' _ _ u1.heap.size rfl).addT hO3 hB3) | have HS3 := Lib.hid (((HS.out.drew.box' _ _ u1.heap.size rfl).box' _ _ (u1.heap.size + 1) (by simp)).addT hO3 hB3)); have Hc9 := Lib.hid hc9; have hu13 : u1.heap.size < u3.heap.size := (by have hg1' := Nat.le_trans hXs hg1; omega); have hx1 : ¬ u1.heap.size = u3.heap.size := (by omega); have hx2 : ¬ u3.heap.size = u1.heap.size := (by omega); clear hO3 hB3 hc9 hg1 hg2)
        | (go_at_call 117; refine (gridOf_any W H P hW hH hP1 hP hW1 hH1 A' c' ys HYL.out hlc' _ (by first | exact HS3.out.arg HY.out | exact (HS3.out.box' _ _ u3.heap.size rfl).arg HY.out | exact ((HS3.out.box' _ _ u3.heap.size rfl).box' _ _ (u3.heap.size + 1) (by simp)).arg HY.out)).mono ?_; rintro e u4 ⟨v4, rfl, hO4, hB4⟩; obtain ⟨A10, c10, rfl, hc10⟩ := OwnC.slice hO4; obtain ⟨hBB, hXs4⟩ := below2 (u := u3) (by first | exact Below.refl _ _ | exact (Below.refl _ _).alloc (Nat.le_refl _) _ | exact ((Below.refl _ _).alloc (Nat.le_refl _) _).alloc ((Below.refl _ _).alloc (Nat.le_refl _) _).size _) hB4; obtain ⟨k0, k1, k2, k3⟩ := keep4 hBB hml3 d0 d1 d2 d3; obtain ⟨k4, k5, k6, k7⟩ := keep4 hBB hpl3 d4 d5 d6 d7; have hml4 := Nat.lt_of_lt_of_le hml3 hBB.size; have hpl4 := Nat.lt_of_lt_of_le hpl3 hBB.size; clear hBB; (first | have HS4 := Lib.hid (HS3.out.addT hO4 hB4) | have HS4 := Lib.hid ((HS3.out.box' _ _ u3.heap.size rfl).addT hO4 hB4) | have HS4 := Lib.hid (((HS3.out.box' _ _ u3.heap.size rfl).box' _ _ (u3.heap.size + 1) (by simp)).addT hO4 hB4)); have Hc10 := Lib.hid hc10; clear hO4 hB4 hc10; (try (obtain ⟨y0, y1, y2⟩ := HS4.out.b0_3; have y3 := HS4.out.f0 0; have y4 := HS4.out.f0 1; have y5 := HS4.out.f0 2; have y6 := HS4.out.l0)); (try (obtain ⟨z0, z1, z2⟩ := HS4.out.b1_3; have z3 := HS4.out.f1 0; have z4 := HS4.out.f1 1; have z5 := HS4.out.f1 2; have z6 := HS4.out.l1))))
    all_goals
      (go_wp2_with fail; go_meet; exact ⟨g, c9, _, _, _, _, _, _, _, _, rfl, rfl, Lib.hid ⟨Hc9.out, Hc10.out, (by first | with_reducible exact (HS4.out.box' _ _ u4.heap.size rfl).box' _ _ (u4.heap.size + 1) (by simp) | with_reducible exact ((HS4.out.box' _ _ u4.heap.size rfl).box' _ _ (u4.heap.size + 1) (by simp)).swap | with_reducible exact (HS4.out.fill3 _ _ _).box' _ _ u4.heap.size (by simp [World.setCell]) | with_reducible exact ((HS4.out.fill3 _ _ _).box' _ _ u4.heap.size (by simp [World.setCell])).swap | with_reducible exact (HS4.out.swap.fill3 _ _ _).swap.fill3 _ _ _ | with_reducible exact (HS4.out.fill3 _ _ _).swap.fill3 _ _ _)⟩⟩)
  case rest =>
  obtain ⟨g, cg, lo1, hi1, b8, b9, lo2, hi2, A2, c2, rfl, rfl, HG⟩ := hcut
  obtain ⟨m, hm⟩ : ∃ m, W * H = m := ⟨_, rfl⟩
  rw [hm] at HG
  obtain ⟨hcg, hc2, hG0⟩ := HG.out
  have Hm := Lib.hid hm
  have HI : Hid (fitsN W H bs 0 = true ∧ GS w wc [rt 124 4 lo2 hi2 (.slice A2 m c2) m (img W H 4 (pxc W P ys)), rt 124 4 lo1 hi1 (.slice (some ⟨g, 0, none⟩) m cg) m (img W H 4 (patM W P ys (pxc W P xs) bs 0))] [⟨b9, 138, #[.int .i64 (W : Int), .int .i64 (H : Int), .slice A2 m c2]⟩, ⟨b8, 138, #[.int .i64 (W : Int), .int .i64 (H : Int), .slice (some ⟨g, 0, none⟩) m cg]⟩, ⟨w.heap.size + 1 + 1, 25, #[.int .i64 0, .int .i64 0, .int .i64 0, .slice none 0 0]⟩, ⟨w.heap.size + 1, 25, #[.int .i64 (W : Int), .int .i64 (H : Int), .int .i64 (P : Int), .slice A' ys.length c']⟩, ⟨w.heap.size, 25, #[.int .i64 (W : Int), .int .i64 (H : Int), .int .i64 (P : Int), .slice A xs.length c]⟩]) := Lib.hid ⟨rfl, hG0⟩
  clear HG hG0 hm HS m0 m1 m2 m3 p0 p1 p2 p3 hml hpl
  generalize wc = u2 at *
  go_wp2
  go_loopw [28] (fun i wr => ∃ k : Nat, k ≤ n ∧ i = .int .i64 k ∧ Hid (fitsN W H bs k = true ∧ GS w wr [rt 124 4 lo2 hi2 (.slice A2 m c2) m (img W H 4 (pxc W P ys)), rt 124 4 lo1 hi1 (.slice (some ⟨g, 0, none⟩) m cg) m (img W H 4 (patM W P ys (pxc W P xs) bs k))] [⟨b9, 138, #[.int .i64 (W : Int), .int .i64 (H : Int), .slice A2 m c2]⟩, ⟨b8, 138, #[.int .i64 (W : Int), .int .i64 (H : Int), .slice (some ⟨g, 0, none⟩) m cg]⟩, ⟨w.heap.size + 1 + 1, 25, #[.int .i64 0, .int .i64 0, .int .i64 0, .slice none 0 0]⟩, ⟨w.heap.size + 1, 25, #[.int .i64 (W : Int), .int .i64 (H : Int), .int .i64 (P : Int), .slice A' ys.length c']⟩, ⟨w.heap.size, 25, #[.int .i64 (W : Int), .int .i64 (H : Int), .int .i64 (P : Int), .slice A xs.length c]⟩])) (fun i _ => n - (intOf i).toNat)
  case atStart => exact ⟨0, Nat.zero_le _, rfl, HI⟩
  case round =>
    clear HI
    obtain ⟨k, hk, rfl, hI⟩ := hrel
    rename World => wv
    obtain ⟨hFit, hS⟩ := hI.out
    by_cases hlt : k < n
    · obtain ⟨t0, t1, t2, t3⟩ := quad4 hlt HRL.out
      obtain ⟨b, off, rfl, hb, hc⟩ := HR.out.cells_ t0
      have HFx : Hid (fitsN W H bs (k + 1) = fitB (q0 bs k) (q1 bs k) (q2 bs k) (q3 bs k) W H) := Lib.hid (by show (fitsN W H bs k && _) = _; rw [hFit, Bool.true_and])
      have hc0 : wv.cell? ⟨b, off + k * 4, none⟩ = some (.int .i64 (q0 bs k)) := cellB hS.below hb (hc _ t0)
      have hc1 : wv.cell? ⟨b, off + k * 4 + 1, none⟩ = some (.int .i64 (q1 bs k)) := cellB hS.below hb (hc _ t1)
      have hc2' : wv.cell? ⟨b, off + k * 4 + 2, none⟩ = some (.int .i64 (q2 bs k)) := cellB hS.below hb (hc _ t2)
      have hc3' : wv.cell? ⟨b, off + k * 4 + 3, none⟩ = some (.int .i64 (q3 bs k)) := cellB hS.below hb (hc _ t3)
      obtain ⟨a0, a1, a2, a3⟩ := hS.b4_4
      have hal := hS.l4
      have hbl : b < wv.heap.size := by have := hS.below.size; omega
      obtain ⟨pb, hpb⟩ : ∃ pb, pb = wv.heap.size := ⟨_, rfl⟩
      have HS6 := Lib.hid (hS.box' 131 #[.int .i64 (q0 bs k), .int .i64 (q1 bs k), .int .i64 (q2 bs k), .int .i64 (q3 bs k)] pb hpb)
      have Hpb := Lib.hid hpb
      clear hFit hS hI hc hpb
      go_wp2_with fail
      rw [← Hpb.out]
      clear Hpb hc0 hc1 hc2' hc3' a0 a1 a2 a3 hal hbl
      generalize wv.alloc (.cells #[.int .i64 (q0 bs k), .int .i64 (q1 bs k), .int .i64 (q2 bs k), .int .i64 (q3 bs k)] 131) = w7 at *
      refine (hasBox_any (q0 bs k) (q1 bs k) (q2 bs k) (q3 bs k) W H P _ ⟨by omega, by omega⟩ ⟨by omega, by omega⟩ w7).mono ?_
      rintro e w8 ⟨rfl, hB8⟩
      have HS8 := Lib.hid (HS6.out.call hB8)
      clear hB8 HS6
      cases hf : fitB (q0 bs k) (q1 bs k) (q2 bs k) (q3 bs k) W H
      · have HF : Hid (patOk W H P xs W H P ys bs n = false) := Lib.hid (by rw [HV2.out]; exact fitsN_no hf hlt)
        have hSr := HS8.out.drop.drop.drop
        obtain ⟨r0, r1, r2, r3⟩ := hSr.b0_4
        have f0 := hSr.f0 0
        have f1 := hSr.f0 1
        have f2 := hSr.f0 2
        have f3 := hSr.f0 3
        have HE := Lib.hid (hSr.e0_4 (.int .i64 0) (.int .i64 0) (.int .i64 0) (.slice none 0 0)).1
        clear hf HS8 HFx hSr
        go_wp2
        exact bodyPost_ret (v := .tuple #[.agg #[.int .i64 0, .int .i64 0, .int .i64 0, .slice none 0 0], .bool false]) (by simp [results, Try.results55, go_sem, r0, r1, r2, r3]) rfl ⟨_, by rw [HF.out]; rfl, by rw [HF.out]; exact World.ownsRow_nil _ _ _ _, HE.out⟩
      · have HFy : Hid (fitsN W H bs (k + 1) = true) := Lib.hid (by rw [HFx.out, hf])
        obtain ⟨X, Y, bw, bh, e0, e1, e2, e3, hbw, hbh, hXw, hYh⟩ := fit_nat hf
        have HNX : Hid (paF (fun x y => pxc W P ys (X + x) (Y + y)) (patM W P ys (pxc W P xs) bs k) X Y bw bh 0 = patM W P ys (pxc W P xs) bs (k + 1)) := Lib.hid (by
          show _ = paF (fun x y => pxc W P ys ((q0 bs k).toNat + x) ((q1 bs k).toNat + y)) (patM W P ys (pxc W P xs) bs k) (q0 bs k) (q1 bs k) (q2 bs k).toNat (q3 bs k).toNat 0
          rw [e0, e1, e2, e3]
          simp only [Int.toNat_natCast])
        have HSR : Hid (GS w w8 [rt 124 4 lo2 hi2 (.slice A2 m c2) m (img W H 4 (pxc W P ys)), rt 124 4 lo1 hi1 (.slice (some ⟨g, 0, none⟩) m cg) m (img W H 4 (patM W P ys (pxc W P xs) bs k))] [⟨pb, 131, #[.int .i64 (X : Int), .int .i64 (Y : Int), .int .i64 (bw : Int), .int .i64 (bh : Int)]⟩, ⟨b9, 138, #[.int .i64 (W : Int), .int .i64 (H : Int), .slice A2 m c2]⟩, ⟨b8, 138, #[.int .i64 (W : Int), .int .i64 (H : Int), .slice (some ⟨g, 0, none⟩) m cg]⟩, ⟨w.heap.size + 1 + 1, 25, #[.int .i64 0, .int .i64 0, .int .i64 0, .slice none 0 0]⟩, ⟨w.heap.size + 1, 25, #[.int .i64 (W : Int), .int .i64 (H : Int), .int .i64 (P : Int), .slice A' ys.length c']⟩, ⟨w.heap.size, 25, #[.int .i64 (W : Int), .int .i64 (H : Int), .int .i64 (P : Int), .slice A xs.length c]⟩]) := Lib.hid (by rw [← e0, ← e1, ← e2, ← e3]; exact HS8.out)
        obtain ⟨m0, m1, m2⟩ := (HSR.out).b2_3
        obtain ⟨m3, m4, m5⟩ := (HSR.out).b1_3
        obtain ⟨m6, m7, m8, m9⟩ := (HSR.out).b0_4
        have hpl := HSR.out.l0
        have h9l := HSR.out.l1
        have h8l := HSR.out.l2
        have hgl : g < w8.heap.size := (World.ownsRow.lt HSR.out.ot1 g rfl).2
        rw [e0, e1, e2, e3]
        clear hf e0 e1 e2 e3 HS8 HFx
        go_upto_region 9 with fail
        go_region_held3 (fun w' => (w'.cell? ⟨b8, 0, none⟩ = some (.int .i64 (W : Int)) ∧ w'.cell? ⟨b8, 1, none⟩ = some (.int .i64 (H : Int)) ∧ w'.cell? ⟨b8, 2, none⟩ = some (.slice (some ⟨g, 0, none⟩) m cg)) ∧ (w'.cell? ⟨b9, 0, none⟩ = some (.int .i64 (W : Int)) ∧ w'.cell? ⟨b9, 1, none⟩ = some (.int .i64 (H : Int)) ∧ w'.cell? ⟨b9, 2, none⟩ = some (.slice A2 m c2)) ∧ (w'.cell? ⟨pb, 0, none⟩ = some (.int .i64 (X : Int)) ∧ w'.cell? ⟨pb, 1, none⟩ = some (.int .i64 (Y : Int)) ∧ w'.cell? ⟨pb, 2, none⟩ = some (.int .i64 (bw : Int)) ∧ w'.cell? ⟨pb, 3, none⟩ = some (.int .i64 (bh : Int))))
          (first | (with_reducible exact ⟨⟨k0, k1, k2⟩, ⟨k3, k4, k5⟩, k6, k7, k8, k9⟩) | (with_reducible exact ⟨⟨d0, d1, d2⟩, ⟨d3, d4, d5⟩, d6, d7, d8, d9⟩) | exact ⟨⟨m0, m1, m2⟩, ⟨m3, m4, m5⟩, m6, m7, m8, m9⟩)
          (first | (go_at_call 120; refine (part_any W H m Hm.out hW hH A2 c2 (pxc W P ys) X Y bw bh hXw hYh _ (by exact HSR.out.drew.t0) hc2).mono ?_; rintro e w9 ⟨v9, rfl, hO9, hB9⟩; obtain ⟨A9, c9, rfl, hc9⟩ := OwnC.slice hO9; have hS9 := HSR.out.drew.addT hO9 hB9; obtain ⟨d0, d1, d2⟩ := (hS9).b2_3; obtain ⟨d3, d4, d5⟩ := (hS9).b1_3; obtain ⟨d6, d7, d8, d9⟩ := (hS9).b0_4; have HA9 : Hid (∀ a : Addr, A9 = some a → w8.heap.size ≤ a.block) := Lib.hid (fun a ha => by subst ha; exact hO9.ge a.block rfl); have hgw9 := Nat.lt_of_lt_of_le hgl (show w8.heap.size ≤ w9.heap.size from hB9.size); have HS9 := Lib.hid hS9; clear hO9 hB9 hS9) | (go_at_call 119; refine (gpaste_any W H m bw bh (bw * bh) Hm.out rfl hW hH (by omega) (by omega) X Y (by omega) (by omega) (by omega) (by omega) lo1 w9.heap.size g cg hcg (fun x y => pxc W P ys (X + x) (Y + y)) (patM W P ys (pxc W P xs) bs k) A9 c9 hc9 w9 (by exact HS9.out.ot2) (by exact HS9.out.t0) (Nat.le_refl _) w8.heap.size HA9.out hgl hgw9).mono ?_; rintro e w10 ⟨rfl, hO10, hG10⟩; rw [HNX.out] at hO10; have hS10 := (GS.markT (L1 := [_, _]) HS9.out hO10 hG10).dropR; obtain ⟨k0, k1, k2⟩ := (hS10).b2_3; obtain ⟨k3, k4, k5⟩ := (hS10).b1_3; obtain ⟨k6, k7, k8, k9⟩ := (hS10).b0_4; have HS10 := Lib.hid hS10; clear hO10 hG10 hS10))
        have HN : Hid (fitsN W H bs (k + 1) = true ∧ GS w w10 [rt 124 4 lo2 hi2 (.slice A2 m c2) m (img W H 4 (pxc W P ys)), rt 124 4 lo1 hi1 (.slice (some ⟨g, 0, none⟩) m cg) m (img W H 4 (patM W P ys (pxc W P xs) bs (k + 1)))] [⟨b9, 138, #[.int .i64 (W : Int), .int .i64 (H : Int), .slice A2 m c2]⟩, ⟨b8, 138, #[.int .i64 (W : Int), .int .i64 (H : Int), .slice (some ⟨g, 0, none⟩) m cg]⟩, ⟨w.heap.size + 1 + 1, 25, #[.int .i64 0, .int .i64 0, .int .i64 0, .slice none 0 0]⟩, ⟨w.heap.size + 1, 25, #[.int .i64 (W : Int), .int .i64 (H : Int), .int .i64 (P : Int), .slice A' ys.length c']⟩, ⟨w.heap.size, 25, #[.int .i64 (W : Int), .int .i64 (H : Int), .int .i64 (P : Int), .slice A xs.length c]⟩]) := Lib.hid ⟨HFy.out, HS10.out.drop⟩
        clear m0 m1 m2 m3 m4 m5 m6 m7 m8 m9 d0 d1 d2 d3 d4 d5 d6 d7 d8 d9 k0 k1 k2 k3 k4 k5 k6 k7 k8 k9 HS10 HS9 HSR HNX
        go_wp2
        go_roundw
        case rel => exact ⟨k + 1, by omega, by go_num, HN⟩
        case measure => simp [intOf]; omega
    · have hk' : k = n := by omega
      have HF : Hid (patOk W H P xs W H P ys bs n = true) := Lib.hid (by rw [HV2.out, ← hk']; exact hFit)
      rw [hk'] at hS
      obtain ⟨q0, q1, q2⟩ := hS.b1_3
      obtain ⟨a0, a1, a2, a3⟩ := hS.b4_4
      have hrd := hS.t1
      have HSe := Lib.hid hS
      have HIo := Lib.hid (show Calls Try.prog 122 #[.agg #[.int .i64 (W : Int), .int .i64 (H : Int), .slice (some ⟨g, 0, none⟩) m cg], .int .i64 (P : Int)] wv (MadeI W H P (patL W H P xs ys bs n) wv) from by have h := imageOf_any W H P hW hH hP (some ⟨g, 0, none⟩) cg (patM W P ys (pxc W P xs) bs n) wv hrd (by rw [Hm.out]; exact hcg); rw [Hm.out] at h; exact h)
      clear hS hFit hI hk' hrd
      generalize hL : patL W H P xs ys bs n = L at *
      go_wp2_with fail
      refine HIo.out.mono ?_
      rintro e u7 ⟨v7, rfl, hO7, hB7⟩
      obtain ⟨A7, c7, rfl, hc7⟩ := hO7.slice
      have S7 := (HSe.out.add hO7 hB7).drop.drop
      obtain ⟨r0, r1, r2, r3⟩ := S7.b0_4
      have f0 := S7.f0 0
      have f1 := S7.f0 1
      have f2 := S7.f0 2
      have f3 := S7.f0 3
      have HE := Lib.hid (S7.e0_4 (.int .i64 (W : Int)) (.int .i64 (H : Int)) (.int .i64 (P : Int)) (.slice A7 L.length c7))
      have HL := Lib.hid hL
      clear S7 HSe hO7 hB7 hc7 q0 q1 q2 a0 a1 a2 a3 HIo hL
      generalize hnl : L.length = nl at *
      clear hnl
      go_wp2
      exact bodyPost_ret (v := .tuple #[.agg #[.int .i64 (W : Int), .int .i64 (H : Int), .int .i64 (P : Int), .slice A7 nl c7], .bool true]) (by simp [results, Try.results55, go_sem, r0, r1, r2, r3]) rfl ⟨_, by rw [HF.out]; rfl, by rw [HF.out]; rw [show patL (W : Int).toNat (H : Int).toNat (P : Int).toNat xs ys bs n = L from HL.out]; exact HE.out.2 _ (List.Mem.head _), HE.out.1⟩
end Go.Proofs.Ytebfaomlljekiaa
