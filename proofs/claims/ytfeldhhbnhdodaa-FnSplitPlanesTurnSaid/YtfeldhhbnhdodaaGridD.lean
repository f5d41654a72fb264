/- Contracts of grids of colors that are arranged anew. -/
import Derived.Test.YtfeldhhbnhdodaaGridC
import Derived.Deep.RegionHeld3
namespace Go.Proofs.Ytfeldhhbnhdodaa
open Go.RowKit Go.Shelf
set_option linter.unusedSimpArgs false
set_option linter.unusedVariables false

theorem row_lt {W H x y : Nat} (hx : x < W) (hy : y < H) : y * W + x < W * H := by
  have : (y + 1) * W ≤ H * W := Nat.mul_le_mul_right W hy
  rw [Nat.add_mul, Nat.one_mul] at this
  rw [Nat.mul_comm W H]
  omega
theorem img_place {W H x y : Nat} (F : Nat → Nat → Nat → Int) (hx : x < W) (hy : y < H) {w : World} {b off : Nat} (hc : ∀ j, j < (img W H 4 F).length → w.cell? ⟨b, off + j, none⟩ = some (.int .i64 ((img W H 4 F).getD j 0))) :
    w.cell? ⟨b, off + (y * W + x) * 4, none⟩ = some (.int .i64 (F x y 0)) ∧ w.cell? ⟨b, off + (y * W + x) * 4 + 1, none⟩ = some (.int .i64 (F x y 1)) ∧ w.cell? ⟨b, off + (y * W + x) * 4 + 2, none⟩ = some (.int .i64 (F x y 2)) ∧ w.cell? ⟨b, off + (y * W + x) * 4 + 3, none⟩ = some (.int .i64 (F x y 3)) := by
  have h := img_four F (row_lt hx hy) hc
  rwa [row_mod hx, row_div hx] at h
set_option maxRecDepth 20000 in
set_option maxHeartbeats 8000000 in
theorem at_any (W H : Nat) (hW : W ≤ 16) (hH : H ≤ 16) (A : Option Addr) (c : Nat) (F : Nat → Nat → Nat → Int) (x y : Nat) (hx : x < W) (hy : y < H) (w : World) (hr : Rds .i64 w w.heap.size A (img W H 4 F)) (hc : W * H ≤ c) :
    Calls Try.prog 65 #[.agg #[.int .i64 (W : Int), .int .i64 (H : Int), .slice A (W * H) c], .int .i64 (x : Int), .int .i64 (y : Int)] w fun e w' => e = .returned (colV (F x y)) ∧ Below w.heap.size w w' := by
  have hWH : W * H ≤ 256 := by have := Nat.mul_le_mul hW hH; omega
  have hlt := row_lt hx hy
  have hi : (y : Int) * (W : Int) + (x : Int) = ((y * W + x : Nat) : Int) := by simp
  have i0 : 0 ≤ (y : Int) * (W : Int) ∧ (y : Int) * (W : Int) ≤ 256 := by rw [← Int.natCast_mul]; omega
  have i1 : 0 ≤ (y : Int) * (W : Int) + (x : Int) := by rw [hi]; omega
  have i2 : (y : Int) * (W : Int) + (x : Int) < ((W * H : Nat) : Int) := by rw [hi]; omega
  obtain ⟨b, off, rfl, hb, hcl⟩ := hr.cells_ (j := 0) (by rw [img_len]; omega)
  obtain ⟨q0, q1, q2, q3⟩ := img_place F hx hy hcl
  obtain ⟨i0, i0'⟩ := i0
  clear hcl hr hi
  generalize W * H = n at *
  go_enter Try.func65, Try.ntmps65
  go_wp2
  exact bodyPost_ret (v := colV (F x y)) (by simp [results, Try.results65, go_sem, colV]) rfl ⟨rfl, by (repeat' (first | (exact Below.refl _ _) | (refine Below.setCell ?_ (by first | omega | (simp; done) | (simp; omega)) _) | (refine below_dn ?_ _) | (refine Below.drew ?_) | (refine Below.alloc ?_ (by first | omega | (simp; done) | (simp; omega)) _) | (exact Below.refl _ _)))⟩
theorem at_n (W H n : Nat) (hn : W * H = n) (hW : W ≤ 16) (hH : H ≤ 16) (A : Option Addr) (c : Nat) (F : Nat → Nat → Nat → Int) (x y : Nat) (hx : x < W) (hy : y < H) (w : World) (hr : Rds .i64 w w.heap.size A (img W H 4 F)) (hc : n ≤ c) :
    Calls Try.prog 65 #[.agg #[.int .i64 (W : Int), .int .i64 (H : Int), .slice A n c], .int .i64 (x : Int), .int .i64 (y : Int)] w fun e w' => e = .returned (colV (F x y)) ∧ Below w.heap.size w w' := by
  subst hn
  exact at_any W H hW hH A c F x y hx hy w hr hc
theorem bx4 {w : World} {g : Nat} {T : TypeId} {a b c d : Value} (h : Bx w g T #[a, b, c, d]) : w.cell? ⟨g, 0, none⟩ = some a ∧ w.cell? ⟨g, 1, none⟩ = some b ∧ w.cell? ⟨g, 2, none⟩ = some c ∧ w.cell? ⟨g, 3, none⟩ = some d :=
  ⟨cell_of_row w g 0 _ _ _ h, cell_of_row w g 1 _ _ _ h, cell_of_row w g 2 _ _ _ h, cell_of_row w g 3 _ _ _ h⟩
theorem sc4 {w : World} {r g j : Nat} (h : g ≠ r) (u0 u1 u2 u3 : Value) : ((((w.setCell ⟨r, 0, none⟩ u0).setCell ⟨r, 1, none⟩ u1).setCell ⟨r, 2, none⟩ u2).setCell ⟨r, 3, none⟩ u3).cell? ⟨g, j, none⟩ = w.cell? ⟨g, j, none⟩ := by
  have e : ∀ (w : World) (i : Nat) (u : Value), (w.setCell ⟨r, i, none⟩ u).cell? ⟨g, j, none⟩ = w.cell? ⟨g, j, none⟩ := fun w i u => World.cell?_setCell_other w ⟨r, i, none⟩ ⟨g, j, none⟩ u (fun e => h (by injection e with e1; exact e1.symm))
  rw [e, e, e, e]
theorem bx1 {w : World} {g : Nat} {T : TypeId} {a : Value} (h : Bx w g T #[a]) : w.cell? ⟨g, 0, none⟩ = some a := cell_of_row w g 0 _ _ _ h
set_option maxHeartbeats 8000000 in
theorem rearr1_any (W H : Nat) (hW : W ≤ 16) (hH : H ≤ 16) (A : Option Addr) (c : Nat) (F : Nat → Nat → Nat → Int) (hc : W * H ≤ c) (fg : Nat) (fcs : Array Value) (eg : ∀ args w, (callFunc fg args).run Try.prog w = .ok (.enter fg args) w)
    (x y sx sy : Nat) (hsx : sx < W) (hsy : sy < H) (pg pf : Nat) (w : World) (hr : Rds .i64 w w.heap.size A (img W H 4 F))
    (hg : Bx w pg 62 #[.int .i64 (W : Int), .int .i64 (H : Int), .slice A (W * H) c]) (hf : Bx w pf 85 #[.func (.func fg) #[] fcs])
    (hfrom : ∀ w', Below w.heap.size w w' → Calls Try.prog fg (#[.int .i64 (x : Int), .int .i64 (y : Int)] ++ fcs) w' fun e w'' => e = .returned (.tuple #[.int .i64 (sx : Int), .int .i64 (sy : Int)]) ∧ Below w'.heap.size w' w'') :
    Calls Try.prog 64 #[.int .i64 (x : Int), .int .i64 (y : Int), .pointer (some ⟨pg, 0, none⟩), .pointer (some ⟨pf, 0, none⟩)] w fun e w' => e = .returned (colV (F sx sy)) ∧ Below w.heap.size w w' := by
  have hgl := hg.lt
  have hfl := hf.lt
  have HB0 := Lib.hid ((Below.refl w.heap.size w).alloc (Nat.le_refl _) (.cells #[.int .i64 0, .int .i64 0, .int .i64 0, .int .i64 0] 66))
  have HG0 := Lib.hid (hg.alloc (.cells #[.int .i64 0, .int .i64 0, .int .i64 0, .int .i64 0] 66))
  have HF0 := Lib.hid (hf.alloc (.cells #[.int .i64 0, .int .i64 0, .int .i64 0, .int .i64 0] 66))
  have HX0 := Lib.hid (Bx.new w 66 #[.int .i64 0, .int .i64 0, .int .i64 0, .int .i64 0])
  have Hr := Lib.hid hr
  have HFR := Lib.hid hfrom
  have Hz : Hid ((w.alloc (.cells #[.int .i64 0, .int .i64 0, .int .i64 0, .int .i64 0] 66)).heap.size = w.heap.size + 1) := Lib.hid (by simp)
  clear hr hg hf hfrom
  generalize hn : W * H = n at *
  have Hn := Lib.hid hn
  clear hn
  go_enter Try.func64, Try.ntmps64
  go_wp2
  generalize w.alloc (.cells #[.int .i64 0, .int .i64 0, .int .i64 0, .int .i64 0] 66) = u at *
  obtain ⟨g0, g1, g2⟩ := bx3 HG0.out
  have h0 := bx1 HF0.out
  have hne1 : pg ≠ w.heap.size := by omega
  have hne2 : pf ≠ w.heap.size := by omega
  have hgu := HG0.out.lt
  have hfu := HF0.out.lt
  have hxu := HX0.out.lt
  go_region_held3 (fun w' => w'.cell? ⟨pg, 0, none⟩ = some (.int .i64 (W : Int)) ∧ w'.cell? ⟨pg, 1, none⟩ = some (.int .i64 (H : Int)) ∧ w'.cell? ⟨pg, 2, none⟩ = some (.slice A n c) ∧ w'.cell? ⟨pf, 0, none⟩ = some (.func (.func fg) #[] fcs))
    (first | (with_reducible exact ⟨e0, e1, e2, e3⟩) | (with_reducible exact ⟨d0, d1, d2, d3⟩) | (with_reducible exact ⟨(sc4 hne1 _ _ _ _).trans e0, (sc4 hne1 _ _ _ _).trans e1, (sc4 hne1 _ _ _ _).trans e2, (sc4 hne2 _ _ _ _).trans e3⟩) | exact ⟨g0, g1, g2, h0⟩ | go_keep)
    (first | (go_at_fn fg; refine (HFR.out _ (by exact HB0.out.drew)).mono ?_; rintro e w3 ⟨rfl, hB3⟩; have d0 := (hB3.cell (p := ⟨pg, 0, none⟩) (by exact hgu)).trans g0; have d1 := (hB3.cell (p := ⟨pg, 1, none⟩) (by exact hgu)).trans g1; have d2 := (hB3.cell (p := ⟨pg, 2, none⟩) (by exact hgu)).trans g2; have d3 := (hB3.cell (p := ⟨pf, 0, none⟩) (by exact hfu)).trans h0; have hgw : pg < w3.heap.size := (by have h := hB3.size; exact Nat.lt_of_lt_of_le hgu h); have hfw : pf < w3.heap.size := (by have h := hB3.size; exact Nat.lt_of_lt_of_le hfu h); have HB3 : Hid (Below u.heap.size u w3) := Lib.hid ((Below.refl u.heap.size u).drew.trans hB3); clear hB3) | (go_at_call 65; refine (at_n W H n Hn.out hW hH A c F sx sy hsx hsy _ (by exact ((Hr.out.below HB0.out).more (by have := Hz.out; omega)).belowTo HB3.out (Nat.le_refl _) |>.more HB3.out.size) hc).mono ?_; rintro e w4 ⟨rfl, hB4⟩; have e0 := (hB4.cell (p := ⟨pg, 0, none⟩) (by exact hgw)).trans d0; have e1 := (hB4.cell (p := ⟨pg, 1, none⟩) (by exact hgw)).trans d1; have e2 := (hB4.cell (p := ⟨pg, 2, none⟩) (by exact hgw)).trans d2; have e3 := (hB4.cell (p := ⟨pf, 0, none⟩) (by exact hfw)).trans d3; have HX4 : Hid (Bx w4 w.heap.size 66 #[.int .i64 0, .int .i64 0, .int .i64 0, .int .i64 0]) := Lib.hid ((HX0.out.below HB3.out).below hB4); obtain ⟨x0, x1, x2, x3⟩ := bx4 HX4.out; have f0 := HX4.out.fz' 0; have f1 := HX4.out.fz' 1; have f2 := HX4.out.fz' 2; have f3 := HX4.out.fz' 3; have HB4 : Hid (Below w.heap.size w w4) := Lib.hid (HB0.out.trans ((HB3.out.trans (hB4.mono HB3.out.size)).mono (by have := Hz.out; omega))); clear hB4; simp only [colV]))
  all_goals
    clear d0 d1 d2 d3 e0 e1 e2 e3
    go_wp2
    exact bodyPost_ret (v := colV (F sx sy)) (by simp [results, Try.results64, go_sem, colV, x0, x1, x2, x3]) rfl ⟨rfl, by (repeat' (first | (exact HB4.out) | (refine Below.setCell ?_ (by first | omega | (simp; done) | (simp; omega)) _) | (refine below_dn ?_ _) | (refine Below.drew ?_) | (refine Below.alloc ?_ (by first | omega | (simp; done) | (simp; omega)) _) | (exact Below.refl _ _)))⟩
end Go.Proofs.Ytfeldhhbnhdodaa
