/- Grids of numbers that are arranged anew. -/
import Derived.Test.YtcmjlpmdmejmaaaGridN
import Derived.Deep.QuietTactic
import Derived.BigQuiet
import Derived.IntWalk
namespace Go.Proofs.Ytcmjlpmdmejmaaa
open Go.RowKit Go.Shelf
set_option linter.unusedSimpArgs false
set_option linter.unusedVariables false
set_option maxRecDepth 20000

/-- The row of a grid of numbers. -/
def grN (W H : Nat) (f : Nat → Nat → Int) : List Int := img W H 1 (fun x y _ => f x y)
theorem grN_len (W H : Nat) (f : Nat → Nat → Int) : (grN W H f).length = W * H := by unfold grN; rw [img_len, Nat.mul_one]
theorem grN_get {W H x y : Nat} (f : Nat → Nat → Int) (hx : x < W) (hy : y < H) : (grN W H f).getD (y * W + x) 0 = f x y := by
  have := img_at (P := 1) (fun x y _ => f x y) (row_lt hx hy) (show 0 < 1 by omega)
  unfold grN
  rw [row_mod hx, row_div hx] at this
  simpa using this
theorem grN_ext {W H : Nat} {f g : Nat → Nat → Int} (h : ∀ x y, x < W → y < H → f x y = g x y) : grN W H f = grN W H g := img_ext (fun x y p hx hy _ => h x y hx hy)
set_option maxHeartbeats 8000000 in
theorem atN_any (W H n : Nat) (hn : W * H = n) (hW : W ≤ 16) (hH : H ≤ 16) (A : Option Addr) (c : Nat) (f : Nat → Nat → Int) (x y : Nat) (hx : x < W) (hy : y < H) (w : World) (hr : Rds .i64 w w.heap.size A (grN W H f)) (hc : n ≤ c) :
    Calls Try.prog 56 #[.agg #[.int .i64 (W : Int), .int .i64 (H : Int), .slice A n c], .int .i64 (x : Int), .int .i64 (y : Int)] w fun e w' => e = .returned (.int .i64 (f x y)) ∧ Below w.heap.size w w' := by
  subst hn
  have hWH : W * H ≤ 256 := by have := Nat.mul_le_mul hW hH; omega
  have hlt := row_lt hx hy
  have hi : (y : Int) * (W : Int) + (x : Int) = ((y * W + x : Nat) : Int) := by simp
  have i0 : 0 ≤ (y : Int) * (W : Int) ∧ (y : Int) * (W : Int) ≤ 256 := by rw [← Int.natCast_mul]; omega
  have i1 : 0 ≤ (y : Int) * (W : Int) + (x : Int) := by rw [hi]; omega
  have i2 : (y : Int) * (W : Int) + (x : Int) < ((W * H : Nat) : Int) := by rw [hi]; omega
  obtain ⟨b, off, rfl, hb, hcl⟩ := hr.cells_ (j := y * W + x) (by rw [grN_len]; exact hlt)
  have q0 := hcl (y * W + x) (by rw [grN_len]; exact hlt)
  rw [grN_get f hx hy] at q0
  obtain ⟨i0, i0'⟩ := i0
  have HB := Lib.hid ((Below.refl w.heap.size w).alloc (Nat.le_refl _) (.cells #[.int .i64 (W : Int), .int .i64 (H : Int), .slice (some ⟨b, off, none⟩) (W * H) c] 59))
  clear hcl hr hi
  generalize W * H = n at *
  go_enter Try.func56, Try.ntmps56
  go_wp2
  go_ret
  exact ⟨rfl, by first | exact Below.refl _ _ | exact HB.out | (repeat' (first | (exact Below.refl _ _) | (refine Below.setCell ?_ (by first | omega | (simp; done) | (simp; omega)) _) | (refine below_dn ?_ _) | (refine Below.drew ?_) | (refine Below.alloc ?_ (by first | omega | (simp; done) | (simp; omega)) _) | (exact Below.refl _ _)))⟩
set_option maxHeartbeats 8000000 in
theorem rearrJ1_any (W H n : Nat) (hn : W * H = n) (hW : W ≤ 16) (hH : H ≤ 16) (A : Option Addr) (c : Nat) (f : Nat → Nat → Int) (hc : n ≤ c) (fg : Nat) (fcs : Array Value) (eg : ∀ args w, (callFunc fg args).run Try.prog w = .ok (.enter fg args) w)
    (x y sx sy : Nat) (hsx : sx < W) (hsy : sy < H) (pg pf : Nat) (w : World) (hr : Rds .i64 w w.heap.size A (grN W H f))
    (hg : Bx w pg 59 #[.int .i64 (W : Int), .int .i64 (H : Int), .slice A n c]) (hf : Bx w pf 68 #[.func (.func fg) #[] fcs])
    (hfrom : ∀ w', Below w.heap.size w w' → Calls Try.prog fg (#[.int .i64 (x : Int), .int .i64 (y : Int)] ++ fcs) w' fun e w'' => e = .returned (.tuple #[.int .i64 (sx : Int), .int .i64 (sy : Int)]) ∧ Below w'.heap.size w' w'') :
    Calls Try.prog 65 #[.int .i64 (x : Int), .int .i64 (y : Int), .pointer (some ⟨pg, 0, none⟩), .pointer (some ⟨pf, 0, none⟩)] w fun e w' => e = .returned (.int .i64 (f sx sy)) ∧ Below w.heap.size w w' := by
  have hgl := hg.lt
  have hfl := hf.lt
  have Hr := Lib.hid hr
  have HFR := Lib.hid hfrom
  have HG := Lib.hid hg
  have Hn := Lib.hid hn
  obtain ⟨g0, g1, g2⟩ := bx3 hg
  have h0 := bx1 hf
  clear hr hg hf hfrom hn
  go_enter Try.func65, Try.ntmps65
  go_wp2
  go_region_held3 (fun w' => w'.cell? ⟨pg, 0, none⟩ = some (.int .i64 (W : Int)) ∧ w'.cell? ⟨pg, 1, none⟩ = some (.int .i64 (H : Int)) ∧ w'.cell? ⟨pg, 2, none⟩ = some (.slice A n c) ∧ w'.cell? ⟨pf, 0, none⟩ = some (.func (.func fg) #[] fcs))
    (first | (with_reducible exact ⟨e0, e1, e2, e3⟩) | (with_reducible exact ⟨d0, d1, d2, d3⟩) | exact ⟨g0, g1, g2, h0⟩ | go_keep)
    (first | (go_at_fn fg; refine (HFR.out _ (by exact (Below.refl w.heap.size w).drew)).mono ?_; rintro e w3 ⟨rfl, hB3⟩; have d0 := (hB3.cell (p := ⟨pg, 0, none⟩) (by exact hgl)).trans g0; have d1 := (hB3.cell (p := ⟨pg, 1, none⟩) (by exact hgl)).trans g1; have d2 := (hB3.cell (p := ⟨pg, 2, none⟩) (by exact hgl)).trans g2; have d3 := (hB3.cell (p := ⟨pf, 0, none⟩) (by exact hfl)).trans h0; have hgw : pg < w3.heap.size := (by have h := hB3.size; exact Nat.lt_of_lt_of_le hgl h); have hfw : pf < w3.heap.size := (by have h := hB3.size; exact Nat.lt_of_lt_of_le hfl h); have HB3 : Hid (Below w.heap.size w w3) := Lib.hid ((Below.refl w.heap.size w).drew.trans hB3); clear hB3) | (go_at_call 56; refine (atN_any W H n Hn.out hW hH A c f sx sy hsx hsy _ (by exact (Hr.out.below HB3.out).more HB3.out.size) hc).mono ?_; rintro e w4 ⟨rfl, hB4⟩; have e0 := (hB4.cell (p := ⟨pg, 0, none⟩) (by exact hgw)).trans d0; have e1 := (hB4.cell (p := ⟨pg, 1, none⟩) (by exact hgw)).trans d1; have e2 := (hB4.cell (p := ⟨pg, 2, none⟩) (by exact hgw)).trans d2; have e3 := (hB4.cell (p := ⟨pf, 0, none⟩) (by exact hfw)).trans d3; have HB4 : Hid (Below w.heap.size w w4) := Lib.hid (HB3.out.trans (hB4.mono HB3.out.size)); clear hB4))
  all_goals
    clear d0 d1 d2 d3 e0 e1 e2 e3
    go_wp2
    go_ret
    exact ⟨rfl, HB4.out⟩
set_option maxHeartbeats 8000000 in
theorem rearrJ_any (W H n W2 H2 : Nat) (hn : W * H = n) (hW : W ≤ 16) (hH : H ≤ 16) (hW2 : W2 ≤ 16) (hH2 : H2 ≤ 16) (A : Option Addr) (c : Nat) (f : Nat → Nat → Int) (hc : n ≤ c) (fg : Nat) (fcs : Array Value) (sx sy : Nat → Nat → Nat)
    (eg : ∀ args w, (callFunc fg args).run Try.prog w = .ok (.enter fg args) w) (w : World) (hr : Rds .i64 w w.heap.size A (grN W H f)) (hs : ∀ x y, x < W2 → y < H2 → sx x y < W ∧ sy x y < H)
    (hfrom : ∀ (x y : Nat) (w' : World), x < W2 → y < H2 → Below w.heap.size w w' → Calls Try.prog fg (#[.int .i64 (x : Int), .int .i64 (y : Int)] ++ fcs) w' fun e w'' => e = .returned (.tuple #[.int .i64 (sx x y : Int), .int .i64 (sy x y : Int)]) ∧ Below w'.heap.size w' w'') :
    Calls Try.prog 61 #[.agg #[.int .i64 (W : Int), .int .i64 (H : Int), .slice A n c], .int .i64 (W2 : Int), .int .i64 (H2 : Int), .func (.func fg) #[] fcs] w (GridI W2 H2 (fun x y => f (sx x y) (sy x y)) w) := by
  have Hr := Lib.hid hr
  have HF := Lib.hid hfrom
  have Hs := Lib.hid hs
  have HEg := Lib.hid eg
  have Eg : Hid (∀ args w, (callFunc 65 args).run Try.prog w = .ok (.enter 65 args) w) := Lib.hid (enters_of Try.func65 (by kernel_rfl) rfl)
  have S0 : GS w (((w.alloc (.cells #[.int .i64 (W : Int), .int .i64 (H : Int), .slice A n c] 59)).alloc (.cells #[.func (.func fg) #[] fcs] 68)).alloc (.cells #[.int .i64 0, .int .i64 0, .slice none 0 0] 59)) [] [⟨w.heap.size + 2, 59, #[.int .i64 0, .int .i64 0, .slice none 0 0]⟩, ⟨w.heap.size + 1, 68, #[.func (.func fg) #[] fcs]⟩, ⟨w.heap.size, 59, #[.int .i64 (W : Int), .int .i64 (H : Int), .slice A n c]⟩] :=
    GS.box' (GS.box' (GS.box' (GS.start w) _ _ w.heap.size (by simp)) _ _ (w.heap.size + 1) (by simp)) _ _ (w.heap.size + 2) (by simp)
  have HS := Lib.hid S0
  clear hr hfrom hs eg S0
  go_enter Try.func61, Try.ntmps61
  go_wp2_with fail
  generalize ((w.alloc (.cells #[.int .i64 (W : Int), .int .i64 (H : Int), .slice A n c] 59)).alloc (.cells #[.func (.func fg) #[] fcs] 68)).alloc (.cells #[.int .i64 0, .int .i64 0, .slice none 0 0] 59) = u at *
  refine (buildN_any W2 H2 hW2 hH2 65 #[.pointer (some ⟨w.heap.size, 0, none⟩), .pointer (some ⟨w.heap.size + 1, 0, none⟩)] (fun x y => f (sx x y) (sy x y)) u Eg.out (fun x y w' hx hy hbel =>
    rearrJ1_any W H n hn hW hH A c f hc fg fcs HEg.out x y (sx x y) (sy x y) (Hs.out x y hx hy).1 (Hs.out x y hx hy).2 w.heap.size (w.heap.size + 1) w' ((HS.out.call hbel).arg Hr.out) ((HS.out.call hbel).bx (by simp)) ((HS.out.call hbel).bx (by simp))
      (fun w'' hb'' => HF.out x y w'' hx hy (((HS.out.call hbel).call hb'').below)))).mono ?_
  rintro e w2 ⟨v2, rfl, hO2, hB2⟩
  have S2 := HS.out.add hO2 hB2
  obtain ⟨A2, c2, rfl, _⟩ := hO2.slice
  obtain ⟨r0, r1, r2⟩ := S2.b0_3
  have f0 := S2.f0 0
  have f1 := S2.f0 1
  have f2 := S2.f0 2
  have HE := Lib.hid (S2.e0_3 (.int .i64 (W2 : Int)) (.int .i64 (H2 : Int)) (.slice A2 (img W2 H2 1 (fun x y _ => f (sx x y) (sy x y))).length c2))
  clear S2 HS hO2 hB2 Hr HF Hs HEg Eg
  go_wp2
  exact bodyPost_ret (v := .agg #[.int .i64 (W2 : Int), .int .i64 (H2 : Int), .slice A2 (img W2 H2 1 (fun x y _ => f (sx x y) (sy x y))).length c2]) (by simp [results, Try.results61, go_sem, r0, r1, r2]) rfl ⟨_, rfl, HE.out.2 _ (List.Mem.head _), HE.out.1⟩
set_option maxHeartbeats 1000000 in
theorem transposeJ1_any (x y : Nat) (w : World) :
    Calls Try.prog 62 (#[.int .i64 (x : Int), .int .i64 (y : Int)] ++ #[]) w fun e w' => e = .returned (.tuple #[.int .i64 (y : Int), .int .i64 (x : Int)]) ∧ Below w.heap.size w w' := by
  show Calls Try.prog 62 #[.int .i64 (x : Int), .int .i64 (y : Int)] w _
  go_enter Try.func62, Try.ntmps62
  go_wp2
  go_ret2
  exact ⟨rfl, Below.refl _ _⟩
set_option maxHeartbeats 8000000 in
theorem transpJ_any (W H n : Nat) (hn : W * H = n) (hW : W ≤ 16) (hH : H ≤ 16) (A : Option Addr) (c : Nat) (f : Nat → Nat → Int) (hc : n ≤ c) (w : World) (hr : Rds .i64 w w.heap.size A (grN W H f)) :
    Calls Try.prog 58 #[.agg #[.int .i64 (W : Int), .int .i64 (H : Int), .slice A n c]] w (GridI H W (fun x y => f y x) w) := by
  have Hr := Lib.hid hr
  have Hn := Lib.hid hn
  have Eg : Hid (∀ args w, (callFunc 62 args).run Try.prog w = .ok (.enter 62 args) w) := Lib.hid (enters_of Try.func62 (by kernel_rfl) rfl)
  have S0 : GS w ((w.alloc (.cells #[.int .i64 (W : Int), .int .i64 (H : Int), .slice A n c] 59)).alloc (.cells #[.int .i64 0, .int .i64 0, .slice none 0 0] 59)) [] [⟨w.heap.size + 1, 59, #[.int .i64 0, .int .i64 0, .slice none 0 0]⟩, ⟨w.heap.size, 59, #[.int .i64 (W : Int), .int .i64 (H : Int), .slice A n c]⟩] :=
    GS.box' (GS.box' (GS.start w) _ _ w.heap.size (by simp)) _ _ (w.heap.size + 1) (by simp)
  have HS := Lib.hid S0
  clear hr S0 hn
  go_enter Try.func58, Try.ntmps58
  go_wp2_with fail
  generalize (w.alloc (.cells #[.int .i64 (W : Int), .int .i64 (H : Int), .slice A n c] 59)).alloc (.cells #[.int .i64 0, .int .i64 0, .slice none 0 0] 59) = u at *
  refine (rearrJ_any W H n H W Hn.out hW hH hH hW A c f hc 62 #[] (fun x y => y) (fun x y => x) Eg.out u (HS.out.arg Hr.out) (fun x y hx hy => ⟨by omega, by omega⟩) (fun x y w' hx hy hbel => transposeJ1_any x y w')).mono ?_
  rintro e w2 ⟨v2, rfl, hO2, hB2⟩
  have S2 := HS.out.add hO2 hB2
  obtain ⟨A2, c2, rfl, _⟩ := hO2.slice
  obtain ⟨r0, r1, r2⟩ := S2.b0_3
  have f0 := S2.f0 0
  have f1 := S2.f0 1
  have f2 := S2.f0 2
  have HE := Lib.hid (S2.e0_3 (.int .i64 (H : Int)) (.int .i64 (W : Int)) (.slice A2 (img H W 1 (fun x y _ => f y x)).length c2))
  clear S2 HS hO2 hB2 Hr Eg
  go_wp2
  exact bodyPost_ret (v := .agg #[.int .i64 (H : Int), .int .i64 (W : Int), .slice A2 (img H W 1 (fun x y _ => f y x)).length c2]) (by simp [results, Try.results58, go_sem, r0, r1, r2]) rfl ⟨_, rfl, HE.out.2 _ (List.Mem.head _), HE.out.1⟩
end Go.Proofs.Ytcmjlpmdmejmaaa
