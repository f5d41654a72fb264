/- Contracts of grids of colors that are mirrored, turned and transposed. -/
import Derived.Test.YtfeldhhbnhdodaaGridD
import Derived.Deep.QuietTactic
import Derived.BigQuiet
import Derived.IntWalk
namespace Go.Proofs.Ytfeldhhbnhdodaa
open Go.RowKit Go.Shelf
set_option linter.unusedSimpArgs false
set_option linter.unusedVariables false

set_option maxHeartbeats 8000000 in
theorem rearr_any (W H W2 H2 : Nat) (hW : W ≤ 16) (hH : H ≤ 16) (hW2 : W2 ≤ 16) (hH2 : H2 ≤ 16) (A : Option Addr) (c n : Nat) (hn : W * H = n) (F : Nat → Nat → Nat → Int) (hc : n ≤ c) (fg : Nat) (fcs : Array Value) (sx sy : Nat → Nat → Nat)
    (eg : ∀ args w, (callFunc fg args).run Try.prog w = .ok (.enter fg args) w) (w : World) (hr : Rds .i64 w w.heap.size A (img W H 4 F)) (hs : ∀ x y, x < W2 → y < H2 → sx x y < W ∧ sy x y < H)
    (hfrom : ∀ (x y : Nat) (w' : World), x < W2 → y < H2 → Below w.heap.size w w' → Calls Try.prog fg (#[.int .i64 (x : Int), .int .i64 (y : Int)] ++ fcs) w' fun e w'' => e = .returned (.tuple #[.int .i64 (sx x y : Int), .int .i64 (sy x y : Int)]) ∧ Below w'.heap.size w' w'') :
    Calls Try.prog 61 #[.agg #[.int .i64 (W : Int), .int .i64 (H : Int), .slice A n c], .int .i64 (W2 : Int), .int .i64 (H2 : Int), .func (.func fg) #[] fcs] w (GridC W2 H2 (fun x y => F (sx x y) (sy x y)) w) := by
  subst hn
  have Hr := Lib.hid hr
  have HF := Lib.hid hfrom
  have Hs := Lib.hid hs
  have HEg := Lib.hid eg
  have Eg : Hid (∀ args w, (callFunc 64 args).run Try.prog w = .ok (.enter 64 args) w) := Lib.hid (enters_of Try.func64 (by kernel_rfl) rfl)
  obtain ⟨u, hu⟩ : ∃ u, u = ((w.alloc (.cells #[.int .i64 (W : Int), .int .i64 (H : Int), .slice A (W * H) c] 62)).alloc (.cells #[.func (.func fg) #[] fcs] 85)).alloc (.cells #[.int .i64 0, .int .i64 0, .slice none 0 0] 62) := ⟨_, rfl⟩
  have hz : u.heap.size = w.heap.size + 3 := by rw [hu]; simp
  have HG : Hid (Bx u w.heap.size 62 #[.int .i64 (W : Int), .int .i64 (H : Int), .slice A (W * H) c]) := Lib.hid (by rw [hu]; exact ((Bx.new w _ _).alloc _).alloc _)
  have HFn : Hid (Bx u (w.heap.size + 1) 85 #[.func (.func fg) #[] fcs]) := Lib.hid (by
    rw [hu]
    have := (Bx.new (w.alloc (.cells #[.int .i64 (W : Int), .int .i64 (H : Int), .slice A (W * H) c] 62)) 85 #[.func (.func fg) #[] fcs]).alloc (.cells #[.int .i64 0, .int .i64 0, .slice none 0 0] 62)
    simpa using this)
  have HX : Hid (Bx u (w.heap.size + 2) 62 #[.int .i64 0, .int .i64 0, .slice none 0 0]) := Lib.hid (by
    rw [hu]
    have := Bx.new ((w.alloc (.cells #[.int .i64 (W : Int), .int .i64 (H : Int), .slice A (W * H) c] 62)).alloc (.cells #[.func (.func fg) #[] fcs] 85)) 62 #[.int .i64 0, .int .i64 0, .slice none 0 0]
    simpa using this)
  have HB : Hid (Below w.heap.size w u) := Lib.hid (by rw [hu]; exact (((Below.refl w.heap.size w).alloc (Nat.le_refl _) _).alloc (by simp) _).alloc (by simp; omega) _)
  have Hz := Lib.hid hz
  have HU := Lib.hid hu
  clear hr hfrom hs eg hz hu
  go_enter Try.func61, Try.ntmps61
  go_wp2_with fail
  rw [← HU.out]
  clear HU
  refine (build_any W2 H2 hW2 hH2 64 #[.pointer (some ⟨w.heap.size, 0, none⟩), .pointer (some ⟨w.heap.size + 1, 0, none⟩)] (fun x y => F (sx x y) (sy x y)) u Eg.out (fun x y w' hx hy hbel =>
    rearr1_any W H hW hH A c F hc fg fcs HEg.out x y (sx x y) (sy x y) (Hs.out x y hx hy).1 (Hs.out x y hx hy).2 w.heap.size (w.heap.size + 1) w' (((Hr.out.below HB.out).belowTo hbel (by have := Hz.out; omega)).more (by have := hbel.size; have := Hz.out; omega)) (HG.out.below hbel) (HFn.out.below hbel)
      (fun w'' hb'' => HF.out x y w'' hx hy (HB.out.trans ((hbel.mono (by have := Hz.out; omega)).trans (hb''.mono (by have := hbel.size; have := Hz.out; omega))))))).mono ?_
  rintro e w2 ⟨v2, rfl, hO2, hB2⟩
  obtain ⟨A2, c2, rfl, _⟩ := hO2.slice
  have hX2 := HX.out.below hB2
  obtain ⟨r0, r1, r2⟩ := bx3 hX2
  have f0 := hX2.fz' 0
  have f1 := hX2.fz' 1
  have f2 := hX2.fz' 2
  have HB2 : Hid (Below w.heap.size w w2) := Lib.hid (HB.out.trans (hB2.mono (by have := Hz.out; omega)))
  have HE : Hid (∀ u0 u1 u2 : Value, OwnC (((w2.setCell ⟨w.heap.size + 2, 0, none⟩ u0).setCell ⟨w.heap.size + 2, 1, none⟩ u1).setCell ⟨w.heap.size + 2, 2, none⟩ u2) w.heap.size (.slice A2 (W2 * H2) c2) (W2 * H2) (img W2 H2 4 (fun x y => F (sx x y) (sy x y)))) := Lib.hid fun u0 u1 u2 =>
    ((hO2.setB (by have := Hz.out; show _ < _; simp; omega) u0).setB (by have := Hz.out; show _ < _; simp; omega) u1).setB (by have := Hz.out; show _ < _; simp; omega) u2 |>.base_le (by have := Hz.out; omega)
  clear hX2 hO2 hB2 HX HG HFn HB Hr HF Hs HEg Eg
  go_wp2
  exact bodyPost_ret (v := .agg #[.int .i64 (W2 : Int), .int .i64 (H2 : Int), .slice A2 (W2 * H2) c2]) (by simp [results, Try.results61, go_sem, r0, r1, r2]) rfl ⟨_, rfl, HE.out _ _ _, by (repeat' (first | (exact HB2.out) | (refine Below.setCell ?_ (by first | omega | (simp; done) | (simp; omega)) _) | (refine below_dn ?_ _) | (refine Below.drew ?_) | (refine Below.alloc ?_ (by first | omega | (simp; done) | (simp; omega)) _) | (exact Below.refl _ _)))⟩
set_option maxHeartbeats 1000000 in
theorem turn1_any (W H : Nat) (hH : H ≤ 16) (v : Value) (x y pg : Nat) (hx : x < H) (w : World) (hg : Bx w pg 62 #[.int .i64 (W : Int), .int .i64 (H : Int), v]) :
    Calls Try.prog 62 #[.int .i64 (x : Int), .int .i64 (y : Int), .pointer (some ⟨pg, 0, none⟩)] w fun e w' => e = .returned (.tuple #[.int .i64 (y : Int), .int .i64 ((H - 1 - x : Nat) : Int)]) ∧ Below w.heap.size w w' := by
  obtain ⟨g0, g1, g2⟩ := bx3 hg
  have Hi := Lib.hid (show (H : Int) - 1 - (x : Int) = ((H - 1 - x : Nat) : Int) by omega)
  have rw1 : IntKind.i64.wrap ((H : Int) - 1) = (H : Int) - 1 := IntWalk.i64_in _ (by omega)
  have rw2 : IntKind.i64.wrap ((H : Int) - 1 - (x : Int)) = (H : Int) - 1 - (x : Int) := IntWalk.i64_in _ (by omega)
  clear hg
  go_enter Try.func62, Try.ntmps62
  go_wp2
  go_quiet (fail)
  go_wp2
  go_ret2
  exact ⟨by rw [← Hi.out]; rfl, below_dn (Below.refl _ _) _⟩
set_option maxHeartbeats 8000000 in
theorem turnRight_any (W H : Nat) (hW : W ≤ 16) (hH : H ≤ 16) (A : Option Addr) (c n : Nat) (hn : W * H = n) (F : Nat → Nat → Nat → Int) (hc : n ≤ c) (w : World) (hr : Rds .i64 w w.heap.size A (img W H 4 F)) :
    Calls Try.prog 41 #[.agg #[.int .i64 (W : Int), .int .i64 (H : Int), .slice A n c]] w (GridC H W (fun x y => F (y) (H - 1 - x)) w) := by
  have Hr := Lib.hid hr
  have Hn := Lib.hid hn
  have Eg : Hid (∀ args w, (callFunc 62 args).run Try.prog w = .ok (.enter 62 args) w) := Lib.hid (enters_of Try.func62 (by kernel_rfl) rfl)
  obtain ⟨u, hu⟩ : ∃ u, u = (w.alloc (.cells #[.int .i64 (W : Int), .int .i64 (H : Int), .slice A n c] 62)).alloc (.cells #[.int .i64 0, .int .i64 0, .slice none 0 0] 62) := ⟨_, rfl⟩
  have hz : u.heap.size = w.heap.size + 2 := by rw [hu]; simp
  have HG : Hid (Bx u w.heap.size 62 #[.int .i64 (W : Int), .int .i64 (H : Int), .slice A n c]) := Lib.hid (by rw [hu]; exact (Bx.new w _ _).alloc _)
  have HX : Hid (Bx u (w.heap.size + 1) 62 #[.int .i64 0, .int .i64 0, .slice none 0 0]) := Lib.hid (by
    rw [hu]
    have := Bx.new (w.alloc (.cells #[.int .i64 (W : Int), .int .i64 (H : Int), .slice A n c] 62)) 62 #[.int .i64 0, .int .i64 0, .slice none 0 0]
    simpa using this)
  have HB : Hid (Below w.heap.size w u) := Lib.hid (by rw [hu]; exact ((Below.refl w.heap.size w).alloc (Nat.le_refl _) _).alloc (by simp) _)
  have Hz := Lib.hid hz
  have HU := Lib.hid hu
  clear hr hn hz hu
  go_enter Try.func41, Try.ntmps41
  go_wp2_with fail
  rw [← HU.out]
  clear HU
  refine (rearr_any W H H W hW hH (by omega) (by omega) A c n Hn.out F hc 62 #[.pointer (some ⟨w.heap.size, 0, none⟩)] (fun x y => y) (fun x y => H - 1 - x) Eg.out u ((Hr.out.below HB.out).more (by have := Hz.out; omega)) (fun x y hx hy => ⟨by omega, by omega⟩) (fun x y w' hx hy hbel => turn1_any W H hH _ x y w.heap.size hx w' (HG.out.below hbel))).mono ?_
  rintro e w2 ⟨v2, rfl, hO2, hB2⟩
  obtain ⟨A2, c2, rfl, _⟩ := hO2.slice
  have hX2 := HX.out.below hB2
  obtain ⟨r0, r1, r2⟩ := bx3 hX2
  have f0 := hX2.fz' 0
  have f1 := hX2.fz' 1
  have f2 := hX2.fz' 2
  have HB2 : Hid (Below w.heap.size w w2) := Lib.hid (HB.out.trans (hB2.mono (by have := Hz.out; omega)))
  have HE : Hid (∀ u0 u1 u2 : Value, OwnC (((w2.setCell ⟨w.heap.size + 1, 0, none⟩ u0).setCell ⟨w.heap.size + 1, 1, none⟩ u1).setCell ⟨w.heap.size + 1, 2, none⟩ u2) w.heap.size (.slice A2 (H * W) c2) (H * W) (img H W 4 (fun x y => F (y) (H - 1 - x)))) := Lib.hid fun u0 u1 u2 =>
    ((hO2.setB (by have := Hz.out; show _ < _; simp; omega) u0).setB (by have := Hz.out; show _ < _; simp; omega) u1).setB (by have := Hz.out; show _ < _; simp; omega) u2 |>.base_le (by have := Hz.out; omega)
  clear hX2 hO2 hB2 HX HG HB Hr Eg
  go_wp2
  exact bodyPost_ret (v := .agg #[.int .i64 (H : Int), .int .i64 (W : Int), .slice A2 (H * W) c2]) (by simp [results, Try.results41, go_sem, r0, r1, r2]) rfl ⟨_, rfl, HE.out _ _ _, by (repeat' (first | (exact HB2.out) | (refine Below.setCell ?_ (by first | omega | (simp; done) | (simp; omega)) _) | (refine below_dn ?_ _) | (refine Below.drew ?_) | (refine Below.alloc ?_ (by first | omega | (simp; done) | (simp; omega)) _) | (exact Below.refl _ _)))⟩
end Go.Proofs.Ytfeldhhbnhdodaa
