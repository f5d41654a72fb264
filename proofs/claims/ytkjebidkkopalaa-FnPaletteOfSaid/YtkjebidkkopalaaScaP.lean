/- Planes of an image, each of them changed. -/
import Derived.Test.YtkjebidkkopalaaScaJ
import Derived.Test.YtkjebidkkopalaaGridC
namespace Go.Proofs.Ytkjebidkkopalaa
open Go.RowKit Go.Shelf
set_option linter.unusedSimpArgs false
set_option linter.unusedVariables false
set_option maxRecDepth 20000

set_option maxHeartbeats 4000000 in
theorem iPl1_any (W H P p : Nat) (hW : W ≤ 16) (hH : H ≤ 16) (hP : P ≤ 4) (hp : p < P) (A : Option Addr) (c : Nat) (xs : List Int) (hl : xs.length = W * H * P) (x y : Nat) (hx : x < W) (hy : y < H) (pm pp : Nat) (w : World) (hr : Rds .i64 w w.heap.size A xs)
    (h1 : Bx w pm 25 #[.int .i64 (W : Int), .int .i64 (H : Int), .int .i64 (P : Int), .slice A xs.length c]) (h2 : Bx w pp 3 #[.int .i64 (p : Int)]) :
    Calls Try.prog 85 (#[.int .i64 (x : Int), .int .i64 (y : Int)] ++ #[.pointer (some ⟨pm, 0, none⟩), .pointer (some ⟨pp, 0, none⟩)]) w fun e w' => e = .returned (.int .i64 (px W P xs x y p)) ∧ Below w.heap.size w w' := by
  obtain ⟨m0, m1, m2, m3⟩ := bx4 h1
  have p0 := bx1 h2
  have hlt := row_lt hx hy
  have hWH : W * H ≤ 256 := by have := Nat.mul_le_mul hW hH; omega
  obtain ⟨q1, e1⟩ : ∃ q, q = y * W := ⟨_, rfl⟩
  obtain ⟨q2, e2⟩ : ∃ q, q = q1 + x := ⟨_, rfl⟩
  obtain ⟨q3, e3⟩ : ∃ q, q = q2 * P := ⟨_, rfl⟩
  obtain ⟨k, e4⟩ : ∃ k, k = q3 + p := ⟨_, rfl⟩
  have hq2 : q2 < W * H := by rw [e2, e1]; exact hlt
  have hk : k < xs.length := by
    rw [hl, e4, e3]
    have := Nat.mul_le_mul_right P (show q2 + 1 ≤ W * H from hq2)
    rw [Nat.add_mul, Nat.one_mul] at this
    omega
  have hx1024 : xs.length ≤ 1024 := by rw [hl]; have := Nat.mul_le_mul hWH hP; omega
  obtain ⟨b, off, rfl, hb, hcc⟩ := hr.cells_ hk
  have hck := hcc k hk
  have ep : px W P xs x y p = xs.getD k 0 := by unfold px pix; rw [e4, e3, e2, e1]
  rw [ep]
  have i1 : (y : Int) * (W : Int) = (q1 : Int) := by rw [e1]; simp
  have i2 : (q1 : Int) + (x : Int) = (q2 : Int) := by rw [e2]; simp
  have i3 : (q2 : Int) * (P : Int) = (q3 : Int) := by rw [e3]; simp
  have i4 : (q3 : Int) + (p : Int) = (k : Int) := by rw [e4]; simp
  have b1 : q1 ≤ 2000 := by omega
  have b3 : q3 ≤ 2000 := by omega
  have w1 : IntKind.i64.wrap (q1 : Int) = (q1 : Int) := IntWalk.i64_in _ (by omega)
  have w2 : IntKind.i64.wrap (q2 : Int) = (q2 : Int) := IntWalk.i64_in _ (by omega)
  have w3 : IntKind.i64.wrap (q3 : Int) = (q3 : Int) := IntWalk.i64_in _ (by omega)
  have w4 : IntKind.i64.wrap (k : Int) = (k : Int) := IntWalk.i64_in _ (by omega)
  have hkI : (k : Int) < (xs.length : Int) := by omega
  generalize xs.getD k 0 = z at *
  clear hcc hr e1 e2 e3 e4 hq2 ep h1 h2 hlt
  show Calls Try.prog 85 #[.int .i64 (x : Int), .int .i64 (y : Int), .pointer (some ⟨pm, 0, none⟩), .pointer (some ⟨pp, 0, none⟩)] w _
  go_enter Try.func85, Try.ntmps85
  go_wp2
  go_ret
  exact ⟨rfl, Below.refl _ _⟩
set_option maxHeartbeats 4000000 in
theorem iPlane_any (W H P p : Nat) (hW : W ≤ 16) (hH : H ≤ 16) (hP : P ≤ 4) (hp : p < P) (A : Option Addr) (c : Nat) (xs : List Int) (hl : xs.length = W * H * P) (w : World) (hr : Rds .i64 w w.heap.size A xs) :
    Calls Try.prog 54 #[.agg #[.int .i64 (W : Int), .int .i64 (H : Int), .int .i64 (P : Int), .slice A xs.length c], .int .i64 (p : Int)] w (GridI W H (fun x y => px W P xs x y p) w) := by
  have Hr := Lib.hid hr
  have Hl := Lib.hid hl
  have Eg : Hid (∀ args w, (callFunc 85 args).run Try.prog w = .ok (.enter 85 args) w) := Lib.hid (enters_of Try.func85 (by kernel_rfl) rfl)
  have S0 : GS w (((w.alloc (.cells #[.int .i64 (W : Int), .int .i64 (H : Int), .int .i64 (P : Int), .slice A xs.length c] 25)).alloc (.cells #[.int .i64 (p : Int)] 3)).alloc (.cells #[.int .i64 0, .int .i64 0, .slice none 0 0] 74)) [] [⟨w.heap.size + 2, 74, #[.int .i64 0, .int .i64 0, .slice none 0 0]⟩, ⟨w.heap.size + 1, 3, #[.int .i64 (p : Int)]⟩, ⟨w.heap.size, 25, #[.int .i64 (W : Int), .int .i64 (H : Int), .int .i64 (P : Int), .slice A xs.length c]⟩] :=
    GS.box' (GS.box' (GS.box' (GS.start w) _ _ w.heap.size (by simp)) _ _ (w.heap.size + 1) (by simp)) _ _ (w.heap.size + 2) (by simp)
  have HS := Lib.hid S0
  clear hr hl S0
  go_enter Try.func54, Try.ntmps54
  go_wp2_with fail
  generalize ((w.alloc (.cells #[.int .i64 (W : Int), .int .i64 (H : Int), .int .i64 (P : Int), .slice A xs.length c] 25)).alloc (.cells #[.int .i64 (p : Int)] 3)).alloc (.cells #[.int .i64 0, .int .i64 0, .slice none 0 0] 74) = u at *
  refine (buildN_any W H hW hH 85 #[.pointer (some ⟨w.heap.size, 0, none⟩), .pointer (some ⟨w.heap.size + 1, 0, none⟩)] (fun x y => px W P xs x y p) u Eg.out (fun x y w' hx hy hbel =>
    iPl1_any W H P p hW hH hP hp A c xs Hl.out x y hx hy w.heap.size (w.heap.size + 1) w' ((HS.out.call hbel).arg Hr.out) ((HS.out.call hbel).bx (by simp)) ((HS.out.call hbel).bx (by simp)))).mono ?_
  rintro e w2 ⟨v2, rfl, hO2, hB2⟩
  have S2 := HS.out.add hO2 hB2
  obtain ⟨A2, c2, rfl, _⟩ := hO2.slice
  obtain ⟨r0, r1, r2⟩ := S2.b0_3
  have f0 := S2.f0 0
  have f1 := S2.f0 1
  have f2 := S2.f0 2
  have HE := Lib.hid (S2.e0_3 (.int .i64 (W : Int)) (.int .i64 (H : Int)) (.slice A2 (img W H 1 (fun x y _ => px W P xs x y p)).length c2))
  clear S2 HS hO2 hB2 Hr Eg
  go_wp2
  exact bodyPost_ret (v := .agg #[.int .i64 (W : Int), .int .i64 (H : Int), .slice A2 (img W H 1 (fun x y _ => px W P xs x y p)).length c2]) (by simp [results, Try.results54, go_sem, r0, r1, r2]) rfl ⟨_, rfl, HE.out.2 _ (List.Mem.head _), HE.out.1⟩
end Go.Proofs.Ytkjebidkkopalaa
