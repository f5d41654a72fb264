/- Contracts of the loops of the model over all pixels: mirror and transpose. -/
import Derived.Test.YtolifmgkkkclkaaSpecP
import Derived.Test.YtolifmgkkkclkaaGridF
import Derived.Test.YtolifmgkkkclkaaImgB
namespace Go.Proofs.Ytolifmgkkkclkaa
open Go.RowKit
set_option linter.unusedSimpArgs false
set_option linter.unusedVariables false

theorem keep4g {W W' : World} {g r : Nat} {u0 u1 u2 u3 : Option Value} (hG : W.grownBy W' (some r)) (hg : g < W.heap.size) (hne : g ≠ r) (c0 : W.cell? ⟨g, 0, none⟩ = u0) (c1 : W.cell? ⟨g, 1, none⟩ = u1) (c2 : W.cell? ⟨g, 2, none⟩ = u2) (c3 : W.cell? ⟨g, 3, none⟩ = u3) :
    W'.cell? ⟨g, 0, none⟩ = u0 ∧ W'.cell? ⟨g, 1, none⟩ = u1 ∧ W'.cell? ⟨g, 2, none⟩ = u2 ∧ W'.cell? ⟨g, 3, none⟩ = u3 :=
  ⟨(World.cell?_of_block (hG.block g hg (by simpa using hne))).trans c0, (World.cell?_of_block (hG.block g hg (by simpa using hne))).trans c1, (World.cell?_of_block (hG.block g hg (by simpa using hne))).trans c2, (World.cell?_of_block (hG.block g hg (by simpa using hne))).trans c3⟩
theorem own_zeros {w1 : World} {n g : Nat} {e : TypeId} {base : Nat} (h : w1.ownsRow base e 1 (.slice (some ⟨g, 0, none⟩) n n) n (madeCells (Value.int .i64 0).cells (n * 1)).toList) : w1.ownsRow base e 1 (.slice (some ⟨g, 0, none⟩) n n) (zeros n).length ((zeros n).map (.int .i64)) := by
  have e1 : (madeCells (Value.int .i64 0).cells (n * 1)).toList = (zeros n).map (.int .i64) := by
    rw [show (Value.int .i64 0).cells = #[Value.int .i64 0] from rfl, toList_madeCells_one]
    simp [zeros]
  rw [e1] at h
  simpa [zeros] using h
set_option maxRecDepth 20000 in
set_option maxHeartbeats 4000000 in
theorem newImage_any (W H P : Nat) (hW : W ≤ 16) (hH : H ≤ 16) (hP : P ≤ 4) (w : World) :
    Calls Try.prog 57 #[.int .i64 (W : Int), .int .i64 (H : Int), .int .i64 (P : Int)] w (MadeI W H P (zeros (W * H * P)) w) := by
  have hWH : W * H ≤ 256 := by have := Nat.mul_le_mul hW hH; omega
  have hN : W * H * P ≤ 1024 := by have := Nat.mul_le_mul hWH hP; omega
  have i1 : 0 ≤ (W : Int) * (H : Int) ∧ (W : Int) * (H : Int) ≤ 256 := by rw [← Int.natCast_mul]; omega
  have i2 : 0 ≤ (W : Int) * (H : Int) * (P : Int) ∧ (W : Int) * (H : Int) * (P : Int) ≤ 1024 := by rw [← Int.natCast_mul, ← Int.natCast_mul]; omega
  obtain ⟨i1, i1'⟩ := i1
  obtain ⟨i2, i2'⟩ := i2
  have hNi : (W : Int) * (H : Int) * (P : Int) = ((W * H * P : Nat) : Int) := by simp
  have HNi := Lib.hid hNi
  obtain ⟨i, hi, hz, hsz, hb⟩ := info_parts info_int
  have Hi := Lib.hid hi
  have Hz := Lib.hid hz
  have Hs := Lib.hid hsz
  have Hb := Lib.hid hb
  clear hi hz hsz hb hNi
  generalize W * H * P = n at *
  go_enter Try.func57, Try.ntmps57
  go_wp2_with (refine wpList_make_full _ rfl (.tmp 14) (.tmp 14) 23 rfl (w.heap.size + 1) 3 i _ 1 Try.underlying23 Hi.out Hz.out Hs.out .i64 .i64 _ _ n rfl rfl HNi.out HNi.out (by rw [Hb.out]; omega) (by unfold maxLen; omega) (by simp) ?_; intro w1 hO1 hG1; have hR1 : Bx w1 w.heap.size 25 (imC 0 0 0 (.slice none 0 0)) := (hG1.block _ (by simp) (by simp)).trans (heap_alloc_new w _); obtain ⟨r0, r1, r2, r3⟩ := hR1.im; have f0 := hR1.fz 0; have f1 := hR1.fz 1; have f2 := hR1.fz 2; have f3 := hR1.fz 3; have HO1 : Hid (Own w1 (w.heap.size + 1) (.slice (some ⟨w.heap.size + 1, 0, none⟩) n n) (zeros n)) := Lib.hid (by have h := own_zeros hO1; unfold Own; simpa using h); have HB1 : Hid (Below w.heap.size w w1) := Lib.hid (((Below.refl w.heap.size w).alloc (Nat.le_refl _) _).grown hG1 (by simp) (by simp)); clear hO1 hG1 hR1 Hi Hz Hs Hb HNi)
  have HE := Lib.hid (im_end (w := w) (r := w.heap.size) (base := w.heap.size + 1) HO1.out (by omega) (Nat.le_refl _) HB1.out (.int .i64 (W : Int)) (.int .i64 (H : Int)) (.int .i64 (P : Int)) (.slice (some ⟨w.heap.size + 1, 0, none⟩) n n))
  exact bodyPost_ret (v := .agg #[.int .i64 (W : Int), .int .i64 (H : Int), .int .i64 (P : Int), .slice (some ⟨w.heap.size + 1, 0, none⟩) n n]) (by simp [results, Try.results57, go_sem, r0, r1, r2, r3]) rfl ⟨_, rfl, HE.out.1, HE.out.2⟩
end Go.Proofs.Ytolifmgkkkclkaa
