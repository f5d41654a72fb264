/- Contract of imageOf: the image of a grid of colors. -/
import Derived.Test.YtfeldhhbnhdodaaGridB
namespace Go.Proofs.Ytfeldhhbnhdodaa
open Go.RowKit Go.Shelf
set_option linter.unusedSimpArgs false
set_option linter.unusedVariables false

theorem rds_box {w : World} {c : Nat → Int} {P : Nat} (hP : P ≤ 4) : Rds .i64 (w.alloc (.cells #[.int .i64 (c 0), .int .i64 (c 1), .int .i64 (c 2), .int .i64 (c 3)] 66)) (w.heap.size + 1) (some ⟨w.heap.size, 0, none⟩) ((List.range P).map c) := by
  refine .inr ⟨w.heap.size, 0, rfl, by omega, fun j hj => ?_⟩
  simp at hj
  rw [Nat.zero_add, box_four w c j (by omega)]
  have e : ((List.range P).map c).getD j 0 = c j := by simp [hj]
  rw [e]
  have : j = 0 ∨ j = 1 ∨ j = 2 ∨ j = 3 := by omega
  rcases this with rfl | rfl | rfl | rfl <;> rfl
theorem img_four {W H k : Nat} (F : Nat → Nat → Nat → Int) (hk : k < W * H) {w : World} {b off : Nat} (hc : ∀ j, j < (img W H 4 F).length → w.cell? ⟨b, off + j, none⟩ = some (.int .i64 ((img W H 4 F).getD j 0))) :
    w.cell? ⟨b, off + k * 4, none⟩ = some (.int .i64 (F (k % W) (k / W) 0)) ∧ w.cell? ⟨b, off + k * 4 + 1, none⟩ = some (.int .i64 (F (k % W) (k / W) 1)) ∧ w.cell? ⟨b, off + k * 4 + 2, none⟩ = some (.int .i64 (F (k % W) (k / W) 2)) ∧ w.cell? ⟨b, off + k * 4 + 3, none⟩ = some (.int .i64 (F (k % W) (k / W) 3)) := by
  have hl := img_len W H 4 F
  refine ⟨?_, ?_, ?_, ?_⟩
  · have := hc (k * 4 + 0) (by omega); rw [img_at F hk (by omega)] at this; exact this
  · have := hc (k * 4 + 1) (by omega); rw [img_at F hk (by omega)] at this; exact this
  · have := hc (k * 4 + 2) (by omega); rw [img_at F hk (by omega)] at this; exact this
  · have := hc (k * 4 + 3) (by omega); rw [img_at F hk (by omega)] at this; exact this
theorem slice_col (P : Nat) (hP : P ≤ 4) (g : Nat) (W : World) : (Instr.sliceAt 66 (Value.pointer (some ⟨g, 0, none⟩)) none (some (Value.int .i64 (P : Int))) none).run Try.prog W = .ok (.slice (some ⟨g, 0, none⟩) P 4) W := by
  have h : P = 0 ∨ P = 1 ∨ P = 2 ∨ P = 3 ∨ P = 4 := by omega
  rcases h with rfl | rfl | rfl | rfl | rfl
  all_goals
    go_simp
theorem gb_facts {w w1 : World} {cs : Array Value} {T1 T2 : TypeId} {ds : Array Value} (hG : ((w.alloc (.cells cs T1)).alloc (.cells ds T2)).grownBy w1 none) :
    Bx w1 w.heap.size T1 cs ∧ Bx w1 (w.heap.size + 1) T2 ds ∧ Below w.heap.size w w1 ∧ w.heap.size + 2 ≤ w1.heap.size := by
  have hs := hG.size
  simp at hs
  refine ⟨?_, ?_, ?_, by omega⟩
  · exact (hG.block _ (by simp; omega) (by simp)).trans ((Bx.new w T1 cs).alloc _)
  · refine (hG.block _ (by simp) (by simp)).trans ?_
    have := heap_alloc_new (w.alloc (.cells cs T1)) (.cells ds T2)
    simpa using this
  · exact (((Below.refl w.heap.size w).alloc (Nat.le_refl _) _).alloc (by simp) _).grown hG (by simp; omega) (by simp)
theorem bx3 {w : World} {g : Nat} {T : TypeId} {a b c : Value} (h : Bx w g T #[a, b, c]) : w.cell? ⟨g, 0, none⟩ = some a ∧ w.cell? ⟨g, 1, none⟩ = some b ∧ w.cell? ⟨g, 2, none⟩ = some c :=
  ⟨cell_of_row w g 0 _ _ _ h, cell_of_row w g 1 _ _ _ h, cell_of_row w g 2 _ _ _ h⟩
theorem Bx.fz' {w : World} {g : Nat} {t : TypeId} {cs : Array Value} (h : Bx w g t cs) (i : Nat) : w.frozen? ⟨g, i, none⟩ = false := frozen_of_row w g i cs t h
theorem Bx.kept {w w' : World} {g : Nat} {t : TypeId} {cs : Array Value} (h : Bx w g t cs) {r : Option Nat} (hG : w.grownBy w' r) (hr : some g ≠ r) : Bx w' g t cs := (hG.block g h.lt hr).trans h
set_option maxRecDepth 20000 in
set_option maxHeartbeats 8000000 in
theorem imageOf_any (W H P : Nat) (hW : W ≤ 16) (hH : H ≤ 16) (hP : P ≤ 4) (A : Option Addr) (c : Nat) (F : Nat → Nat → Nat → Int) (w : World) (hr : Rds .i64 w w.heap.size A (img W H 4 F)) (hc : W * H ≤ c) :
    Calls Try.prog 42 #[.agg #[.int .i64 (W : Int), .int .i64 (H : Int), .slice A (W * H) c], .int .i64 (P : Int)] w (MadeI W H P (img W H P F) w) := by
  have hWH : W * H ≤ 256 := by have := Nat.mul_le_mul hW hH; omega
  have hN : W * H * P ≤ 1024 := by have := Nat.mul_le_mul hWH hP; omega
  generalize hn : W * H = n at hWH hN hc ⊢
  have Hn := Lib.hid hn
  have hnP : (n : Int) * (P : Int) = ((n * P : Nat) : Int) := by simp
  have hnn : 0 ≤ (n : Int) * (P : Int) := by rw [hnP]; omega
  have hnn2 : (n : Int) * (P : Int) ≤ 1024 := by rw [hnP]; omega
  have HnP := Lib.hid hnP
  obtain ⟨i, hi, hz, hsz, hb⟩ := info_parts info_int
  have Hi := Lib.hid hi
  have Hz := Lib.hid hz
  have Hs := Lib.hid hsz
  have Hb := Lib.hid hb
  have Hr := Lib.hid hr
  clear hi hz hsz hb hr hnP hn
  go_enter Try.func42, Try.ntmps42
  go_wp2_with (refine wpList_make_own _ rfl (.const (.int .i64 0)) (.tmp 12) 23 rfl (w.heap.size + 2) 3 i _ 1 Try.underlying23 Hi.out Hz.out Hs.out .i64 .i64 _ (n * P) rfl rfl HnP.out (by rw [Hb.out]; omega) (by unfold maxLen; omega) (by simp) ?_; intro w1 hO1 hG1; obtain ⟨hX1, hR1, hB1, hz1⟩ := gb_facts hG1; obtain ⟨g0, g1, g2⟩ := bx3 hX1)
  have H1 : Hid (Own w1 (w.heap.size + 2) (.slice (some ⟨w.heap.size + 2, 0, none⟩) 0 (n * P)) []) := Lib.hid (by unfold Own; simpa using hO1)
  have HX1 := Lib.hid hX1
  have HR1 := Lib.hid hR1
  have HB1 := Lib.hid hB1
  clear hO1 hG1 hX1 hR1 hB1 hnn hnn2 HnP Hi Hz Hs Hb g0 g1 g2
  go_loopw [5, 17] (fun v i wr => ∃ k : Nat, k ≤ n ∧ i = .int .i64 k ∧ Hid (Own wr (w.heap.size + 2) v (imgk W P F k) ∧ Bx wr w.heap.size 62 #[.int .i64 (W : Int), .int .i64 (H : Int), .slice A n c] ∧ Bx wr (w.heap.size + 1) 25 (imC 0 0 0 (.slice none 0 0)) ∧ Below w.heap.size w wr ∧ w.heap.size + 2 ≤ wr.heap.size)) (fun _ i _ => n - (intOf i).toNat)
  case atStart => exact ⟨0, Nat.zero_le _, rfl, Lib.hid ⟨by rw [imgk_zero]; exact H1.out, HX1.out, HR1.out, HB1.out, hz1⟩⟩
  case round =>
    obtain ⟨k, hk, rfl, hI⟩ := hrel
    obtain ⟨hO, hX, hR, hB, hz⟩ := hI.out
    obtain ⟨A1, c1, rfl, _⟩ := hO.slice
    by_cases hlt : k < n
    · obtain ⟨b, off, rfl, hb, hcl⟩ := (Hr.out.belowTo hB (Nat.le_refl _)).cells_ (j := 0) (by rw [img_len, Hn.out]; omega)
      obtain ⟨q0, q1, q2, q3⟩ := img_four F (by rw [Hn.out]; exact hlt) hcl
      have HO := Lib.hid (hO.alloc (.cells #[.int .i64 (F (k % W) (k / W) 0), .int .i64 (F (k % W) (k / W) 1), .int .i64 (F (k % W) (k / W) 2), .int .i64 (F (k % W) (k / W) 3)] 66))
      have HQ := Lib.hid (rds_box (w := wr) (c := F (k % W) (k / W)) hP)
      have HX := Lib.hid (hX.alloc (.cells #[.int .i64 (F (k % W) (k / W) 0), .int .i64 (F (k % W) (k / W) 1), .int .i64 (F (k % W) (k / W) 2), .int .i64 (F (k % W) (k / W) 3)] 66))
      have HR := Lib.hid (hR.alloc (.cells #[.int .i64 (F (k % W) (k / W) 0), .int .i64 (F (k % W) (k / W) 1), .int .i64 (F (k % W) (k / W) 2), .int .i64 (F (k % W) (k / W) 3)] 66))
      have HB := Lib.hid (hB.alloc (show w.heap.size ≤ wr.heap.size by omega) (.cells #[.int .i64 (F (k % W) (k / W) 0), .int .i64 (F (k % W) (k / W) 1), .int .i64 (F (k % W) (k / W) 2), .int .i64 (F (k % W) (k / W) 3)] 66))
      have hkl : (imgk W P F k).length ≤ 1024 := by rw [imgk_len]; have := Nat.mul_le_mul_right P hk; omega
      have hsl := slice_col P hP
      clear hO hX hR hB hcl hI
      go_wp2_with (at_builtin; refine wpList_app rfl (.tmp 21) (.tmp 23) rfl (w.heap.size + 2) (.slice A1 (imgk W P F k).length c1) (imgk W P F k) rfl HO.out (some ⟨wr.heap.size, 0, none⟩) P 4 _ ((List.range P).map (F (k % W) (k / W))) rfl (by simp) HQ.out (by simp; omega) (by simp; omega) ?_; intro v3 w3 hO3 hG3)
      have HN : Hid (Own w3 (w.heap.size + 2) v3 (imgk W P F (k + 1)) ∧ Bx w3 w.heap.size 62 #[.int .i64 (W : Int), .int .i64 (H : Int), .slice (some ⟨b, off, none⟩) n c] ∧ Bx w3 (w.heap.size + 1) 25 (imC 0 0 0 (.slice none 0 0)) ∧ Below w.heap.size w w3 ∧ w.heap.size + 2 ≤ w3.heap.size) := Lib.hid ⟨by rw [imgk_next]; exact hO3,
        HX.out.kept hG3 (fun e => by have := (HO.out.lt _ e.symm).1; omega), HR.out.kept hG3 (fun e => by have := (HO.out.lt _ e.symm).1; omega),
        HB.out.grown hG3 (by simp; omega) (fun k' hk' => by have := (HO.out.lt k' hk').1; omega), by have := hG3.size; simp at this; omega⟩
      clear hO3 hG3 HO HQ HX HR HB hsl q0 q1 q2 q3
      go_roundw
      case rel => exact ⟨k + 1, by omega, by go_num, HN⟩
      case measure => simp [intOf]; omega
    · have hkn : k = n := by omega
      subst hkn
      obtain ⟨g0, g1, g2⟩ := bx3 hX
      obtain ⟨r0, r1, r2, r3⟩ := hR.im
      have f0 := hR.fz' 0
      have f1 := hR.fz' 1
      have f2 := hR.fz' 2
      have f3 := hR.fz' 3
      have HB := Lib.hid hB
      have hle := imgk_len W P F k
      have HE : Hid (∀ u0 u1 u2 u3 : Value, Own ((((wr.setCell ⟨w.heap.size + 1, 0, none⟩ u0).setCell ⟨w.heap.size + 1, 1, none⟩ u1).setCell ⟨w.heap.size + 1, 2, none⟩ u2).setCell ⟨w.heap.size + 1, 3, none⟩ u3) w.heap.size (.slice A1 (imgk W P F k).length c1) (img W H P F)) := Lib.hid fun u0 u1 u2 u3 => by
        rw [← imgk_all W H P F, Hn.out]
        exact ((((hO.setB (by simp) u0).setB (by simp) u1).setB (by simp) u2).setB (by simp) u3).base_le (by omega)
      clear hO hX hR hB hI hle
      go_wp2
      exact bodyPost_ret (v := .agg #[.int .i64 (W : Int), .int .i64 (H : Int), .int .i64 (P : Int), .slice A1 (imgk W P F k).length c1]) (by simp [results, Try.results42, go_sem, r0, r1, r2, r3]) rfl ⟨_, rfl, HE.out _ _ _ _, by (repeat' (first | (exact HB.out) | (refine Below.setCell ?_ (by first | omega | (simp; done) | (simp; omega)) _) | (refine below_dn ?_ _) | (refine Below.drew ?_) | (refine Below.alloc ?_ (by first | omega | (simp; done) | (simp; omega)) _) | (exact Below.refl _ _)))⟩
end Go.Proofs.Ytfeldhhbnhdodaa
