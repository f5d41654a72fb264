/- Contracts of the drawing of images. -/
import Derived.Test.YtolifmgkkkclkaaSpoil
import Derived.Test.YtolifmgkkkclkaaSpecM
namespace Go.Proofs.Ytolifmgkkkclkaa
open Go.RowKit
set_option linter.unusedSimpArgs false
set_option linter.unusedVariables false

/-- A random image: a row of its own, made since w. -/
def RandIm (P : Nat) (g N : Nat) (w : World) (e : Ending) (w' : World) : Prop :=
  ∃ (W H : Nat) (gb c : Nat) (xs : List Int), e = .returned (.agg #[.int .i64 (W : Int), .int .i64 (H : Int), .int .i64 (P : Int), .slice (some ⟨gb, 0, none⟩) xs.length c]) ∧ 1 ≤ W ∧ W ≤ 8 ∧ 1 ≤ H ∧ H ≤ 8 ∧ xs.length = W * H * P ∧ Own w' w.heap.size (.slice (some ⟨gb, 0, none⟩) xs.length c) xs ∧ Rdr w' g N ∧ w.grownBy w' (some g)
theorem one_litB (cs : Array Value) (xs : List Int) (n c p : Nat) (g N : Nat) (w : World) (hp : p = w.heap.size) (h : Rdr w g N) (hN : N ≤ 1000000000) (hx : 0 < xs.length) (hl : xs.length ≤ 1000) (hn : n = xs.length) (hcs : cs.toList = xs.map (.int .i64)) :
    Calls Try.prog 35 #[.pointer (some ⟨g, 0, none⟩), .slice (some ⟨p, 0, none⟩) n c] (w.alloc (.cells cs 3)) fun e w' => ∃ k : Int, e = .returned (.int .i64 k) ∧ k ∈ xs ∧ Rdr w' g (N + 1) ∧ w.grownBy w' (some g) := by
  subst hp
  exact one_lit cs xs n c g N w h hN hx hl hn hcs
theorem bx_gr {w w' : World} {b : Nat} {T : TypeId} {cs : Array Value} {g : Nat} (h : Bx w b T cs) (hG : w.grownBy w' (some g)) (hne : b ≠ g) : Bx w' b T cs := h.kept hG (by simpa using hne)
set_option maxRecDepth 100000 in
set_option maxHeartbeats 16000000 in
theorem randomImage_any (P : Nat) (hP1 : 1 ≤ P) (hP4 : P ≤ 4) (g N : Nat) (w : World) (h : Rdr w g N) (hN : N ≤ 10000000) :
    Calls Try.prog 43 #[.pointer (some ⟨g, 0, none⟩), .int .i64 (P : Int)] w (RandIm P g (N + 300) w) := by
  have hgl := h.lt
  obtain ⟨u0, hu⟩ : ∃ u0, u0 = w.alloc (.cells #[.int .i64 0, .int .i64 0, .int .i64 0, .slice none 0 0] 25) := ⟨_, rfl⟩
  have hz : u0.heap.size = w.heap.size + 1 := by rw [hu]; simp
  have HX0 : Hid (Bx u0 w.heap.size 25 (imC 0 0 0 (.slice none 0 0))) := Lib.hid (by rw [hu]; exact Bx.new w _ _)
  have HR0 : Hid (Rdr u0 g N) := Lib.hid (by rw [hu]; exact h.alloc _)
  have HG0 : Hid (w.grownBy u0 (some g)) := Lib.hid (by rw [hu]; exact World.grownBy_alloc w _ _)
  have Hz := Lib.hid hz
  have HU := Lib.hid hu
  clear h hu hz
  go_enter Try.func43, Try.ntmps43
  go_wp2_with fail
  rw [← HU.out]
  clear HU
  refine (one_litB _ [3, 4, 2, 5, 1, 8, 6] 7 7 _ g N u0 (by rw [Hz.out]) HR0.out (by omega) (by simp) (by simp) rfl rfl).mono ?_
  rintro e u1 ⟨W', rfl, hW', hR1, hG1⟩
  have hWb : 1 ≤ W' ∧ W' ≤ 8 := by simp at hW'; omega
  obtain ⟨W, rfl⟩ := Int.eq_ofNat_of_zero_le (show 0 ≤ W' by omega)
  have hW1 : 1 ≤ W := by omega
  have hW8 : W ≤ 8 := by omega
  have HX1 := Lib.hid (bx_gr HX0.out hG1 (by omega))
  have HG1 := Lib.hid (gtrans HG0.out hG1)
  have hz1 := hG1.size
  have Hz1 := Lib.hid (show w.heap.size + 1 ≤ u1.heap.size by have := Hz.out; omega)
  clear hW' hWb hG1 hz1 HX0 HG0 HR0 Hz
  go_wp2_with fail
  refine (one_litB _ [3, 2, 4, 1, 5, 8] 6 6 _ g (N + 1) u1 rfl hR1 (by omega) (by simp) (by simp) rfl rfl).mono ?_
  rintro e u2 ⟨H', rfl, hH', hR2, hG2⟩
  have hHb : 1 ≤ H' ∧ H' ≤ 8 := by simp at hH'; omega
  obtain ⟨H, rfl⟩ := Int.eq_ofNat_of_zero_le (show 0 ≤ H' by omega)
  have hH1 : 1 ≤ H := by omega
  have hH8 : H ≤ 8 := by omega
  have HX2 := Lib.hid (bx_gr HX1.out hG2 (by omega))
  have HG2 := Lib.hid (gtrans HG1.out hG2)
  have hz2 := hG2.size
  have Hz2 := Lib.hid (show w.heap.size + 1 ≤ u2.heap.size by have := Hz1.out; omega)
  clear hH' hHb hG2 hz2 HX1 HG1 Hz1 hR1
  go_wp2_with fail
  refine (newImage_any W H P (by omega) (by omega) hP4 u2).mono ?_
  rintro e u3 ⟨v3, rfl, hO3, hB3⟩
  have hWH : W * H ≤ 64 := by have := Nat.mul_le_mul hW8 hH8; omega
  have hn256 : W * H * P ≤ 256 := by have := Nat.mul_le_mul hWH hP4; omega
  have hnpos : 0 < W * H * P := Nat.mul_pos (Nat.mul_pos (by omega) (by omega)) (by omega)
  obtain ⟨gb, c, rfl, hg1, hg2⟩ := hO3.form (by simp [zeros]; omega)
  obtain ⟨n, hn⟩ : ∃ n, n = (zeros (W * H * P)).length := ⟨_, rfl⟩
  have hnW : n = W * H * P := by rw [hn]; simp [zeros]
  obtain ⟨b5, hb5⟩ : ∃ b5, b5 = u3.heap.size := ⟨_, rfl⟩
  rw [← hn]
  have HI0 : Hid (∃ ys : List Int, n = ys.length ∧ Own (u3.alloc (.cells #[.int .i64 (W : Int), .int .i64 (H : Int), .int .i64 (P : Int), .slice (some ⟨gb, 0, none⟩) n c] 25)) (w.heap.size + 1) (.slice (some ⟨gb, 0, none⟩) n c) ys ∧ Bx (u3.alloc (.cells #[.int .i64 (W : Int), .int .i64 (H : Int), .int .i64 (P : Int), .slice (some ⟨gb, 0, none⟩) n c] 25)) b5 25 (imC W H P (.slice (some ⟨gb, 0, none⟩) n c)) ∧ Bx (u3.alloc (.cells #[.int .i64 (W : Int), .int .i64 (H : Int), .int .i64 (P : Int), .slice (some ⟨gb, 0, none⟩) n c] 25)) w.heap.size 25 (imC 0 0 0 (.slice none 0 0)) ∧ Rdr (u3.alloc (.cells #[.int .i64 (W : Int), .int .i64 (H : Int), .int .i64 (P : Int), .slice (some ⟨gb, 0, none⟩) n c] 25)) g (N + 2) ∧ w.grownBy (u3.alloc (.cells #[.int .i64 (W : Int), .int .i64 (H : Int), .int .i64 (P : Int), .slice (some ⟨gb, 0, none⟩) n c] 25)) (some g)) :=
    Lib.hid ⟨zeros (W * H * P), hn, by rw [hn]; exact (hO3.alloc _).base_le Hz2.out, by rw [hb5]; exact Bx.new u3 _ _, (HX2.out.below hB3).alloc _, ((hR2.below hB3 hR2.lt).more (by omega)).alloc _, gtrans (gtrans HG2.out (below_grown hB3 _)) (World.grownBy_alloc _ _ _)⟩
  have HB5 := Lib.hid hb5
  have HnW := Lib.hid hnW
  have hgb : w.heap.size + 1 ≤ gb := by have := Hz2.out; omega
  have hgb5 : gb < b5 := by omega
  have hn2 : n ≤ 256 := by omega
  have hn1 : 0 < n := by omega
  clear hO3 hB3 HX2 HG2 Hz2 hR2 hn hnW hb5 hg1 hg2 hn256 hnpos hWH
  go_wp2_with fail
  rw [← HB5.out]
  generalize u3.alloc (.cells #[.int .i64 (W : Int), .int .i64 (H : Int), .int .i64 (P : Int), .slice (some ⟨gb, 0, none⟩) n c] 25) = u4 at *
  obtain ⟨ys, hy, hO, hM, hX, hR, hG⟩ := HI0.out
  clear HI0
  refine (pick_any 4 g (N + 2) u4 hR (by omega) (by omega)).mono ?_
  intro e u5 hp
  obtain ⟨kd, rfl, hkd, hR5, hG5, hs5⟩ := picked_nat hp (by omega)
  have HO5 := Lib.hid (hO.off hG5 (by omega))
  have HM5 := Lib.hid (bx_gr hM hG5 (by omega))
  have HX5 := Lib.hid (bx_gr hX hG5 (by omega))
  have HG5 := Lib.hid (gtrans hG hG5)
  clear hO hM hX hR hG hp hG5 hs5
  go_wp2_with fail
  refine (pick_any 256 g (N + 3) u5 hR5 (by omega) (by omega)).mono ?_
  intro e u6 hp
  obtain ⟨at0, rfl, hat, hR6, hG6, hs6⟩ := picked_nat hp (by omega)
  have HI : Hid (∃ ys : List Int, n = ys.length ∧ Own u6 (w.heap.size + 1) (.slice (some ⟨gb, 0, none⟩) n c) ys ∧ Bx u6 b5 25 (imC W H P (.slice (some ⟨gb, 0, none⟩) n c)) ∧ Bx u6 w.heap.size 25 (imC 0 0 0 (.slice none 0 0)) ∧ Rdr u6 g (N + 4 + 0) ∧ w.grownBy u6 (some g)) :=
    Lib.hid ⟨ys, hy, HO5.out.off hG6 (by omega), bx_gr HM5.out hG6 (by omega), bx_gr HX5.out hG6 (by omega), hR6, gtrans HG5.out hG6⟩
  clear HO5 HM5 HX5 HG5 hp hG6 hs6 hR5 hR6 hy HB5
  have hk4 : (kd : Int) = 0 ∨ (kd : Int) = 1 ∨ (kd : Int) = 2 ∨ (kd : Int) = 3 := by omega
  clear hkd
  generalize (kd : Int) = K at hk4 ⊢
  go_wp2
  rcases hk4 with rfl | rfl | rfl | rfl
  · go_loopw [7, 8] (fun av iv wr => ∃ j a : Nat, j ≤ n ∧ a ≤ 255 ∧ iv = .int .i64 (j : Int) ∧ av = .int .i64 (a : Int) ∧ Hid (∃ ys : List Int, n = ys.length ∧ Own wr (w.heap.size + 1) (.slice (some ⟨gb, 0, none⟩) n c) ys ∧ Bx wr b5 25 (imC W H P (.slice (some ⟨gb, 0, none⟩) n c)) ∧ Bx wr w.heap.size 25 (imC 0 0 0 (.slice none 0 0)) ∧ Rdr wr g (N + 4 + j) ∧ w.grownBy wr (some g))) (fun _ iv _ => n - (intOf iv).toNat)
    case atStart => exact ⟨0, at0, Nat.zero_le _, by omega, rfl, rfl, HI⟩
    case round =>
      obtain ⟨j, a, hj, ha, rfl, rfl, hI⟩ := hrel
      obtain ⟨ys, hy, hO, hM, hX, hR, hG⟩ := hI.out
      obtain ⟨t0, t1, t2, t3⟩ := hM.im
      by_cases hlt : j < n
      · clear HI
        go_wp2_with fail
        refine (pick_any 256 g (N + 4 + j) wr hR (by omega) (by omega)).mono ?_
        intro e w7 hp
        obtain ⟨q, rfl, hq, hR7, hG7, hs7⟩ := picked_nat hp (by omega)
        have hO7 := hO.off hG7 (by omega)
        have hM7 := bx_gr hM hG7 (by omega)
        have hX7 := bx_gr hX hG7 (by omega)
        have hG7' := gtrans hG hG7
        clear hO hM hX hR hG hp hG7 hs7
        obtain ⟨av, hav⟩ : ∃ av : Nat, (av : Int) = (q : Int) := ⟨Int.toNat (q : Int), by omega⟩
        have hab : av ≤ 255 := by omega
        clear t0 t1 t2 t3
        obtain ⟨m0, m1, m2, m3⟩ := hM7.im
        have hcw := hO7.cell hy (j := j) (by omega)
        have hfw := hO7.frozen hy j
        have hput := hO7.put hy j (av : Int)
        have HN : Hid (∃ ys : List Int, n = ys.length ∧ Own (w7.setCell ⟨gb, j, none⟩ (.int .i64 (av : Int))) (w.heap.size + 1) (.slice (some ⟨gb, 0, none⟩) n c) ys ∧ Bx (w7.setCell ⟨gb, j, none⟩ (.int .i64 (av : Int))) b5 25 (imC W H P (.slice (some ⟨gb, 0, none⟩) n c)) ∧ Bx (w7.setCell ⟨gb, j, none⟩ (.int .i64 (av : Int))) w.heap.size 25 (imC 0 0 0 (.slice none 0 0)) ∧ Rdr (w7.setCell ⟨gb, j, none⟩ (.int .i64 (av : Int))) g (N + 4 + (j + 1)) ∧ w.grownBy (w7.setCell ⟨gb, j, none⟩ (.int .i64 (av : Int))) (some g)) :=
          Lib.hid ⟨ys.set j (av : Int), by simpa using hy, hput.1, bx_gr hM7 hput.2 (by omega), bx_gr hX7 hput.2 (by omega), (hR7.grown hput.2 (fun k hk => by injection hk with hk; omega)).more (by omega), gmix hG7' hput.2 (fun k hk => by injection hk with hk; omega)⟩
        rw [hav] at HN
        have HAV := Lib.hid hav
        clear hy hO7 hM7 hX7 hR7 hG7' hput hav hI
        generalize ys.getD j 0 = z' at *
        go_wp2
        go_roundw
        case rel => exact ⟨j + 1, av, by omega, hab, by go_num, by rw [HAV.out], HN⟩
        case measure => simp [intOf]; omega
      · have hjn : j = n := by omega
        obtain ⟨r0, r1, r2, r3⟩ := hX.im
        have f0 := hX.fz 0
        have f1 := hX.fz 1
        have f2 := hX.fz 2
        have f3 := hX.fz 3
        have HE : Hid (∀ u0 u1 u2 u3 : Value, RandIm P g (N + 300) w (.returned (.agg #[.int .i64 (W : Int), .int .i64 (H : Int), .int .i64 (P : Int), .slice (some ⟨gb, 0, none⟩) n c])) ((((wr.setCell ⟨w.heap.size, 0, none⟩ u0).setCell ⟨w.heap.size, 1, none⟩ u1).setCell ⟨w.heap.size, 2, none⟩ u2).setCell ⟨w.heap.size, 3, none⟩ u3)) := Lib.hid fun u0 u1 u2 u3 => by
          have hset : ∀ (u : World) (i : Nat) (x : Value), u.grownBy (u.setCell ⟨w.heap.size, i, none⟩ x) (some w.heap.size) := fun u i x => ⟨rfl, rfl, rfl, by simp [World.setCell], fun k _ hk => heap_setCell_other u ⟨w.heap.size, i, none⟩ k x (fun e => hk (by simp [e]))⟩
          have hG4 := gtrans (gtrans (gtrans (hset wr 0 u0) (hset _ 1 u1)) (hset _ 2 u2)) (hset _ 3 u3)
          refine ⟨W, H, gb, c, ys, by rw [hy], hW1, hW8, hH1, hH8, by rw [← hy]; exact HnW.out, ?_, (hR.grown hG4 (fun k hk => by injection hk with hk; omega)).more (by omega), gmix hG hG4 (fun k hk => by injection hk with hk; omega)⟩
          rw [← hy]
          exact ((((hO.setB (by show _ < _; simp) u0).setB (by show _ < _; simp) u1).setB (by show _ < _; simp) u2).setB (by show _ < _; simp) u3).base_le (by omega)
        clear hy hO hM hX hR hG hI HI hjn
        go_wp2
        exact bodyPost_ret (v := .agg #[.int .i64 (W : Int), .int .i64 (H : Int), .int .i64 (P : Int), .slice (some ⟨gb, 0, none⟩) n c]) (by simp [results, Try.results43, go_sem, r0, r1, r2, r3]) rfl (HE.out _ _ _ _)
  · go_loopw [7, 8] (fun av iv wr => ∃ j a : Nat, j ≤ n ∧ a ≤ 255 ∧ iv = .int .i64 (j : Int) ∧ av = .int .i64 (a : Int) ∧ Hid (∃ ys : List Int, n = ys.length ∧ Own wr (w.heap.size + 1) (.slice (some ⟨gb, 0, none⟩) n c) ys ∧ Bx wr b5 25 (imC W H P (.slice (some ⟨gb, 0, none⟩) n c)) ∧ Bx wr w.heap.size 25 (imC 0 0 0 (.slice none 0 0)) ∧ Rdr wr g (N + 4 + j) ∧ w.grownBy wr (some g))) (fun _ iv _ => n - (intOf iv).toNat)
    case atStart => exact ⟨0, at0, Nat.zero_le _, by omega, rfl, rfl, HI⟩
    case round =>
      obtain ⟨j, a, hj, ha, rfl, rfl, hI⟩ := hrel
      obtain ⟨ys, hy, hO, hM, hX, hR, hG⟩ := hI.out
      obtain ⟨t0, t1, t2, t3⟩ := hM.im
      by_cases hlt : j < n
      · clear HI
        go_wp2_with fail
        refine (pick_any 5 g (N + 4 + j) wr hR (by omega) (by omega)).mono ?_
        intro e w7 hp
        obtain ⟨q, rfl, hq, hR7, hG7, hs7⟩ := picked_nat hp (by omega)
        have hO7 := hO.off hG7 (by omega)
        have hM7 := bx_gr hM hG7 (by omega)
        have hX7 := bx_gr hX hG7 (by omega)
        have hG7' := gtrans hG hG7
        clear hO hM hX hR hG hp hG7 hs7
        obtain ⟨av, hav⟩ : ∃ av : Nat, (av : Int) = (((a : Int) + (q : Int) + 254) % 256) := ⟨Int.toNat (((a : Int) + (q : Int) + 254) % 256), by omega⟩
        have hab : av ≤ 255 := by omega
        clear t0 t1 t2 t3
        obtain ⟨m0, m1, m2, m3⟩ := hM7.im
        have hcw := hO7.cell hy (j := j) (by omega)
        have hfw := hO7.frozen hy j
        have hput := hO7.put hy j (av : Int)
        have HN : Hid (∃ ys : List Int, n = ys.length ∧ Own (w7.setCell ⟨gb, j, none⟩ (.int .i64 (av : Int))) (w.heap.size + 1) (.slice (some ⟨gb, 0, none⟩) n c) ys ∧ Bx (w7.setCell ⟨gb, j, none⟩ (.int .i64 (av : Int))) b5 25 (imC W H P (.slice (some ⟨gb, 0, none⟩) n c)) ∧ Bx (w7.setCell ⟨gb, j, none⟩ (.int .i64 (av : Int))) w.heap.size 25 (imC 0 0 0 (.slice none 0 0)) ∧ Rdr (w7.setCell ⟨gb, j, none⟩ (.int .i64 (av : Int))) g (N + 4 + (j + 1)) ∧ w.grownBy (w7.setCell ⟨gb, j, none⟩ (.int .i64 (av : Int))) (some g)) :=
          Lib.hid ⟨ys.set j (av : Int), by simpa using hy, hput.1, bx_gr hM7 hput.2 (by omega), bx_gr hX7 hput.2 (by omega), (hR7.grown hput.2 (fun k hk => by injection hk with hk; omega)).more (by omega), gmix hG7' hput.2 (fun k hk => by injection hk with hk; omega)⟩
        rw [hav] at HN
        have HAV := Lib.hid hav
        clear hy hO7 hM7 hX7 hR7 hG7' hput hav hI
        generalize ys.getD j 0 = z' at *
        go_wp2
        go_roundw
        case rel => exact ⟨j + 1, av, by omega, hab, by go_num, by rw [HAV.out], HN⟩
        case measure => simp [intOf]; omega
      · have hjn : j = n := by omega
        obtain ⟨r0, r1, r2, r3⟩ := hX.im
        have f0 := hX.fz 0
        have f1 := hX.fz 1
        have f2 := hX.fz 2
        have f3 := hX.fz 3
        have HE : Hid (∀ u0 u1 u2 u3 : Value, RandIm P g (N + 300) w (.returned (.agg #[.int .i64 (W : Int), .int .i64 (H : Int), .int .i64 (P : Int), .slice (some ⟨gb, 0, none⟩) n c])) ((((wr.setCell ⟨w.heap.size, 0, none⟩ u0).setCell ⟨w.heap.size, 1, none⟩ u1).setCell ⟨w.heap.size, 2, none⟩ u2).setCell ⟨w.heap.size, 3, none⟩ u3)) := Lib.hid fun u0 u1 u2 u3 => by
          have hset : ∀ (u : World) (i : Nat) (x : Value), u.grownBy (u.setCell ⟨w.heap.size, i, none⟩ x) (some w.heap.size) := fun u i x => ⟨rfl, rfl, rfl, by simp [World.setCell], fun k _ hk => heap_setCell_other u ⟨w.heap.size, i, none⟩ k x (fun e => hk (by simp [e]))⟩
          have hG4 := gtrans (gtrans (gtrans (hset wr 0 u0) (hset _ 1 u1)) (hset _ 2 u2)) (hset _ 3 u3)
          refine ⟨W, H, gb, c, ys, by rw [hy], hW1, hW8, hH1, hH8, by rw [← hy]; exact HnW.out, ?_, (hR.grown hG4 (fun k hk => by injection hk with hk; omega)).more (by omega), gmix hG hG4 (fun k hk => by injection hk with hk; omega)⟩
          rw [← hy]
          exact ((((hO.setB (by show _ < _; simp) u0).setB (by show _ < _; simp) u1).setB (by show _ < _; simp) u2).setB (by show _ < _; simp) u3).base_le (by omega)
        clear hy hO hM hX hR hG hI HI hjn
        go_wp2
        exact bodyPost_ret (v := .agg #[.int .i64 (W : Int), .int .i64 (H : Int), .int .i64 (P : Int), .slice (some ⟨gb, 0, none⟩) n c]) (by simp [results, Try.results43, go_sem, r0, r1, r2, r3]) rfl (HE.out _ _ _ _)
  · go_loopw [7, 8] (fun av iv wr => ∃ j a : Nat, j ≤ n ∧ a ≤ 255 ∧ iv = .int .i64 (j : Int) ∧ av = .int .i64 (a : Int) ∧ Hid (∃ ys : List Int, n = ys.length ∧ Own wr (w.heap.size + 1) (.slice (some ⟨gb, 0, none⟩) n c) ys ∧ Bx wr b5 25 (imC W H P (.slice (some ⟨gb, 0, none⟩) n c)) ∧ Bx wr w.heap.size 25 (imC 0 0 0 (.slice none 0 0)) ∧ Rdr wr g (N + 4 + j) ∧ w.grownBy wr (some g))) (fun _ iv _ => n - (intOf iv).toNat)
    case atStart => exact ⟨0, at0, Nat.zero_le _, by omega, rfl, rfl, HI⟩
    case round =>
      obtain ⟨j, a, hj, ha, rfl, rfl, hI⟩ := hrel
      obtain ⟨ys, hy, hO, hM, hX, hR, hG⟩ := hI.out
      obtain ⟨t0, t1, t2, t3⟩ := hM.im
      by_cases hlt : j < n
      · clear HI
        go_wp2_with fail
        refine (pick_any 4 g (N + 4 + j) wr hR (by omega) (by omega)).mono ?_
        intro e w7 hp
        obtain ⟨q, rfl, hq, hR7, hG7, hs7⟩ := picked_nat hp (by omega)
        have hO7 := hO.off hG7 (by omega)
        have hM7 := bx_gr hM hG7 (by omega)
        have hX7 := bx_gr hX hG7 (by omega)
        have hG7' := gtrans hG hG7
        clear hO hM hX hR hG hp hG7 hs7
        obtain ⟨av, hav⟩ : ∃ av : Nat, (av : Int) = (60 * (q : Int)) := ⟨Int.toNat (60 * (q : Int)), by omega⟩
        have hab : av ≤ 255 := by omega
        clear t0 t1 t2 t3
        obtain ⟨m0, m1, m2, m3⟩ := hM7.im
        have hcw := hO7.cell hy (j := j) (by omega)
        have hfw := hO7.frozen hy j
        have hput := hO7.put hy j (av : Int)
        have HN : Hid (∃ ys : List Int, n = ys.length ∧ Own (w7.setCell ⟨gb, j, none⟩ (.int .i64 (av : Int))) (w.heap.size + 1) (.slice (some ⟨gb, 0, none⟩) n c) ys ∧ Bx (w7.setCell ⟨gb, j, none⟩ (.int .i64 (av : Int))) b5 25 (imC W H P (.slice (some ⟨gb, 0, none⟩) n c)) ∧ Bx (w7.setCell ⟨gb, j, none⟩ (.int .i64 (av : Int))) w.heap.size 25 (imC 0 0 0 (.slice none 0 0)) ∧ Rdr (w7.setCell ⟨gb, j, none⟩ (.int .i64 (av : Int))) g (N + 4 + (j + 1)) ∧ w.grownBy (w7.setCell ⟨gb, j, none⟩ (.int .i64 (av : Int))) (some g)) :=
          Lib.hid ⟨ys.set j (av : Int), by simpa using hy, hput.1, bx_gr hM7 hput.2 (by omega), bx_gr hX7 hput.2 (by omega), (hR7.grown hput.2 (fun k hk => by injection hk with hk; omega)).more (by omega), gmix hG7' hput.2 (fun k hk => by injection hk with hk; omega)⟩
        rw [hav] at HN
        have HAV := Lib.hid hav
        clear hy hO7 hM7 hX7 hR7 hG7' hput hav hI
        generalize ys.getD j 0 = z' at *
        go_wp2
        go_roundw
        case rel => exact ⟨j + 1, av, by omega, hab, by go_num, by rw [HAV.out], HN⟩
        case measure => simp [intOf]; omega
      · have hjn : j = n := by omega
        obtain ⟨r0, r1, r2, r3⟩ := hX.im
        have f0 := hX.fz 0
        have f1 := hX.fz 1
        have f2 := hX.fz 2
        have f3 := hX.fz 3
        have HE : Hid (∀ u0 u1 u2 u3 : Value, RandIm P g (N + 300) w (.returned (.agg #[.int .i64 (W : Int), .int .i64 (H : Int), .int .i64 (P : Int), .slice (some ⟨gb, 0, none⟩) n c])) ((((wr.setCell ⟨w.heap.size, 0, none⟩ u0).setCell ⟨w.heap.size, 1, none⟩ u1).setCell ⟨w.heap.size, 2, none⟩ u2).setCell ⟨w.heap.size, 3, none⟩ u3)) := Lib.hid fun u0 u1 u2 u3 => by
          have hset : ∀ (u : World) (i : Nat) (x : Value), u.grownBy (u.setCell ⟨w.heap.size, i, none⟩ x) (some w.heap.size) := fun u i x => ⟨rfl, rfl, rfl, by simp [World.setCell], fun k _ hk => heap_setCell_other u ⟨w.heap.size, i, none⟩ k x (fun e => hk (by simp [e]))⟩
          have hG4 := gtrans (gtrans (gtrans (hset wr 0 u0) (hset _ 1 u1)) (hset _ 2 u2)) (hset _ 3 u3)
          refine ⟨W, H, gb, c, ys, by rw [hy], hW1, hW8, hH1, hH8, by rw [← hy]; exact HnW.out, ?_, (hR.grown hG4 (fun k hk => by injection hk with hk; omega)).more (by omega), gmix hG hG4 (fun k hk => by injection hk with hk; omega)⟩
          rw [← hy]
          exact ((((hO.setB (by show _ < _; simp) u0).setB (by show _ < _; simp) u1).setB (by show _ < _; simp) u2).setB (by show _ < _; simp) u3).base_le (by omega)
        clear hy hO hM hX hR hG hI HI hjn
        go_wp2
        exact bodyPost_ret (v := .agg #[.int .i64 (W : Int), .int .i64 (H : Int), .int .i64 (P : Int), .slice (some ⟨gb, 0, none⟩) n c]) (by simp [results, Try.results43, go_sem, r0, r1, r2, r3]) rfl (HE.out _ _ _ _)
  · go_loopw [7, 8] (fun av iv wr => ∃ j a : Nat, j ≤ n ∧ a ≤ 255 ∧ iv = .int .i64 (j : Int) ∧ av = .int .i64 (a : Int) ∧ Hid (∃ ys : List Int, n = ys.length ∧ Own wr (w.heap.size + 1) (.slice (some ⟨gb, 0, none⟩) n c) ys ∧ Bx wr b5 25 (imC W H P (.slice (some ⟨gb, 0, none⟩) n c)) ∧ Bx wr w.heap.size 25 (imC 0 0 0 (.slice none 0 0)) ∧ Rdr wr g (N + 4 + j) ∧ w.grownBy wr (some g))) (fun _ iv _ => n - (intOf iv).toNat)
    case atStart => exact ⟨0, at0, Nat.zero_le _, by omega, rfl, rfl, HI⟩
    case round =>
      obtain ⟨j, a, hj, ha, rfl, rfl, hI⟩ := hrel
      obtain ⟨ys, hy, hO, hM, hX, hR, hG⟩ := hI.out
      obtain ⟨t0, t1, t2, t3⟩ := hM.im
      by_cases hlt : j < n
      · clear HI
        obtain ⟨av, hav⟩ : ∃ av : Nat, (av : Int) = (a : Int) := ⟨Int.toNat (a : Int), by omega⟩
        have hab : av ≤ 255 := by omega
        clear t0 t1 t2 t3
        obtain ⟨m0, m1, m2, m3⟩ := hM.im
        have hcw := hO.cell hy (j := j) (by omega)
        have hfw := hO.frozen hy j
        have hput := hO.put hy j (av : Int)
        have HN : Hid (∃ ys : List Int, n = ys.length ∧ Own (wr.setCell ⟨gb, j, none⟩ (.int .i64 (av : Int))) (w.heap.size + 1) (.slice (some ⟨gb, 0, none⟩) n c) ys ∧ Bx (wr.setCell ⟨gb, j, none⟩ (.int .i64 (av : Int))) b5 25 (imC W H P (.slice (some ⟨gb, 0, none⟩) n c)) ∧ Bx (wr.setCell ⟨gb, j, none⟩ (.int .i64 (av : Int))) w.heap.size 25 (imC 0 0 0 (.slice none 0 0)) ∧ Rdr (wr.setCell ⟨gb, j, none⟩ (.int .i64 (av : Int))) g (N + 4 + (j + 1)) ∧ w.grownBy (wr.setCell ⟨gb, j, none⟩ (.int .i64 (av : Int))) (some g)) :=
          Lib.hid ⟨ys.set j (av : Int), by simpa using hy, hput.1, bx_gr hM hput.2 (by omega), bx_gr hX hput.2 (by omega), (hR.grown hput.2 (fun k hk => by injection hk with hk; omega)).more (by omega), gmix hG hput.2 (fun k hk => by injection hk with hk; omega)⟩
        rw [hav] at HN
        have HAV := Lib.hid hav
        clear hy hO hM hX hR hG hput hav hI
        generalize ys.getD j 0 = z' at *
        go_wp2
        go_roundw
        case rel => exact ⟨j + 1, av, by omega, hab, by go_num, by rw [HAV.out], HN⟩
        case measure => simp [intOf]; omega
      · have hjn : j = n := by omega
        obtain ⟨r0, r1, r2, r3⟩ := hX.im
        have f0 := hX.fz 0
        have f1 := hX.fz 1
        have f2 := hX.fz 2
        have f3 := hX.fz 3
        have HE : Hid (∀ u0 u1 u2 u3 : Value, RandIm P g (N + 300) w (.returned (.agg #[.int .i64 (W : Int), .int .i64 (H : Int), .int .i64 (P : Int), .slice (some ⟨gb, 0, none⟩) n c])) ((((wr.setCell ⟨w.heap.size, 0, none⟩ u0).setCell ⟨w.heap.size, 1, none⟩ u1).setCell ⟨w.heap.size, 2, none⟩ u2).setCell ⟨w.heap.size, 3, none⟩ u3)) := Lib.hid fun u0 u1 u2 u3 => by
          have hset : ∀ (u : World) (i : Nat) (x : Value), u.grownBy (u.setCell ⟨w.heap.size, i, none⟩ x) (some w.heap.size) := fun u i x => ⟨rfl, rfl, rfl, by simp [World.setCell], fun k _ hk => heap_setCell_other u ⟨w.heap.size, i, none⟩ k x (fun e => hk (by simp [e]))⟩
          have hG4 := gtrans (gtrans (gtrans (hset wr 0 u0) (hset _ 1 u1)) (hset _ 2 u2)) (hset _ 3 u3)
          refine ⟨W, H, gb, c, ys, by rw [hy], hW1, hW8, hH1, hH8, by rw [← hy]; exact HnW.out, ?_, (hR.grown hG4 (fun k hk => by injection hk with hk; omega)).more (by omega), gmix hG hG4 (fun k hk => by injection hk with hk; omega)⟩
          rw [← hy]
          exact ((((hO.setB (by show _ < _; simp) u0).setB (by show _ < _; simp) u1).setB (by show _ < _; simp) u2).setB (by show _ < _; simp) u3).base_le (by omega)
        clear hy hO hM hX hR hG hI HI hjn
        go_wp2
        exact bodyPost_ret (v := .agg #[.int .i64 (W : Int), .int .i64 (H : Int), .int .i64 (P : Int), .slice (some ⟨gb, 0, none⟩) n c]) (by simp [results, Try.results43, go_sem, r0, r1, r2, r3]) rfl (HE.out _ _ _ _)
end Go.Proofs.Ytolifmgkkkclkaa
