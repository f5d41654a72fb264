/- DrawImg, DrawImg2, DrawHis, DrawImW, DrawFill, DrawCol, DrawGray, DrawCoi: one text of several. -/
import Derived.Test.YtjcohmljpokgcaaSpoil
import Derived.Test.YtjcohmljpokgcaaSpecM
import Derived.Deep.RegionHeld3
import Derived.Test.YtjcohmljpokgcaaLss
import Derived.Test.YtjcohmljpokgcaaPalS
namespace Go.Proofs.Ytjcohmljpokgcaa
open Go.RowKit
set_option linter.unusedSimpArgs false
set_option linter.unusedVariables false

def RandIm (P : Nat) (g N : Nat) (w : World) (e : Ending) (w' : World) : Prop :=
  ∃ (W H : Nat) (gb c : Nat) (xs : List Int), e = .returned (.agg #[.int .i64 (W : Int), .int .i64 (H : Int), .int .i64 (P : Int), .slice (some ⟨gb, 0, none⟩) xs.length c]) ∧ 1 ≤ W ∧ W ≤ 8 ∧ 1 ≤ H ∧ H ≤ 8 ∧ xs.length = W * H * P ∧ Own w' w.heap.size (.slice (some ⟨gb, 0, none⟩) xs.length c) xs ∧ Rdr w' g N ∧ w.grownBy w' (some g)
theorem one_litB (cs : Array Value) (xs : List Int) (n c p : Nat) (g N : Nat) (w : World) (hp : p = w.heap.size) (h : Rdr w g N) (hN : N ≤ 1000000000) (hx : 0 < xs.length) (hl : xs.length ≤ 1000) (hn : n = xs.length) (hcs : cs.toList = xs.map (.int .i64)) :
    Calls Try.prog 45 #[.pointer (some ⟨g, 0, none⟩), .slice (some ⟨p, 0, none⟩) n c] (w.alloc (.cells cs 3)) fun e w' => ∃ k : Int, e = .returned (.int .i64 k) ∧ k ∈ xs ∧ Rdr w' g (N + 1) ∧ w.grownBy w' (some g) := by
  subst hp
  exact one_lit cs xs n c g N w h hN hx hl hn hcs
theorem bx_gr {w w' : World} {b : Nat} {T : TypeId} {cs : Array Value} {g : Nat} (h : Bx w b T cs) (hG : w.grownBy w' (some g)) (hne : b ≠ g) : Bx w' b T cs := h.kept hG (by simpa using hne)
set_option maxRecDepth 100000 in
set_option maxHeartbeats 16000000 in
theorem randomImage_any (P : Nat) (hP1 : 1 ≤ P) (hP4 : P ≤ 4) (g N : Nat) (w : World) (h : Rdr w g N) (hN : N ≤ 10000000) :
    Calls Try.prog 64 #[.pointer (some ⟨g, 0, none⟩), .int .i64 (P : Int)] w (RandIm P g (N + 300) w) := by
  have hgl := h.lt
  obtain ⟨u0, hu⟩ : ∃ u0, u0 = w.alloc (.cells #[.int .i64 0, .int .i64 0, .int .i64 0, .slice none 0 0] 25) := ⟨_, rfl⟩
  have hz : u0.heap.size = w.heap.size + 1 := by rw [hu]; simp
  have HX0 : Hid (Bx u0 w.heap.size 25 (imC 0 0 0 (.slice none 0 0))) := Lib.hid (by rw [hu]; exact Bx.new w _ _)
  have HR0 : Hid (Rdr u0 g N) := Lib.hid (by rw [hu]; exact h.alloc _)
  have HG0 : Hid (w.grownBy u0 (some g)) := Lib.hid (by rw [hu]; exact World.grownBy_alloc w _ _)
  have Hz := Lib.hid hz
  have HU := Lib.hid hu
  clear h hu hz
  go_enter Try.func64, Try.ntmps64
  go_wp2_with fail
  rw [← HU.out]
  clear HU
  refine (one_litB _ [3, 4, 2, 5, 1, 8, 6] 7 7 _ g N u0 (by rw [Hz.out]) HR0.out (by omega) (by simp) (by simp) rfl rfl).mono ?_
  rintro e u1 ⟨W', rfl, hW', hR1, hG1⟩
  have hWb : 1 ≤ W' ∧ W' ≤ 8 := by simp at hW'; omega
  obtain ⟨W, rfl⟩ := Int.eq_ofNat_of_zero_le (show 0 ≤ W' by omega)
  have hW1 : 1 ≤ W := by omega
  have hW8 : W ≤ 8 := by omega
  have HX1 := Lib.hid (bx_gr HX0.out hG1 (by omega))
  have HG1 := Lib.hid (gtrans HG0.out hG1)
  have hz1 := hG1.size
  have Hz1 := Lib.hid (show w.heap.size + 1 ≤ u1.heap.size by have := Hz.out; omega)
  clear hW' hWb hG1 hz1 HX0 HG0 HR0 Hz
  go_wp2_with fail
  refine (one_litB _ [3, 2, 4, 1, 5, 8] 6 6 _ g (N + 1) u1 rfl hR1 (by omega) (by simp) (by simp) rfl rfl).mono ?_
  rintro e u2 ⟨H', rfl, hH', hR2, hG2⟩
  have hHb : 1 ≤ H' ∧ H' ≤ 8 := by simp at hH'; omega
  obtain ⟨H, rfl⟩ := Int.eq_ofNat_of_zero_le (show 0 ≤ H' by omega)
  have hH1 : 1 ≤ H := by omega
  have hH8 : H ≤ 8 := by omega
  have HX2 := Lib.hid (bx_gr HX1.out hG2 (by omega))
  have HG2 := Lib.hid (gtrans HG1.out hG2)
  have hz2 := hG2.size
  have Hz2 := Lib.hid (show w.heap.size + 1 ≤ u2.heap.size by have := Hz1.out; omega)
  clear hH' hHb hG2 hz2 HX1 HG1 Hz1 hR1
  go_wp2_with fail
  refine (newImage_any W H P (by omega) (by omega) hP4 u2).mono ?_
  rintro e u3 ⟨v3, rfl, hO3, hB3⟩
  have hWH : W * H ≤ 64 := by have := Nat.mul_le_mul hW8 hH8; omega
  have hn256 : W * H * P ≤ 256 := by have := Nat.mul_le_mul hWH hP4; omega
  have hnpos : 0 < W * H * P := Nat.mul_pos (Nat.mul_pos (by omega) (by omega)) (by omega)
  obtain ⟨gb, c, rfl, hg1, hg2⟩ := hO3.form (by simp [zeros]; omega)
  obtain ⟨n, hn⟩ : ∃ n, n = (zeros (W * H * P)).length := ⟨_, rfl⟩
  have hnW : n = W * H * P := by rw [hn]; simp [zeros]
  obtain ⟨b5, hb5⟩ : ∃ b5, b5 = u3.heap.size := ⟨_, rfl⟩
  rw [← hn]
  have HI0 : Hid (∃ ys : List Int, n = ys.length ∧ Own (u3.alloc (.cells #[.int .i64 (W : Int), .int .i64 (H : Int), .int .i64 (P : Int), .slice (some ⟨gb, 0, none⟩) n c] 25)) (w.heap.size + 1) (.slice (some ⟨gb, 0, none⟩) n c) ys ∧ Bx (u3.alloc (.cells #[.int .i64 (W : Int), .int .i64 (H : Int), .int .i64 (P : Int), .slice (some ⟨gb, 0, none⟩) n c] 25)) b5 25 (imC W H P (.slice (some ⟨gb, 0, none⟩) n c)) ∧ Bx (u3.alloc (.cells #[.int .i64 (W : Int), .int .i64 (H : Int), .int .i64 (P : Int), .slice (some ⟨gb, 0, none⟩) n c] 25)) w.heap.size 25 (imC 0 0 0 (.slice none 0 0)) ∧ Rdr (u3.alloc (.cells #[.int .i64 (W : Int), .int .i64 (H : Int), .int .i64 (P : Int), .slice (some ⟨gb, 0, none⟩) n c] 25)) g (N + 2) ∧ w.grownBy (u3.alloc (.cells #[.int .i64 (W : Int), .int .i64 (H : Int), .int .i64 (P : Int), .slice (some ⟨gb, 0, none⟩) n c] 25)) (some g)) :=
    Lib.hid ⟨zeros (W * H * P), hn, by rw [hn]; exact (hO3.alloc _).base_le Hz2.out, by rw [hb5]; exact Bx.new u3 _ _, (HX2.out.below hB3).alloc _, ((hR2.below hB3 hR2.lt).more (by omega)).alloc _, gtrans (gtrans HG2.out (below_grown hB3 _)) (World.grownBy_alloc _ _ _)⟩
  have HB5 := Lib.hid hb5
  have HnW := Lib.hid hnW
  have hgb : w.heap.size + 1 ≤ gb := by have := Hz2.out; omega
  have hgb5 : gb < b5 := by omega
  have hn2 : n ≤ 256 := by omega
  have hn1 : 0 < n := by omega
  clear hO3 hB3 HX2 HG2 Hz2 hR2 hn hnW hb5 hg1 hg2 hn256 hnpos hWH
  go_wp2_with fail
  rw [← HB5.out]
  generalize u3.alloc (.cells #[.int .i64 (W : Int), .int .i64 (H : Int), .int .i64 (P : Int), .slice (some ⟨gb, 0, none⟩) n c] 25) = u4 at *
  obtain ⟨ys, hy, hO, hM, hX, hR, hG⟩ := HI0.out
  clear HI0
  refine (pick_any 4 g (N + 2) u4 hR (by omega) (by omega)).mono ?_
  intro e u5 hp
  obtain ⟨kd, rfl, hkd, hR5, hG5, hs5⟩ := picked_nat hp (by omega)
  have HO5 := Lib.hid (hO.off hG5 (by omega))
  have HM5 := Lib.hid (bx_gr hM hG5 (by omega))
  have HX5 := Lib.hid (bx_gr hX hG5 (by omega))
  have HG5 := Lib.hid (gtrans hG hG5)
  clear hO hM hX hR hG hp hG5 hs5
  go_wp2_with fail
  refine (pick_any 256 g (N + 3) u5 hR5 (by omega) (by omega)).mono ?_
  intro e u6 hp
  obtain ⟨at0, rfl, hat, hR6, hG6, hs6⟩ := picked_nat hp (by omega)
  have HI : Hid (∃ ys : List Int, n = ys.length ∧ Own u6 (w.heap.size + 1) (.slice (some ⟨gb, 0, none⟩) n c) ys ∧ Bx u6 b5 25 (imC W H P (.slice (some ⟨gb, 0, none⟩) n c)) ∧ Bx u6 w.heap.size 25 (imC 0 0 0 (.slice none 0 0)) ∧ Rdr u6 g (N + 4 + 0) ∧ w.grownBy u6 (some g)) :=
    Lib.hid ⟨ys, hy, HO5.out.off hG6 (by omega), bx_gr HM5.out hG6 (by omega), bx_gr HX5.out hG6 (by omega), hR6, gtrans HG5.out hG6⟩
  clear HO5 HM5 HX5 HG5 hp hG6 hs6 hR5 hR6 hy HB5
  have hk4 : (kd : Int) = 0 ∨ (kd : Int) = 1 ∨ (kd : Int) = 2 ∨ (kd : Int) = 3 := by omega
  clear hkd
  generalize (kd : Int) = K at hk4 ⊢
  go_wp2
  rcases hk4 with rfl | rfl | rfl | rfl
  · go_loopw [7, 8] (fun av iv wr => ∃ j a : Nat, j ≤ n ∧ a ≤ 255 ∧ iv = .int .i64 (j : Int) ∧ av = .int .i64 (a : Int) ∧ Hid (∃ ys : List Int, n = ys.length ∧ Own wr (w.heap.size + 1) (.slice (some ⟨gb, 0, none⟩) n c) ys ∧ Bx wr b5 25 (imC W H P (.slice (some ⟨gb, 0, none⟩) n c)) ∧ Bx wr w.heap.size 25 (imC 0 0 0 (.slice none 0 0)) ∧ Rdr wr g (N + 4 + j) ∧ w.grownBy wr (some g))) (fun _ iv _ => n - (intOf iv).toNat)
    case atStart => exact ⟨0, at0, Nat.zero_le _, by omega, rfl, rfl, HI⟩
    case round =>
      obtain ⟨j, a, hj, ha, rfl, rfl, hI⟩ := hrel
      obtain ⟨ys, hy, hO, hM, hX, hR, hG⟩ := hI.out
      obtain ⟨t0, t1, t2, t3⟩ := hM.im
      by_cases hlt : j < n
      · clear HI
        go_wp2_with fail
        refine (pick_any 256 g (N + 4 + j) wr hR (by omega) (by omega)).mono ?_
        intro e w7 hp
        obtain ⟨q, rfl, hq, hR7, hG7, hs7⟩ := picked_nat hp (by omega)
        have hO7 := hO.off hG7 (by omega)
        have hM7 := bx_gr hM hG7 (by omega)
        have hX7 := bx_gr hX hG7 (by omega)
        have hG7' := gtrans hG hG7
        clear hO hM hX hR hG hp hG7 hs7
        obtain ⟨av, hav⟩ : ∃ av : Nat, (av : Int) = (q : Int) := ⟨Int.toNat (q : Int), by omega⟩
        have hab : av ≤ 255 := by omega
        clear t0 t1 t2 t3
        obtain ⟨m0, m1, m2, m3⟩ := hM7.im
        have hcw := hO7.cell hy (j := j) (by omega)
        have hfw := hO7.frozen hy j
        have hput := hO7.put hy j (av : Int)
        have HN : Hid (∃ ys : List Int, n = ys.length ∧ Own (w7.setCell ⟨gb, j, none⟩ (.int .i64 (av : Int))) (w.heap.size + 1) (.slice (some ⟨gb, 0, none⟩) n c) ys ∧ Bx (w7.setCell ⟨gb, j, none⟩ (.int .i64 (av : Int))) b5 25 (imC W H P (.slice (some ⟨gb, 0, none⟩) n c)) ∧ Bx (w7.setCell ⟨gb, j, none⟩ (.int .i64 (av : Int))) w.heap.size 25 (imC 0 0 0 (.slice none 0 0)) ∧ Rdr (w7.setCell ⟨gb, j, none⟩ (.int .i64 (av : Int))) g (N + 4 + (j + 1)) ∧ w.grownBy (w7.setCell ⟨gb, j, none⟩ (.int .i64 (av : Int))) (some g)) :=
          Lib.hid ⟨ys.set j (av : Int), by simpa using hy, hput.1, bx_gr hM7 hput.2 (by omega), bx_gr hX7 hput.2 (by omega), (hR7.grown hput.2 (fun k hk => by injection hk with hk; omega)).more (by omega), gmix hG7' hput.2 (fun k hk => by injection hk with hk; omega)⟩
        rw [hav] at HN
        have HAV := Lib.hid hav
        clear hy hO7 hM7 hX7 hR7 hG7' hput hav hI
        generalize ys.getD j 0 = z' at *
        go_wp2
        go_roundw
        case rel => exact ⟨j + 1, av, by omega, hab, by go_num, by rw [HAV.out], HN⟩
        case measure => simp [intOf]; omega
      · have hjn : j = n := by omega
        obtain ⟨r0, r1, r2, r3⟩ := hX.im
        have f0 := hX.fz 0
        have f1 := hX.fz 1
        have f2 := hX.fz 2
        have f3 := hX.fz 3
        have HE : Hid (∀ u0 u1 u2 u3 : Value, RandIm P g (N + 300) w (.returned (.agg #[.int .i64 (W : Int), .int .i64 (H : Int), .int .i64 (P : Int), .slice (some ⟨gb, 0, none⟩) n c])) ((((wr.setCell ⟨w.heap.size, 0, none⟩ u0).setCell ⟨w.heap.size, 1, none⟩ u1).setCell ⟨w.heap.size, 2, none⟩ u2).setCell ⟨w.heap.size, 3, none⟩ u3)) := Lib.hid fun u0 u1 u2 u3 => by
          have hset : ∀ (u : World) (i : Nat) (x : Value), u.grownBy (u.setCell ⟨w.heap.size, i, none⟩ x) (some w.heap.size) := fun u i x => ⟨rfl, rfl, rfl, by simp [World.setCell], fun k _ hk => heap_setCell_other u ⟨w.heap.size, i, none⟩ k x (fun e => hk (by simp [e]))⟩
          have hG4 := gtrans (gtrans (gtrans (hset wr 0 u0) (hset _ 1 u1)) (hset _ 2 u2)) (hset _ 3 u3)
          refine ⟨W, H, gb, c, ys, by rw [hy], hW1, hW8, hH1, hH8, by rw [← hy]; exact HnW.out, ?_, (hR.grown hG4 (fun k hk => by injection hk with hk; omega)).more (by omega), gmix hG hG4 (fun k hk => by injection hk with hk; omega)⟩
          rw [← hy]
          exact ((((hO.setB (by show _ < _; simp) u0).setB (by show _ < _; simp) u1).setB (by show _ < _; simp) u2).setB (by show _ < _; simp) u3).base_le (by omega)
        clear hy hO hM hX hR hG hI HI hjn
        go_wp2
        exact bodyPost_ret (v := .agg #[.int .i64 (W : Int), .int .i64 (H : Int), .int .i64 (P : Int), .slice (some ⟨gb, 0, none⟩) n c]) (by simp [results, Try.results64, go_sem, r0, r1, r2, r3]) rfl (HE.out _ _ _ _)
  · go_loopw [7, 8] (fun av iv wr => ∃ j a : Nat, j ≤ n ∧ a ≤ 255 ∧ iv = .int .i64 (j : Int) ∧ av = .int .i64 (a : Int) ∧ Hid (∃ ys : List Int, n = ys.length ∧ Own wr (w.heap.size + 1) (.slice (some ⟨gb, 0, none⟩) n c) ys ∧ Bx wr b5 25 (imC W H P (.slice (some ⟨gb, 0, none⟩) n c)) ∧ Bx wr w.heap.size 25 (imC 0 0 0 (.slice none 0 0)) ∧ Rdr wr g (N + 4 + j) ∧ w.grownBy wr (some g))) (fun _ iv _ => n - (intOf iv).toNat)
    case atStart => exact ⟨0, at0, Nat.zero_le _, by omega, rfl, rfl, HI⟩
    case round =>
      obtain ⟨j, a, hj, ha, rfl, rfl, hI⟩ := hrel
      obtain ⟨ys, hy, hO, hM, hX, hR, hG⟩ := hI.out
      obtain ⟨t0, t1, t2, t3⟩ := hM.im
      by_cases hlt : j < n
      · clear HI
        go_wp2_with fail
        refine (pick_any 5 g (N + 4 + j) wr hR (by omega) (by omega)).mono ?_
        intro e w7 hp
        obtain ⟨q, rfl, hq, hR7, hG7, hs7⟩ := picked_nat hp (by omega)
        have hO7 := hO.off hG7 (by omega)
        have hM7 := bx_gr hM hG7 (by omega)
        have hX7 := bx_gr hX hG7 (by omega)
        have hG7' := gtrans hG hG7
        clear hO hM hX hR hG hp hG7 hs7
        obtain ⟨av, hav⟩ : ∃ av : Nat, (av : Int) = (((a : Int) + (q : Int) + 254) % 256) := ⟨Int.toNat (((a : Int) + (q : Int) + 254) % 256), by omega⟩
        have hab : av ≤ 255 := by omega
        clear t0 t1 t2 t3
        obtain ⟨m0, m1, m2, m3⟩ := hM7.im
        have hcw := hO7.cell hy (j := j) (by omega)
        have hfw := hO7.frozen hy j
        have hput := hO7.put hy j (av : Int)
        have HN : Hid (∃ ys : List Int, n = ys.length ∧ Own (w7.setCell ⟨gb, j, none⟩ (.int .i64 (av : Int))) (w.heap.size + 1) (.slice (some ⟨gb, 0, none⟩) n c) ys ∧ Bx (w7.setCell ⟨gb, j, none⟩ (.int .i64 (av : Int))) b5 25 (imC W H P (.slice (some ⟨gb, 0, none⟩) n c)) ∧ Bx (w7.setCell ⟨gb, j, none⟩ (.int .i64 (av : Int))) w.heap.size 25 (imC 0 0 0 (.slice none 0 0)) ∧ Rdr (w7.setCell ⟨gb, j, none⟩ (.int .i64 (av : Int))) g (N + 4 + (j + 1)) ∧ w.grownBy (w7.setCell ⟨gb, j, none⟩ (.int .i64 (av : Int))) (some g)) :=
          Lib.hid ⟨ys.set j (av : Int), by simpa using hy, hput.1, bx_gr hM7 hput.2 (by omega), bx_gr hX7 hput.2 (by omega), (hR7.grown hput.2 (fun k hk => by injection hk with hk; omega)).more (by omega), gmix hG7' hput.2 (fun k hk => by injection hk with hk; omega)⟩
        rw [hav] at HN
        have HAV := Lib.hid hav
        clear hy hO7 hM7 hX7 hR7 hG7' hput hav hI
        generalize ys.getD j 0 = z' at *
        go_wp2
        go_roundw
        case rel => exact ⟨j + 1, av, by omega, hab, by go_num, by rw [HAV.out], HN⟩
        case measure => simp [intOf]; omega
      · have hjn : j = n := by omega
        obtain ⟨r0, r1, r2, r3⟩ := hX.im
        have f0 := hX.fz 0
        have f1 := hX.fz 1
        have f2 := hX.fz 2
        have f3 := hX.fz 3
        have HE : Hid (∀ u0 u1 u2 u3 : Value, RandIm P g (N + 300) w (.returned (.agg #[.int .i64 (W : Int), .int .i64 (H : Int), .int .i64 (P : Int), .slice (some ⟨gb, 0, none⟩) n c])) ((((wr.setCell ⟨w.heap.size, 0, none⟩ u0).setCell ⟨w.heap.size, 1, none⟩ u1).setCell ⟨w.heap.size, 2, none⟩ u2).setCell ⟨w.heap.size, 3, none⟩ u3)) := Lib.hid fun u0 u1 u2 u3 => by
          have hset : ∀ (u : World) (i : Nat) (x : Value), u.grownBy (u.setCell ⟨w.heap.size, i, none⟩ x) (some w.heap.size) := fun u i x => ⟨rfl, rfl, rfl, by simp [World.setCell], fun k _ hk => heap_setCell_other u ⟨w.heap.size, i, none⟩ k x (fun e => hk (by simp [e]))⟩
          have hG4 := gtrans (gtrans (gtrans (hset wr 0 u0) (hset _ 1 u1)) (hset _ 2 u2)) (hset _ 3 u3)
          refine ⟨W, H, gb, c, ys, by rw [hy], hW1, hW8, hH1, hH8, by rw [← hy]; exact HnW.out, ?_, (hR.grown hG4 (fun k hk => by injection hk with hk; omega)).more (by omega), gmix hG hG4 (fun k hk => by injection hk with hk; omega)⟩
          rw [← hy]
          exact ((((hO.setB (by show _ < _; simp) u0).setB (by show _ < _; simp) u1).setB (by show _ < _; simp) u2).setB (by show _ < _; simp) u3).base_le (by omega)
        clear hy hO hM hX hR hG hI HI hjn
        go_wp2
        exact bodyPost_ret (v := .agg #[.int .i64 (W : Int), .int .i64 (H : Int), .int .i64 (P : Int), .slice (some ⟨gb, 0, none⟩) n c]) (by simp [results, Try.results64, go_sem, r0, r1, r2, r3]) rfl (HE.out _ _ _ _)
  · go_loopw [7, 8] (fun av iv wr => ∃ j a : Nat, j ≤ n ∧ a ≤ 255 ∧ iv = .int .i64 (j : Int) ∧ av = .int .i64 (a : Int) ∧ Hid (∃ ys : List Int, n = ys.length ∧ Own wr (w.heap.size + 1) (.slice (some ⟨gb, 0, none⟩) n c) ys ∧ Bx wr b5 25 (imC W H P (.slice (some ⟨gb, 0, none⟩) n c)) ∧ Bx wr w.heap.size 25 (imC 0 0 0 (.slice none 0 0)) ∧ Rdr wr g (N + 4 + j) ∧ w.grownBy wr (some g))) (fun _ iv _ => n - (intOf iv).toNat)
    case atStart => exact ⟨0, at0, Nat.zero_le _, by omega, rfl, rfl, HI⟩
    case round =>
      obtain ⟨j, a, hj, ha, rfl, rfl, hI⟩ := hrel
      obtain ⟨ys, hy, hO, hM, hX, hR, hG⟩ := hI.out
      obtain ⟨t0, t1, t2, t3⟩ := hM.im
      by_cases hlt : j < n
      · clear HI
        go_wp2_with fail
        refine (pick_any 4 g (N + 4 + j) wr hR (by omega) (by omega)).mono ?_
        intro e w7 hp
        obtain ⟨q, rfl, hq, hR7, hG7, hs7⟩ := picked_nat hp (by omega)
        have hO7 := hO.off hG7 (by omega)
        have hM7 := bx_gr hM hG7 (by omega)
        have hX7 := bx_gr hX hG7 (by omega)
        have hG7' := gtrans hG hG7
        clear hO hM hX hR hG hp hG7 hs7
        obtain ⟨av, hav⟩ : ∃ av : Nat, (av : Int) = (60 * (q : Int)) := ⟨Int.toNat (60 * (q : Int)), by omega⟩
        have hab : av ≤ 255 := by omega
        clear t0 t1 t2 t3
        obtain ⟨m0, m1, m2, m3⟩ := hM7.im
        have hcw := hO7.cell hy (j := j) (by omega)
        have hfw := hO7.frozen hy j
        have hput := hO7.put hy j (av : Int)
        have HN : Hid (∃ ys : List Int, n = ys.length ∧ Own (w7.setCell ⟨gb, j, none⟩ (.int .i64 (av : Int))) (w.heap.size + 1) (.slice (some ⟨gb, 0, none⟩) n c) ys ∧ Bx (w7.setCell ⟨gb, j, none⟩ (.int .i64 (av : Int))) b5 25 (imC W H P (.slice (some ⟨gb, 0, none⟩) n c)) ∧ Bx (w7.setCell ⟨gb, j, none⟩ (.int .i64 (av : Int))) w.heap.size 25 (imC 0 0 0 (.slice none 0 0)) ∧ Rdr (w7.setCell ⟨gb, j, none⟩ (.int .i64 (av : Int))) g (N + 4 + (j + 1)) ∧ w.grownBy (w7.setCell ⟨gb, j, none⟩ (.int .i64 (av : Int))) (some g)) :=
          Lib.hid ⟨ys.set j (av : Int), by simpa using hy, hput.1, bx_gr hM7 hput.2 (by omega), bx_gr hX7 hput.2 (by omega), (hR7.grown hput.2 (fun k hk => by injection hk with hk; omega)).more (by omega), gmix hG7' hput.2 (fun k hk => by injection hk with hk; omega)⟩
        rw [hav] at HN
        have HAV := Lib.hid hav
        clear hy hO7 hM7 hX7 hR7 hG7' hput hav hI
        generalize ys.getD j 0 = z' at *
        go_wp2
        go_roundw
        case rel => exact ⟨j + 1, av, by omega, hab, by go_num, by rw [HAV.out], HN⟩
        case measure => simp [intOf]; omega
      · have hjn : j = n := by omega
        obtain ⟨r0, r1, r2, r3⟩ := hX.im
        have f0 := hX.fz 0
        have f1 := hX.fz 1
        have f2 := hX.fz 2
        have f3 := hX.fz 3
        have HE : Hid (∀ u0 u1 u2 u3 : Value, RandIm P g (N + 300) w (.returned (.agg #[.int .i64 (W : Int), .int .i64 (H : Int), .int .i64 (P : Int), .slice (some ⟨gb, 0, none⟩) n c])) ((((wr.setCell ⟨w.heap.size, 0, none⟩ u0).setCell ⟨w.heap.size, 1, none⟩ u1).setCell ⟨w.heap.size, 2, none⟩ u2).setCell ⟨w.heap.size, 3, none⟩ u3)) := Lib.hid fun u0 u1 u2 u3 => by
          have hset : ∀ (u : World) (i : Nat) (x : Value), u.grownBy (u.setCell ⟨w.heap.size, i, none⟩ x) (some w.heap.size) := fun u i x => ⟨rfl, rfl, rfl, by simp [World.setCell], fun k _ hk => heap_setCell_other u ⟨w.heap.size, i, none⟩ k x (fun e => hk (by simp [e]))⟩
          have hG4 := gtrans (gtrans (gtrans (hset wr 0 u0) (hset _ 1 u1)) (hset _ 2 u2)) (hset _ 3 u3)
          refine ⟨W, H, gb, c, ys, by rw [hy], hW1, hW8, hH1, hH8, by rw [← hy]; exact HnW.out, ?_, (hR.grown hG4 (fun k hk => by injection hk with hk; omega)).more (by omega), gmix hG hG4 (fun k hk => by injection hk with hk; omega)⟩
          rw [← hy]
          exact ((((hO.setB (by show _ < _; simp) u0).setB (by show _ < _; simp) u1).setB (by show _ < _; simp) u2).setB (by show _ < _; simp) u3).base_le (by omega)
        clear hy hO hM hX hR hG hI HI hjn
        go_wp2
        exact bodyPost_ret (v := .agg #[.int .i64 (W : Int), .int .i64 (H : Int), .int .i64 (P : Int), .slice (some ⟨gb, 0, none⟩) n c]) (by simp [results, Try.results64, go_sem, r0, r1, r2, r3]) rfl (HE.out _ _ _ _)
  · go_loopw [7, 8] (fun av iv wr => ∃ j a : Nat, j ≤ n ∧ a ≤ 255 ∧ iv = .int .i64 (j : Int) ∧ av = .int .i64 (a : Int) ∧ Hid (∃ ys : List Int, n = ys.length ∧ Own wr (w.heap.size + 1) (.slice (some ⟨gb, 0, none⟩) n c) ys ∧ Bx wr b5 25 (imC W H P (.slice (some ⟨gb, 0, none⟩) n c)) ∧ Bx wr w.heap.size 25 (imC 0 0 0 (.slice none 0 0)) ∧ Rdr wr g (N + 4 + j) ∧ w.grownBy wr (some g))) (fun _ iv _ => n - (intOf iv).toNat)
    case atStart => exact ⟨0, at0, Nat.zero_le _, by omega, rfl, rfl, HI⟩
    case round =>
      obtain ⟨j, a, hj, ha, rfl, rfl, hI⟩ := hrel
      obtain ⟨ys, hy, hO, hM, hX, hR, hG⟩ := hI.out
      obtain ⟨t0, t1, t2, t3⟩ := hM.im
      by_cases hlt : j < n
      · clear HI
        obtain ⟨av, hav⟩ : ∃ av : Nat, (av : Int) = (a : Int) := ⟨Int.toNat (a : Int), by omega⟩
        have hab : av ≤ 255 := by omega
        clear t0 t1 t2 t3
        obtain ⟨m0, m1, m2, m3⟩ := hM.im
        have hcw := hO.cell hy (j := j) (by omega)
        have hfw := hO.frozen hy j
        have hput := hO.put hy j (av : Int)
        have HN : Hid (∃ ys : List Int, n = ys.length ∧ Own (wr.setCell ⟨gb, j, none⟩ (.int .i64 (av : Int))) (w.heap.size + 1) (.slice (some ⟨gb, 0, none⟩) n c) ys ∧ Bx (wr.setCell ⟨gb, j, none⟩ (.int .i64 (av : Int))) b5 25 (imC W H P (.slice (some ⟨gb, 0, none⟩) n c)) ∧ Bx (wr.setCell ⟨gb, j, none⟩ (.int .i64 (av : Int))) w.heap.size 25 (imC 0 0 0 (.slice none 0 0)) ∧ Rdr (wr.setCell ⟨gb, j, none⟩ (.int .i64 (av : Int))) g (N + 4 + (j + 1)) ∧ w.grownBy (wr.setCell ⟨gb, j, none⟩ (.int .i64 (av : Int))) (some g)) :=
          Lib.hid ⟨ys.set j (av : Int), by simpa using hy, hput.1, bx_gr hM hput.2 (by omega), bx_gr hX hput.2 (by omega), (hR.grown hput.2 (fun k hk => by injection hk with hk; omega)).more (by omega), gmix hG hput.2 (fun k hk => by injection hk with hk; omega)⟩
        rw [hav] at HN
        have HAV := Lib.hid hav
        clear hy hO hM hX hR hG hput hav hI
        generalize ys.getD j 0 = z' at *
        go_wp2
        go_roundw
        case rel => exact ⟨j + 1, av, by omega, hab, by go_num, by rw [HAV.out], HN⟩
        case measure => simp [intOf]; omega
      · have hjn : j = n := by omega
        obtain ⟨r0, r1, r2, r3⟩ := hX.im
        have f0 := hX.fz 0
        have f1 := hX.fz 1
        have f2 := hX.fz 2
        have f3 := hX.fz 3
        have HE : Hid (∀ u0 u1 u2 u3 : Value, RandIm P g (N + 300) w (.returned (.agg #[.int .i64 (W : Int), .int .i64 (H : Int), .int .i64 (P : Int), .slice (some ⟨gb, 0, none⟩) n c])) ((((wr.setCell ⟨w.heap.size, 0, none⟩ u0).setCell ⟨w.heap.size, 1, none⟩ u1).setCell ⟨w.heap.size, 2, none⟩ u2).setCell ⟨w.heap.size, 3, none⟩ u3)) := Lib.hid fun u0 u1 u2 u3 => by
          have hset : ∀ (u : World) (i : Nat) (x : Value), u.grownBy (u.setCell ⟨w.heap.size, i, none⟩ x) (some w.heap.size) := fun u i x => ⟨rfl, rfl, rfl, by simp [World.setCell], fun k _ hk => heap_setCell_other u ⟨w.heap.size, i, none⟩ k x (fun e => hk (by simp [e]))⟩
          have hG4 := gtrans (gtrans (gtrans (hset wr 0 u0) (hset _ 1 u1)) (hset _ 2 u2)) (hset _ 3 u3)
          refine ⟨W, H, gb, c, ys, by rw [hy], hW1, hW8, hH1, hH8, by rw [← hy]; exact HnW.out, ?_, (hR.grown hG4 (fun k hk => by injection hk with hk; omega)).more (by omega), gmix hG hG4 (fun k hk => by injection hk with hk; omega)⟩
          rw [← hy]
          exact ((((hO.setB (by show _ < _; simp) u0).setB (by show _ < _; simp) u1).setB (by show _ < _; simp) u2).setB (by show _ < _; simp) u3).base_le (by omega)
        clear hy hO hM hX hR hG hI HI hjn
        go_wp2
        exact bodyPost_ret (v := .agg #[.int .i64 (W : Int), .int .i64 (H : Int), .int .i64 (P : Int), .slice (some ⟨gb, 0, none⟩) n c]) (by simp [results, Try.results64, go_sem, r0, r1, r2, r3]) rfl (HE.out _ _ _ _)
end Go.Proofs.Ytjcohmljpokgcaa
namespace Go.Proofs.Ytjcohmljpokgcaa
open Go.RowKit
set_option linter.unusedSimpArgs false
set_option linter.unusedVariables false

def DrawIm (g N : Nat) (w : World) (e : Ending) (w' : World) : Prop :=
  ∃ (W H P : Int) (A : Option Addr) (c : Nat) (xs : List Int), e = .returned (.agg #[.int .i64 W, .int .i64 H, .int .i64 P, .slice A xs.length c]) ∧ (xs.length ≤ 256 ∧ P ≤ 99 ∧ 0 ≤ P) ∧ xs.length ≤ c ∧ Rds .i64 w' w'.heap.size A xs ∧ Rdr w' g N ∧ w.grownBy w' (some g) ∧ ∀ a : Addr, A = some a → w.heap.size ≤ a.block
theorem hset (r : Nat) (u : World) (i : Nat) (x : Value) : u.grownBy (u.setCell ⟨r, i, none⟩ x) (some r) := ⟨rfl, rfl, rfl, by simp [World.setCell], fun k _ hk => heap_setCell_other u ⟨r, i, none⟩ k x (fun e => hk (by simp [e]))⟩
theorem Rds.setOff {k : IntKind} {w : World} {B b off r i : Nat} {xs : List Int} (h : Rds k w B (some ⟨b, off, none⟩) xs) (hne : b ≠ r) (x : Value) : Rds k (w.setCell ⟨r, i, none⟩ x) B (some ⟨b, off, none⟩) xs := by
  rcases h with h | ⟨b', off', hA, hb, hc⟩
  · exact .inl h
  · injection hA with hA
    injection hA with h1 h2
    subst h1 h2
    exact .inr ⟨b, off, rfl, hb, fun j hj => (World.cell?_setCell_other w ⟨r, i, none⟩ ⟨b, off + j, none⟩ x (fun e => by injection e with e1; exact hne e1.symm)).trans (hc j hj)⟩
theorem Own.slice' {w : World} {base : Nat} {v : Value} {xs : List Int} (h : Own w base v xs) : ∃ A c, v = .slice A xs.length c ∧ xs.length ≤ c := h.slice
theorem Own.rds' {w : World} {base gb n c : Nat} {xs : List Int} (h : Own w base (.slice (some ⟨gb, 0, none⟩) n c) xs) (hn : n = xs.length) : Rds .i64 w w.heap.size (some ⟨gb, 0, none⟩) xs := by
  subst hn; exact h.rds.2
theorem spoil_fin {w wr : World} {g N N' gb off r c : Nat} {xs : List Int} (hr : Rds .i64 wr wr.heap.size (some ⟨gb, off, none⟩) xs) (hR : Rdr wr g N') (hG : w.grownBy wr (some g)) (hne : gb ≠ r) (hgb : w.heap.size ≤ gb) (hgr : g < r) (hwr : w.heap.size ≤ r) (hN : N' ≤ N) (W H P : Int) (hx : xs.length ≤ 256 ∧ P ≤ 99 ∧ 0 ≤ P) (hc : xs.length ≤ c) (u0 u1 u2 u3 : Value) :
    DrawIm g N w (.returned (.agg #[.int .i64 W, .int .i64 H, .int .i64 P, .slice (some ⟨gb, off, none⟩) xs.length c])) ((((wr.setCell ⟨r, 0, none⟩ u0).setCell ⟨r, 1, none⟩ u1).setCell ⟨r, 2, none⟩ u2).setCell ⟨r, 3, none⟩ u3) := by
  have hG4 := gtrans (gtrans (gtrans (hset r wr 0 u0) (hset r _ 1 u1)) (hset r _ 2 u2)) (hset r _ 3 u3)
  refine ⟨W, H, P, _, c, xs, rfl, hx, hc, ?_, (hR.grown hG4 (fun k hk => by injection hk with hk; omega)).more hN, gmix hG hG4 (fun k hk => by injection hk with hk; omega), fun a ha => by injection ha with ha; subst ha; exact hgb⟩
  exact ((((hr.setOff hne u0).setOff hne u1).setOff hne u2).setOff hne u3).more (by simp [World.setCell])
theorem bx_set {w : World} {b i : Nat} {T : TypeId} {cs : Array Value} {r : Nat} (h : Bx w b T cs) (hne : b ≠ r) (x : Value) : Bx (w.setCell ⟨r, i, none⟩ x) b T cs := (Below.heap_setCell w ⟨r, i, none⟩ x b hne).trans h
set_option maxRecDepth 100000 in
set_option maxHeartbeats 16000000 in
theorem spoilImage_any (W H P : Int) (hW0 : 0 ≤ W) (hW1 : W ≤ 100) (hPb : P ≤ 99 ∧ 0 ≤ P) (gb c n : Nat) (xs : List Int) (hn : n = xs.length) (hn1 : 0 < n) (hn2 : n ≤ 256) (lo g N : Nat) (w00 w : World) (hG00 : w00.grownBy w (some g)) (hlo2 : lo = w00.heap.size) (hO : Own w lo (.slice (some ⟨gb, 0, none⟩) n c) xs) (hlo : g < lo) (hR : Rdr w g N) (hN : N ≤ 100000000) :
    Calls Try.prog 63 #[.pointer (some ⟨g, 0, none⟩), .agg #[.int .i64 W, .int .i64 H, .int .i64 P, .slice (some ⟨gb, 0, none⟩) n c]] w (DrawIm g (N + 3) w00) := by
  have hgl := hR.lt
  have hgb := hO.lt gb rfl
  have hnc : n ≤ c := by
    obtain ⟨_, _, h1, h2⟩ := hO.slice'
    injection h1 with _ h3 h4
    omega
  obtain ⟨u0, hu⟩ : ∃ u0, u0 = (w.alloc (.cells #[.int .i64 W, .int .i64 H, .int .i64 P, .slice (some ⟨gb, 0, none⟩) n c] 25)).alloc (.cells #[.int .i64 0, .int .i64 0, .int .i64 0, .slice none 0 0] 25) := ⟨_, rfl⟩
  have Hz : Hid (u0.heap.size = w.heap.size + 2) := Lib.hid (by rw [hu]; simp)
  have HM0 : Hid (Bx u0 w.heap.size 25 (imC W H P (.slice (some ⟨gb, 0, none⟩) n c))) := Lib.hid (by rw [hu]; exact (Bx.new w 25 _).alloc _)
  have HX0 : Hid (Bx u0 (w.heap.size + 1) 25 (imC 0 0 0 (.slice none 0 0))) := Lib.hid (by rw [hu]; have := Bx.new (w.alloc (.cells #[.int .i64 W, .int .i64 H, .int .i64 P, .slice (some ⟨gb, 0, none⟩) n c] 25)) 25 (imC 0 0 0 (.slice none 0 0)); simpa [imC] using this)
  have HO0 : Hid (Own u0 lo (.slice (some ⟨gb, 0, none⟩) n c) xs) := Lib.hid (by rw [hu]; exact (hO.alloc _).alloc _)
  have HR0 : Hid (Rdr u0 g N) := Lib.hid (by rw [hu]; exact (hR.alloc _).alloc _)
  have HG0 : Hid (w00.grownBy u0 (some g)) := Lib.hid (by rw [hu]; exact gtrans (gtrans hG00 (World.grownBy_alloc w _ _)) (World.grownBy_alloc _ _ _))
  have hz00 := hG00.size
  have HU := Lib.hid hu
  have Hn := Lib.hid hn
  clear hO hR hu hn hG00
  go_enter Try.func63, Try.ntmps63
  go_wp2_with fail
  rw [← HU.out]
  clear HU
  refine (pick_any 40 g N u0 HR0.out (by omega) (by omega)).mono ?_
  intro e u1 hp
  obtain ⟨kd, rfl, hkd, hR1, hG1, hs1⟩ := picked_nat hp (by omega)
  have HO := Lib.hid (HO0.out.off hG1 hlo)
  have HM := Lib.hid (bx_gr HM0.out hG1 (by omega))
  have HX := Lib.hid (bx_gr HX0.out hG1 (by omega))
  have HG := Lib.hid (gtrans HG0.out hG1)
  have HR := Lib.hid hR1
  have hz1 : w.heap.size + 2 ≤ u1.heap.size := by have := Hz.out; omega
  clear hp hR1 hG1 hs1 HO0 HM0 HX0 HG0 HR0 Hz
  have hk4 : (kd : Int) = 0 ∨ (kd : Int) = 1 ∨ (kd : Int) = 2 ∨ (kd : Int) = 3 ∨ 4 ≤ (kd : Int) := by omega
  clear hkd
  generalize (kd : Int) = K at hk4 ⊢
  obtain ⟨m0, m1, m2, m3⟩ := HM.out.im
  have f0 := HM.out.fz 0
  have f2 := HM.out.fz 2
  have f3 := HM.out.fz 3
  obtain ⟨r0, r1, r2, r3⟩ := HX.out.im
  have e0 := HX.out.fz 0
  have e1 := HX.out.fz 1
  have e2 := HX.out.fz 2
  have e3 := HX.out.fz 3
  have hne : gb ≠ w.heap.size + 1 := by omega
  have hne0 : gb ≠ w.heap.size := by omega
  rcases hk4 with rfl | rfl | rfl | rfl | hk4
  · have hw1 : IntKind.i64.wrap (W + 1) = W + 1 := IntWalk.i64_in _ (by omega)
    go_wp2_with fail
    refine (one_litB _ [0, 17, W + 1] 3 3 _ g (N + 1) u1 rfl HR.out (by omega) (by simp) (by simp) rfl rfl).mono ?_
    rintro e u2 ⟨q, rfl, hq, hR2, hG2⟩
    have hR2' := Lib.hid hR2
    have HM2 := Lib.hid (bx_gr HM.out hG2 (by omega))
    have HX2 := Lib.hid (bx_gr HX.out hG2 (by omega))
    have HO2 := Lib.hid (HO.out.off hG2 hlo)
    have HG2 := Lib.hid (gtrans HG.out hG2)
    clear hq hR2 hG2 m0 m1 m2 m3 f0 f2 f3 r0 r1 r2 r3 e0 e1 e2 e3
    obtain ⟨m0, m1, m2, m3⟩ := HM2.out.im
    have f0 := HM2.out.fz 0
    obtain ⟨r0, r1, r2, r3⟩ := HX2.out.im
    have e0 := HX2.out.fz 0
    have e1 := HX2.out.fz 1
    have e2 := HX2.out.fz 2
    have e3 := HX2.out.fz 3
    have HE : Hid (∀ v0 v1 v2 v3 : Value, DrawIm g (N + 3) w00 (.returned (.agg #[.int .i64 q, .int .i64 H, .int .i64 P, .slice (some ⟨gb, 0, none⟩) n c])) (((((u2.setCell ⟨w.heap.size, 0, none⟩ (.int .i64 q)).setCell ⟨w.heap.size + 1, 0, none⟩ v0).setCell ⟨w.heap.size + 1, 1, none⟩ v1).setCell ⟨w.heap.size + 1, 2, none⟩ v2).setCell ⟨w.heap.size + 1, 3, none⟩ v3)) := Lib.hid fun v0 v1 v2 v3 => by
      have hs := hset w.heap.size u2 0 (.int .i64 q)
      rw [Hn.out]
      refine spoil_fin (off := 0) ((Rds.setOff (HO2.out.length_eq rfl |>.rds' Hn.out) hne0 _).more (by simp [World.setCell])) (hR2'.out.grown hs (fun k hk => by injection hk with hk; omega)) (gmix HG2.out hs (fun k hk => by injection hk with hk; omega)) hne (by omega) (by omega) (by omega) (by omega) _ _ _ ⟨by rw [← Hn.out]; exact hn2, by omega⟩ (by rw [← Hn.out]; exact hnc) v0 v1 v2 v3
    clear HM2 HX2 HO2 HG2 hR2' HM HX HO HG HR
    go_wp2
    exact bodyPost_ret (v := .agg #[.int .i64 q, .int .i64 H, .int .i64 P, .slice (some ⟨gb, 0, none⟩) n c]) (by simp [results, Try.results63, go_sem, r0, r1, r2, r3, m0, m1, m2, m3]) rfl (HE.out _ _ _ _)
  · obtain ⟨x, xt, hxs⟩ : ∃ x xt, xs = x :: xt := by
      match xs, Hn.out with
      | [], h => simp at h; omega
      | x :: xt, _ => exact ⟨x, xt, rfl⟩
    have HXS := Lib.hid hxs
    have hrds : Rds .i64 u1 u1.heap.size (some ⟨gb, 0, none⟩) xs := HO.out.rds' Hn.out
    have HT : Hid (Rds .i64 u1 u1.heap.size (some ⟨gb, 1, none⟩) xt) := Lib.hid (by
      obtain ⟨b, off, hA, hb, hc⟩ := hrds.cells_ (j := 0) (by rw [← Hn.out]; exact hn1)
      injection hA with hA
      injection hA with h1 h2
      subst h1 h2
      rw [hxs] at hc
      exact Rds.tail (off := 0) hb hc)
    have hxl : n - 1 = xt.length := by have := Hn.out; rw [hxs] at this; simp at this; omega
    have HXL := Lib.hid hxl
    by_cases hc1 : c = 1
    · have hxt : xt = [] := List.eq_nil_of_length_eq_zero (by omega)
      have hn11 : n = 1 := by omega
      have HXT := Lib.hid hxt
      clear hrds hxs hxl hxt HXL Hn HT
      subst hn11
      subst hc1
      have HE : Hid (∀ v0 v1 v2 v3 : Value, DrawIm g (N + 3) w00 (.returned (.agg #[.int .i64 W, .int .i64 H, .int .i64 P, .slice (some ⟨gb, 0, none⟩) 0 0])) (((((u1.setCell ⟨w.heap.size, 3, none⟩ (.slice (some ⟨gb, 0, none⟩) 0 0)).setCell ⟨w.heap.size + 1, 0, none⟩ v0).setCell ⟨w.heap.size + 1, 1, none⟩ v1).setCell ⟨w.heap.size + 1, 2, none⟩ v2).setCell ⟨w.heap.size + 1, 3, none⟩ v3)) := Lib.hid fun v0 v1 v2 v3 => by
        have hs := hset w.heap.size u1 3 (.slice (some ⟨gb, 0, none⟩) 0 0)
        exact spoil_fin (off := 0) (xs := []) (c := 0) (.inl rfl) (HR.out.grown hs (fun k hk => by injection hk with hk; omega)) (gmix HG.out hs (fun k hk => by injection hk with hk; omega)) hne (by omega) (by omega) (by omega) (by omega) _ _ _ ⟨by simp, by omega⟩ (by simp) v0 v1 v2 v3
      clear HM HX HO HG HR
      go_wp2
      exact bodyPost_ret (v := .agg #[.int .i64 W, .int .i64 H, .int .i64 P, .slice (some ⟨gb, 0, none⟩) 0 0]) (by simp [results, Try.results63, go_sem, r0, r1, r2, r3, m0, m1, m2, m3]) rfl (HE.out _ _ _ _)
    · have HE : Hid (∀ v0 v1 v2 v3 : Value, DrawIm g (N + 3) w00 (.returned (.agg #[.int .i64 W, .int .i64 H, .int .i64 P, .slice (some ⟨gb, 1, none⟩) (n - 1) (c - 1)])) (((((u1.setCell ⟨w.heap.size, 3, none⟩ (.slice (some ⟨gb, 1, none⟩) (n - 1) (c - 1))).setCell ⟨w.heap.size + 1, 0, none⟩ v0).setCell ⟨w.heap.size + 1, 1, none⟩ v1).setCell ⟨w.heap.size + 1, 2, none⟩ v2).setCell ⟨w.heap.size + 1, 3, none⟩ v3)) := Lib.hid fun v0 v1 v2 v3 => by
        have hs := hset w.heap.size u1 3 (.slice (some ⟨gb, 1, none⟩) (n - 1) (c - 1))
        rw [hxl]
        exact spoil_fin (off := 1) (xs := xt) ((HT.out.setOff hne0 _).more (by simp [World.setCell])) (HR.out.grown (hset w.heap.size u1 3 _) (fun k hk => by injection hk with hk; omega)) (gmix HG.out (hset w.heap.size u1 3 _) (fun k hk => by injection hk with hk; omega)) hne (by omega) (by omega) (by omega) (by omega) _ _ _ (by omega) (by omega) v0 v1 v2 v3
      have hc2 : 1 < c := by omega
      clear HM HX HO HG HR hrds hxs hxl HXL Hn HT HXS hc1
      go_wp2
      exact bodyPost_ret (v := .agg #[.int .i64 W, .int .i64 H, .int .i64 P, .slice (some ⟨gb, 1, none⟩) (n - 1) (c - 1)]) (by simp [results, Try.results63, go_sem, r0, r1, r2, r3, m0, m1, m2, m3]) rfl (HE.out _ _ _ _)
  · go_wp2
    have hml : w.heap.size < u1.heap.size := by omega
    go_region_held3 (fun w' => w'.cell? ⟨w.heap.size, 3, none⟩ = some (.slice (some ⟨gb, 0, none⟩) n c))
      (first | (with_reducible exact k3) | (with_reducible exact (World.cell?_setCell_other _ ⟨gb, 0, none⟩ ⟨w.heap.size, 3, none⟩ _ (fun e => by injection e with e1; exact hne0 e1)).trans k3) | exact m3 | go_keep)
      (first | (go_at_call 45; refine (one_litB _ [-1, 256] 2 2 _ g (N + 1) u1.drew rfl (by exact HR.out) (by omega) (by simp) (by simp) rfl rfl).mono ?_; rintro e u2 ⟨q, rfl, hq, hR2, hG2⟩; have HM2 := Lib.hid (bx_gr (w := u1.drew) HM.out hG2 (by omega)); obtain ⟨k0, k1, k2, k3⟩ := HM2.out.im; have HX2 := Lib.hid (bx_gr (w := u1.drew) HX.out hG2 (by omega)); have HO2 := Lib.hid (Own.off (w := u1.drew) HO.out hG2 hlo); have HG2 : Hid (w00.grownBy u2 (some g)) := Lib.hid (gtrans (b := u1.drew) ⟨HG.out.os, HG.out.tape, HG.out.output, HG.out.size, HG.out.block⟩ hG2); have HR2 := Lib.hid hR2; have hcw := HO2.out.cell Hn.out (j := 0) (by rw [← Hn.out]; exact hn1); have hfw := HO2.out.frozen Hn.out 0; clear hR2 hG2 hq))
    all_goals
      have HE : Hid (∀ v0 v1 v2 v3 : Value, DrawIm g (N + 3) w00 (.returned (.agg #[.int .i64 W, .int .i64 H, .int .i64 P, .slice (some ⟨gb, 0, none⟩) n c])) (((((u2.setCell ⟨gb, 0, none⟩ (.int .i64 q)).setCell ⟨w.heap.size + 1, 0, none⟩ v0).setCell ⟨w.heap.size + 1, 1, none⟩ v1).setCell ⟨w.heap.size + 1, 2, none⟩ v2).setCell ⟨w.heap.size + 1, 3, none⟩ v3)) := Lib.hid fun v0 v1 v2 v3 => by
        have hput := HO2.out.put Hn.out 0 q
        have hl : n = (xs.set 0 q).length := by rw [List.length_set]; exact Hn.out
        have hr := hput.1.rds' hl
        rw [hl]
        refine spoil_fin (off := 0) hr (HR2.out.grown hput.2 (fun k hk => by injection hk with hk; omega)) (gmix HG2.out hput.2 (fun k hk => by injection hk with hk; omega)) hne (by omega) (by omega) (by omega) (by omega) _ _ _ (by omega) (by omega) v0 v1 v2 v3
      have hz2 := HG2.out.size
      obtain ⟨r0, r1, r2, r3⟩ := HX2.out.im
      have e0 := HX2.out.fz 0
      have e1 := HX2.out.fz 1
      have e2 := HX2.out.fz 2
      have e3 := HX2.out.fz 3
      clear HM2 HX2 HO2 HG2 HR2 HM HX HO HG HR m0 m1 m2 m3 Hn
      go_wp2
      exact bodyPost_ret (v := .agg #[.int .i64 W, .int .i64 H, .int .i64 P, .slice (some ⟨gb, 0, none⟩) n c]) (by simp [results, Try.results63, go_sem, r0, r1, r2, r3, k0, k1, k2, k3]) rfl (HE.out _ _ _ _)
  · go_wp2_with fail
    refine (one_litB _ [0, 5] 2 2 _ g (N + 1) u1 rfl HR.out (by omega) (by simp) (by simp) rfl rfl).mono ?_
    rintro e u2 ⟨q, rfl, hq, hR2, hG2⟩
    have hR2' := Lib.hid hR2
    have HM2 := Lib.hid (bx_gr HM.out hG2 (by omega))
    have HX2 := Lib.hid (bx_gr HX.out hG2 (by omega))
    have HO2 := Lib.hid (HO.out.off hG2 hlo)
    have HG2 := Lib.hid (gtrans HG.out hG2)
    have hqb : q ≤ 99 ∧ 0 ≤ q := by simp at hq; omega
    clear hq hR2 hG2 m0 m1 m2 m3 f0 f2 f3 r0 r1 r2 r3 e0 e1 e2 e3
    obtain ⟨m0, m1, m2, m3⟩ := HM2.out.im
    have f2 := HM2.out.fz 2
    obtain ⟨r0, r1, r2, r3⟩ := HX2.out.im
    have e0 := HX2.out.fz 0
    have e1 := HX2.out.fz 1
    have e2 := HX2.out.fz 2
    have e3 := HX2.out.fz 3
    have HE : Hid (∀ v0 v1 v2 v3 : Value, DrawIm g (N + 3) w00 (.returned (.agg #[.int .i64 W, .int .i64 H, .int .i64 q, .slice (some ⟨gb, 0, none⟩) n c])) (((((u2.setCell ⟨w.heap.size, 2, none⟩ (.int .i64 q)).setCell ⟨w.heap.size + 1, 0, none⟩ v0).setCell ⟨w.heap.size + 1, 1, none⟩ v1).setCell ⟨w.heap.size + 1, 2, none⟩ v2).setCell ⟨w.heap.size + 1, 3, none⟩ v3)) := Lib.hid fun v0 v1 v2 v3 => by
      have hs := hset w.heap.size u2 2 (.int .i64 q)
      rw [Hn.out]
      refine spoil_fin (off := 0) ((Rds.setOff (HO2.out.length_eq rfl |>.rds' Hn.out) hne0 _).more (by simp [World.setCell])) (hR2'.out.grown hs (fun k hk => by injection hk with hk; omega)) (gmix HG2.out hs (fun k hk => by injection hk with hk; omega)) hne (by omega) (by omega) (by omega) (by omega) _ _ _ ⟨by rw [← Hn.out]; exact hn2, by omega⟩ (by rw [← Hn.out]; exact hnc) v0 v1 v2 v3
    clear HM2 HX2 HO2 HG2 hR2' HM HX HO HG HR
    go_wp2
    exact bodyPost_ret (v := .agg #[.int .i64 W, .int .i64 H, .int .i64 q, .slice (some ⟨gb, 0, none⟩) n c]) (by simp [results, Try.results63, go_sem, r0, r1, r2, r3, m0, m1, m2, m3]) rfl (HE.out _ _ _ _)
  · have b0 : (K == 0) = false := beq_eq_false_iff_ne.2 (by omega)
    have b1 : (K == 1) = false := beq_eq_false_iff_ne.2 (by omega)
    have b2 : (K == 2) = false := beq_eq_false_iff_ne.2 (by omega)
    have b3 : (K == 3) = false := beq_eq_false_iff_ne.2 (by omega)
    have HE : Hid (∀ v0 v1 v2 v3 : Value, DrawIm g (N + 3) w00 (.returned (.agg #[.int .i64 W, .int .i64 H, .int .i64 P, .slice (some ⟨gb, 0, none⟩) n c])) ((((u1.setCell ⟨w.heap.size + 1, 0, none⟩ v0).setCell ⟨w.heap.size + 1, 1, none⟩ v1).setCell ⟨w.heap.size + 1, 2, none⟩ v2).setCell ⟨w.heap.size + 1, 3, none⟩ v3)) := Lib.hid fun v0 v1 v2 v3 => by
      have hr := HO.out.rds' Hn.out
      rw [Hn.out]
      exact spoil_fin (off := 0) hr HR.out HG.out hne (by omega) (by omega) (by omega) (by omega) _ _ _ ⟨by rw [← Hn.out]; exact hn2, by omega⟩ (by rw [← Hn.out]; exact hnc) v0 v1 v2 v3
    clear HM HX HO HG HR Hn
    go_wp2
    exact bodyPost_ret (v := .agg #[.int .i64 W, .int .i64 H, .int .i64 P, .slice (some ⟨gb, 0, none⟩) n c]) (by simp [results, Try.results63, go_sem, r0, r1, r2, r3, m0, m1, m2, m3]) rfl (HE.out _ _ _ _)
set_option maxHeartbeats 2000000 in
theorem anyPlanes_any (g N : Nat) (w : World) (h : Rdr w g N) (hN : N ≤ 1000000000) :
    Calls Try.prog 22 #[.pointer (some ⟨g, 0, none⟩)] w (Drawn1 (fun d => 1 ≤ d ∧ d ≤ 4) g (N + 1) w) := by
  go_enter Try.func22, Try.ntmps22
  go_wp2_with fail
  refine (one_lit _ [1, 3, 1, 4, 2] _ _ g N w h hN (by simp) (by simp) rfl rfl).mono ?_
  rintro e w' ⟨k, rfl, hk, hr, hg⟩
  have hk' : 1 ≤ k ∧ k ≤ 4 := by simp at hk; omega
  clear hk h
  go_wp2
  go_ret
  exact ⟨k, rfl, hk', hr, hg⟩
theorem draw_store {w wr : World} {g N r : Nat} {W H P : Int} {A : Option Addr} {c : Nat} {xs : List Int} (hx : xs.length ≤ 256 ∧ P ≤ 99 ∧ 0 ≤ P) (hc : xs.length ≤ c) (hr : Rds .i64 wr wr.heap.size A xs) (hA : ∀ a : Addr, A = some a → r < a.block) (hR : Rdr wr g N) (hG : w.grownBy wr (some g)) (hgr : g < r) (hwr : w.heap.size ≤ r) (u0 u1 u2 u3 : Value) :
    DrawIm g N w (.returned (.agg #[.int .i64 W, .int .i64 H, .int .i64 P, .slice A xs.length c])) ((((wr.setCell ⟨r, 0, none⟩ u0).setCell ⟨r, 1, none⟩ u1).setCell ⟨r, 2, none⟩ u2).setCell ⟨r, 3, none⟩ u3) := by
  have hG4 := gtrans (gtrans (gtrans (hset r wr 0 u0) (hset r _ 1 u1)) (hset r _ 2 u2)) (hset r _ 3 u3)
  refine ⟨W, H, P, A, c, xs, rfl, hx, hc, ?_, hR.grown hG4 (fun k hk => by injection hk with hk; omega), gmix hG hG4 (fun k hk => by injection hk with hk; omega), fun a ha => by have := hA a ha; omega⟩
  rcases hr with h | ⟨b, off, rfl, hb, hcl⟩
  · exact .inl h
  · have hne : b ≠ r := by have : r < b := hA _ rfl; omega
    exact (((((Rds.setOff (.inr ⟨b, off, rfl, hb, hcl⟩ : Rds .i64 wr wr.heap.size (some ⟨b, off, none⟩) xs) hne u0).setOff hne u1).setOff hne u2).setOff hne u3).more (by simp [World.setCell]))
set_option maxHeartbeats 4000000 in
theorem anyImage_any (g N : Nat) (w : World) (h : Rdr w g N) (hN : N ≤ 1000000) :
    Calls Try.prog 62 #[.pointer (some ⟨g, 0, none⟩)] w (DrawIm g (N + 304) w) := by
  have hgl := h.lt
  obtain ⟨u0, hu⟩ : ∃ u0, u0 = w.alloc (.cells #[.int .i64 0, .int .i64 0, .int .i64 0, .slice none 0 0] 25) := ⟨_, rfl⟩
  have Hz : Hid (u0.heap.size = w.heap.size + 1) := Lib.hid (by rw [hu]; simp)
  have HX0 : Hid (Bx u0 w.heap.size 25 (imC 0 0 0 (.slice none 0 0))) := Lib.hid (by rw [hu]; exact Bx.new w _ _)
  have HR0 : Hid (Rdr u0 g N) := Lib.hid (by rw [hu]; exact h.alloc _)
  have HG0 : Hid (w.grownBy u0 (some g)) := Lib.hid (by rw [hu]; exact World.grownBy_alloc w _ _)
  have HU := Lib.hid hu
  clear h hu
  go_enter Try.func62, Try.ntmps62
  go_wp2_with fail
  rw [← HU.out]
  clear HU
  refine (anyPlanes_any g N u0 HR0.out (by omega)).mono ?_
  rintro e u1 ⟨P', rfl, hP', hR1, hG1⟩
  obtain ⟨P, rfl⟩ := Int.eq_ofNat_of_zero_le (show 0 ≤ P' by omega)
  have hP1 : 1 ≤ P := by omega
  have hP4 : P ≤ 4 := by omega
  have HX1 := Lib.hid (bx_gr HX0.out hG1 (by omega))
  have HG1 := Lib.hid (gtrans HG0.out hG1)
  have Hz1 : Hid (w.heap.size + 1 ≤ u1.heap.size) := Lib.hid (by have := hG1.size; have := Hz.out; omega)
  clear hP' hG1 HX0 HG0 HR0 Hz
  go_wp2_with fail
  refine (randomImage_any P hP1 hP4 g (N + 1) u1 hR1 (by omega)).mono ?_
  rintro e u2 ⟨W, H, gb, c, xs, rfl, hW1, hW8, hH1, hH8, hl, hO, hR2, hG2⟩
  have hWH : W * H ≤ 64 := by have := Nat.mul_le_mul hW8 hH8; omega
  have hn256 : W * H * P ≤ 256 := by have := Nat.mul_le_mul hWH hP4; omega
  have hnpos : 0 < W * H * P := Nat.mul_pos (Nat.mul_pos (by omega) (by omega)) (by omega)
  have HX2 := Lib.hid (bx_gr HX1.out hG2 (by omega))
  have Hz2 := Lib.hid hG2.size
  have HG2 := Lib.hid hG2
  have HL := Lib.hid (show 0 < xs.length ∧ xs.length ≤ 256 by omega)
  clear HX1 hG2 hR1 hl hWH hn256 hnpos
  go_wp2_with fail
  refine (spoilImage_any W H P (by omega) (by omega) (by omega) gb c xs.length xs rfl HL.out.1 HL.out.2 u1.heap.size g (N + 301) u1 u2 HG2.out rfl hO (by have := Hz1.out; omega) (hR2.more (by omega)) (by omega)).mono ?_
  rintro e u3 ⟨W3, H3, P3, A3, c3, ys, rfl, hy, hyc, hr3, hR3, hG3, hA3⟩
  have HX3 : Hid (Bx u3 w.heap.size 25 (imC 0 0 0 (.slice none 0 0))) := Lib.hid ((hG3.block _ (by have := Hz1.out; omega) (by simp; omega)).trans ((HG2.out.block _ (by have := Hz1.out; omega) (by simp; omega)).symm.trans HX2.out))
  obtain ⟨r0, r1, r2, r3⟩ := HX3.out.im
  have f0 := HX3.out.fz 0
  have f1 := HX3.out.fz 1
  have f2 := HX3.out.fz 2
  have f3 := HX3.out.fz 3
  have HE : Hid (∀ v0 v1 v2 v3 : Value, DrawIm g (N + 304) w (.returned (.agg #[.int .i64 W3, .int .i64 H3, .int .i64 P3, .slice A3 ys.length c3])) ((((u3.setCell ⟨w.heap.size, 0, none⟩ v0).setCell ⟨w.heap.size, 1, none⟩ v1).setCell ⟨w.heap.size, 2, none⟩ v2).setCell ⟨w.heap.size, 3, none⟩ v3)) := Lib.hid fun v0 v1 v2 v3 =>
    draw_store hy hyc hr3 (fun a ha => by have := hA3 a ha; have := Hz1.out; omega) hR3 (gtrans HG1.out hG3) hgl (Nat.le_refl _) v0 v1 v2 v3
  clear HX2 HX3 HG1 HG2 HL Hz1 Hz2 hO hR2 hr3 hR3 hG3 hA3 hy hyc
  go_wp2
  exact bodyPost_ret (v := .agg #[.int .i64 W3, .int .i64 H3, .int .i64 P3, .slice A3 ys.length c3]) (by simp [results, Try.results62, go_sem, r0, r1, r2, r3]) rfl (HE.out _ _ _ _)
def DrawnIm (w : World) (e : Ending) (w' : World) : Prop :=
  ∃ (W H P : Int) (A : Option Addr) (c : Nat) (xs : List Int), e = .returned (.agg #[.int .i64 W, .int .i64 H, .int .i64 P, .slice A xs.length c]) ∧ xs.length ≤ 256 ∧ xs.length ≤ c ∧ Rds .i64 w' w'.heap.size A xs ∧ Below w.heap.size w w'
end Go.Proofs.Ytjcohmljpokgcaa
namespace Go.Proofs.Ytjcohmljpokgcaa
open Go.RowKit
set_option linter.unusedSimpArgs false
set_option linter.unusedVariables false

set_option maxHeartbeats 4000000 in
theorem grayImage_any (g N : Nat) (w : World) (h : Rdr w g N) (hN : N ≤ 100000) :
    Calls Try.prog 24 #[.pointer (some ⟨g, 0, none⟩)] w (DrawIm g (N + 305) w) := by
  have hgl := h.lt
  obtain ⟨u0, hu⟩ : ∃ u0, u0 = w.alloc (.cells #[.int .i64 0, .int .i64 0, .int .i64 0, .slice none 0 0] 25) := ⟨_, rfl⟩
  have Hz : Hid (u0.heap.size = w.heap.size + 1) := Lib.hid (by rw [hu]; simp)
  have HX0 : Hid (Bx u0 w.heap.size 25 (imC 0 0 0 (.slice none 0 0))) := Lib.hid (by rw [hu]; exact Bx.new w _ _)
  have HR0 : Hid (Rdr u0 g N) := Lib.hid (by rw [hu]; exact h.alloc _)
  have HG0 : Hid (w.grownBy u0 (some g)) := Lib.hid (by rw [hu]; exact World.grownBy_alloc w _ _)
  have HU := Lib.hid hu
  clear h hu
  go_enter Try.func24, Try.ntmps24
  go_wp2_with fail
  rw [← HU.out]
  clear HU
  refine (pick_any 20 g N u0 HR0.out (by omega) (by omega)).mono ?_
  rintro e u1 ⟨k, rfl, hk0, hk1, hR1, hG1, hsz1⟩
  have HX1 := Lib.hid (bx_gr HX0.out hG1 (by omega))
  have HG1 := Lib.hid (gtrans HG0.out hG1)
  have Hz1 : Hid (w.heap.size + 1 ≤ u1.heap.size) := Lib.hid (by have := hG1.size; have := Hz.out; omega)
  clear hk1 hsz1 hG1 HX0 HG0 HR0 Hz
  by_cases hk : k = 0
  · go_wp2_with fail
    refine (anyImage_any g (N + 1) u1 hR1 (by omega)).mono ?_
    rintro e u3 ⟨W3, H3, P3, A3, c3, ys, rfl, hy, hyc, hr3, hR3, hG3, hA3⟩
    have HX3 : Hid (Bx u3 w.heap.size 25 (imC 0 0 0 (.slice none 0 0))) := Lib.hid (bx_gr HX1.out hG3 (by omega))
    obtain ⟨r0, r1, r2, r3⟩ := HX3.out.im
    have f0 := HX3.out.fz 0
    have f1 := HX3.out.fz 1
    have f2 := HX3.out.fz 2
    have f3 := HX3.out.fz 3
    have HE : Hid (∀ v0 v1 v2 v3 : Value, DrawIm g (N + 305) w (.returned (.agg #[.int .i64 W3, .int .i64 H3, .int .i64 P3, .slice A3 ys.length c3])) ((((u3.setCell ⟨w.heap.size, 0, none⟩ v0).setCell ⟨w.heap.size, 1, none⟩ v1).setCell ⟨w.heap.size, 2, none⟩ v2).setCell ⟨w.heap.size, 3, none⟩ v3)) := Lib.hid fun v0 v1 v2 v3 =>
      draw_store hy hyc hr3 (fun a ha => by have := hA3 a ha; have := Hz1.out; omega) (hR3.more (by omega)) (gtrans HG1.out hG3) hgl (Nat.le_refl _) v0 v1 v2 v3
    clear HX1 HX3 HG1 Hz1 hr3 hR3 hG3 hA3 hy hyc
    go_wp2
    exact bodyPost_ret (v := .agg #[.int .i64 W3, .int .i64 H3, .int .i64 P3, .slice A3 ys.length c3]) (by simp [results, Try.results24, go_sem, r0, r1, r2, r3]) rfl (HE.out _ _ _ _)
  · go_wp2_with fail
    refine (randomImage_any 1 (by omega) (by omega) g (N + 1) u1 hR1 (by omega)).mono ?_
    rintro e u2 ⟨W, H, gb, c, xs, rfl, hW1, hW8, hH1, hH8, hl, hO, hR2, hG2⟩
    have hWH : W * H ≤ 64 := by have := Nat.mul_le_mul hW8 hH8; omega
    have HX2 := Lib.hid (bx_gr HX1.out hG2 (by omega))
    have Hz2 := Lib.hid hG2.size
    have HG2 := Lib.hid hG2
    have hWHp : 0 < W * H := Nat.mul_pos (by omega) (by omega)
    have HL := Lib.hid (show 0 < xs.length ∧ xs.length ≤ 256 by omega)
    clear HX1 hG2 hR1 hl hWH hWHp
    go_wp2_with fail
    refine (spoilImage_any W H 1 (by omega) (by omega) (by omega) gb c xs.length xs rfl HL.out.1 HL.out.2 u1.heap.size g (N + 301) u1 u2 HG2.out rfl hO (by have := Hz1.out; omega) (hR2.more (by omega)) (by omega)).mono ?_
    rintro e u3 ⟨W3, H3, P3, A3, c3, ys, rfl, hy, hyc, hr3, hR3, hG3, hA3⟩
    have HX3 : Hid (Bx u3 w.heap.size 25 (imC 0 0 0 (.slice none 0 0))) := Lib.hid ((hG3.block _ (by have := Hz1.out; omega) (by simp; omega)).trans ((HG2.out.block _ (by have := Hz1.out; omega) (by simp; omega)).symm.trans HX2.out))
    obtain ⟨r0, r1, r2, r3⟩ := HX3.out.im
    have f0 := HX3.out.fz 0
    have f1 := HX3.out.fz 1
    have f2 := HX3.out.fz 2
    have f3 := HX3.out.fz 3
    have HE : Hid (∀ v0 v1 v2 v3 : Value, DrawIm g (N + 305) w (.returned (.agg #[.int .i64 W3, .int .i64 H3, .int .i64 P3, .slice A3 ys.length c3])) ((((u3.setCell ⟨w.heap.size, 0, none⟩ v0).setCell ⟨w.heap.size, 1, none⟩ v1).setCell ⟨w.heap.size, 2, none⟩ v2).setCell ⟨w.heap.size, 3, none⟩ v3)) := Lib.hid fun v0 v1 v2 v3 =>
      draw_store hy hyc hr3 (fun a ha => by have := hA3 a ha; have := Hz1.out; omega) (hR3.more (by omega)) (gtrans HG1.out hG3) hgl (Nat.le_refl _) v0 v1 v2 v3
    clear HX2 HX3 HG1 HG2 HL Hz1 Hz2 hO hR2 hr3 hR3 hG3 hA3 hy hyc
    go_wp2
    exact bodyPost_ret (v := .agg #[.int .i64 W3, .int .i64 H3, .int .i64 P3, .slice A3 ys.length c3]) (by simp [results, Try.results24, go_sem, r0, r1, r2, r3]) rfl (HE.out _ _ _ _)
set_option maxHeartbeats 4000000 in
theorem drawEqu_any (A : Option Addr) (c : Nat) (bs : List Int) (w : World) (hc : bs.length ≤ c) (h : Rdw .u8 w w.heap.size A bs) :
    Calls Try.prog 18 #[.slice A bs.length c] w (DrawnIm w) := by
  obtain ⟨u0, hu⟩ : ∃ u0, u0 = w.alloc (.cells #[.int .i64 0, .int .i64 0, .int .i64 0, .slice none 0 0] 25) := ⟨_, rfl⟩
  have Hz : Hid (u0.heap.size = w.heap.size + 1) := Lib.hid (by rw [hu]; simp)
  have HX0 : Hid (Bx u0 w.heap.size 25 (imC 0 0 0 (.slice none 0 0))) := Lib.hid (by rw [hu]; exact Bx.new w _ _)
  have HB0 : Hid (Below w.heap.size w u0) := Lib.hid (by rw [hu]; exact (Below.refl _ _).alloc (Nat.le_refl _) _)
  have Hh : Hid (Rdw .u8 u0 u0.heap.size A bs) := Lib.hid ⟨(h.1.below HB0.out).more HB0.out.size, h.2⟩
  have HU := Lib.hid hu
  clear h hu
  go_enter Try.func18, Try.ntmps18
  go_wp2_with fail
  rw [← HU.out]
  clear HU
  refine (newReader_any A c bs u0 hc Hh.out).mono ?_
  rintro e u1 ⟨rfl, hr1, hb1, hs1⟩
  have HX1 := Lib.hid (HX0.out.below hb1)
  have HB1 := Lib.hid (HB0.out.trans (hb1.mono HB0.out.size))
  have Hs := Lib.hid hs1
  clear hs1 hb1 HX0 HB0 Hh
  go_wp2_with fail
  refine (grayImage_any u0.heap.size 0 u1 hr1 (by omega)).mono ?_
  rintro e u3 ⟨W3, H3, P3, A3, c3, ys, rfl, hy, hyc, hr3, hR3, hG3, hA3⟩
  have HX3 : Hid (Bx u3 w.heap.size 25 (imC 0 0 0 (.slice none 0 0))) := Lib.hid (bx_gr HX1.out hG3 (by have := Hz.out; omega))
  obtain ⟨r0, r1, r2, r3⟩ := HX3.out.im
  have f0 := HX3.out.fz 0
  have f1 := HX3.out.fz 1
  have f2 := HX3.out.fz 2
  have f3 := HX3.out.fz 3
  have HE : Hid (∀ v0 v1 v2 v3 : Value, DrawnIm w (.returned (.agg #[.int .i64 W3, .int .i64 H3, .int .i64 P3, .slice A3 ys.length c3])) ((((u3.setCell ⟨w.heap.size, 0, none⟩ v0).setCell ⟨w.heap.size, 1, none⟩ v1).setCell ⟨w.heap.size, 2, none⟩ v2).setCell ⟨w.heap.size, 3, none⟩ v3)) := Lib.hid fun v0 v1 v2 v3 => by
    have hG4 : u1.grownBy u3 (some u0.heap.size) := hG3
    have hB3 : Below w.heap.size w u3 := HB1.out.grown hG4 HB1.out.size (fun k hk => by injection hk with hk; have := Hz.out; omega)
    refine ⟨W3, H3, P3, A3, c3, ys, rfl, hy.1, hyc, ?_, (((hB3.setCell (Nat.le_refl _) v0).setCell (Nat.le_refl _) v1).setCell (Nat.le_refl _) v2).setCell (Nat.le_refl _) v3⟩
    rcases hr3 with h | ⟨b, off, rfl, hb, hcl⟩
    · exact .inl h
    · have hne : b ≠ w.heap.size := by have : u1.heap.size ≤ b := hA3 _ rfl; have := Hz.out; have := Hs.out; omega
      exact (((((Rds.setOff (.inr ⟨b, off, rfl, hb, hcl⟩ : Rds .i64 u3 u3.heap.size (some ⟨b, off, none⟩) ys) hne v0).setOff hne v1).setOff hne v2).setOff hne v3).more (by simp [World.setCell]))
  clear HX1 HX3 HB1 hr1 hr3 hR3 hG3 hA3 hy hyc
  go_wp2
  exact bodyPost_ret (v := .agg #[.int .i64 W3, .int .i64 H3, .int .i64 P3, .slice A3 ys.length c3]) (by simp [results, Try.results18, go_sem, r0, r1, r2, r3]) rfl (HE.out _ _ _ _)
end Go.Proofs.Ytjcohmljpokgcaa
namespace Go.Proofs.Ytjcohmljpokgcaa
open Go.RowKit
set_option linter.unusedSimpArgs false
set_option linter.unusedVariables false

def Unf (w : World) (b : Nat) : Prop := ∃ cs T, w.heap[b]? = some (.cells cs T (0, 0))
theorem Unf.fz {w : World} {b : Nat} (h : Unf w b) (i : Nat) : w.frozen? ⟨b, i, none⟩ = false := by
  obtain ⟨cs, T, e⟩ := h
  exact frozen_of_row w b i _ _ e
theorem Unf.set {w : World} {b r i : Nat} (h : Unf w b) (v : Value) : Unf (w.setCell ⟨r, i, none⟩ v) b := by
  obtain ⟨cs, T, e⟩ := h
  by_cases hb : b = r
  · subst hb
    exact ⟨_, T, heap_setCell_same w b i _ T v e⟩
  · exact ⟨cs, T, (Below.heap_setCell w ⟨r, i, none⟩ v b hb).trans e⟩
theorem Unf.kept {w w' : World} {b : Nat} {row' : Option Nat} (h : Unf w b) (hl : b < w.heap.size) (hg : w.grownBy w' row') (hne : some b ≠ row') : Unf w' b := by
  obtain ⟨cs, T, e⟩ := h
  exact ⟨cs, T, (hg.block b hl hne).trans e⟩
theorem Own.unf {w : World} {base gb n c : Nat} {xs : List Int} (h : Own w base (.slice (some ⟨gb, 0, none⟩) n c) xs) : Unf w gb := by
  rcases h.2 with ⟨h0, _⟩ | ⟨g, cap, cur, hv, _, hh, _⟩
  · cases h0
  · injection hv with hv
    injection hv with hv
    injection hv with hv
    subst hv
    exact ⟨cur, _, hh⟩
def DrawIw (g N : Nat) (w : World) (e : Ending) (w' : World) : Prop :=
  ∃ (W H P : Int) (A : Option Addr) (c : Nat) (xs : List Int), e = .returned (.agg #[.int .i64 W, .int .i64 H, .int .i64 P, .slice A xs.length c]) ∧ (xs.length ≤ 256 ∧ P ≤ 99 ∧ 0 ≤ P) ∧ xs.length ≤ c ∧ Rds .i64 w' w'.heap.size A xs ∧ Rdr w' g N ∧ w.grownBy w' (some g) ∧ ∀ a : Addr, A = some a → w.heap.size ≤ a.block ∧ Unf w' a.block
theorem spoil_finW {w wr : World} {g N N' gb off r c : Nat} {xs : List Int} (hU : Unf wr gb) (hr : Rds .i64 wr wr.heap.size (some ⟨gb, off, none⟩) xs) (hR : Rdr wr g N') (hG : w.grownBy wr (some g)) (hne : gb ≠ r) (hgb : w.heap.size ≤ gb) (hgr : g < r) (hwr : w.heap.size ≤ r) (hN : N' ≤ N) (W H P : Int) (hx : xs.length ≤ 256 ∧ P ≤ 99 ∧ 0 ≤ P) (hc : xs.length ≤ c) (u0 u1 u2 u3 : Value) :
    DrawIw g N w (.returned (.agg #[.int .i64 W, .int .i64 H, .int .i64 P, .slice (some ⟨gb, off, none⟩) xs.length c])) ((((wr.setCell ⟨r, 0, none⟩ u0).setCell ⟨r, 1, none⟩ u1).setCell ⟨r, 2, none⟩ u2).setCell ⟨r, 3, none⟩ u3) := by
  have hG4 := gtrans (gtrans (gtrans (hset r wr 0 u0) (hset r _ 1 u1)) (hset r _ 2 u2)) (hset r _ 3 u3)
  refine ⟨W, H, P, _, c, xs, rfl, hx, hc, ?_, (hR.grown hG4 (fun k hk => by injection hk with hk; omega)).more hN, gmix hG hG4 (fun k hk => by injection hk with hk; omega), fun a ha => by injection ha with ha; subst ha; exact ⟨hgb, (((hU.set u0).set u1).set u2).set u3⟩⟩
  exact ((((hr.setOff hne u0).setOff hne u1).setOff hne u2).setOff hne u3).more (by simp [World.setCell])
theorem draw_storeW {w wr : World} {g N r : Nat} {W H P : Int} {A : Option Addr} {c : Nat} {xs : List Int} (hx : xs.length ≤ 256 ∧ P ≤ 99 ∧ 0 ≤ P) (hc : xs.length ≤ c) (hr : Rds .i64 wr wr.heap.size A xs) (hA : ∀ a : Addr, A = some a → r < a.block ∧ Unf wr a.block) (hR : Rdr wr g N) (hG : w.grownBy wr (some g)) (hgr : g < r) (hwr : w.heap.size ≤ r) (u0 u1 u2 u3 : Value) :
    DrawIw g N w (.returned (.agg #[.int .i64 W, .int .i64 H, .int .i64 P, .slice A xs.length c])) ((((wr.setCell ⟨r, 0, none⟩ u0).setCell ⟨r, 1, none⟩ u1).setCell ⟨r, 2, none⟩ u2).setCell ⟨r, 3, none⟩ u3) := by
  obtain ⟨W', H', P', A', c', xs', e, h1, h2, h3, h4, h5, h6⟩ := draw_store hx hc hr (fun a ha => (hA a ha).1) hR hG hgr hwr u0 u1 u2 u3
  refine ⟨W', H', P', A', c', xs', e, h1, h2, h3, h4, h5, fun a ha => ⟨h6 a ha, ?_⟩⟩
  simp only [Ending.returned.injEq, Value.agg.injEq] at e
  have e2 := congrArg (fun a : Array Value => a.toList) e
  simp at e2
  have := (hA a (by rw [e2.2.2.2.1]; exact ha)).2
  exact (((this.set u0).set u1).set u2).set u3
set_option maxRecDepth 100000 in
set_option maxHeartbeats 16000000 in
theorem spoilImW_any (W H P : Int) (hW0 : 0 ≤ W) (hW1 : W ≤ 100) (hPb : P ≤ 99 ∧ 0 ≤ P) (gb c n : Nat) (xs : List Int) (hn : n = xs.length) (hn1 : 0 < n) (hn2 : n ≤ 256) (lo g N : Nat) (w00 w : World) (hG00 : w00.grownBy w (some g)) (hlo2 : lo = w00.heap.size) (hO : Own w lo (.slice (some ⟨gb, 0, none⟩) n c) xs) (hlo : g < lo) (hR : Rdr w g N) (hN : N ≤ 100000000) :
    Calls Try.prog 63 #[.pointer (some ⟨g, 0, none⟩), .agg #[.int .i64 W, .int .i64 H, .int .i64 P, .slice (some ⟨gb, 0, none⟩) n c]] w (DrawIw g (N + 3) w00) := by
  have hgl := hR.lt
  have hgb := hO.lt gb rfl
  have hnc : n ≤ c := by
    obtain ⟨_, _, h1, h2⟩ := hO.slice'
    injection h1 with _ h3 h4
    omega
  obtain ⟨u0, hu⟩ : ∃ u0, u0 = (w.alloc (.cells #[.int .i64 W, .int .i64 H, .int .i64 P, .slice (some ⟨gb, 0, none⟩) n c] 25)).alloc (.cells #[.int .i64 0, .int .i64 0, .int .i64 0, .slice none 0 0] 25) := ⟨_, rfl⟩
  have Hz : Hid (u0.heap.size = w.heap.size + 2) := Lib.hid (by rw [hu]; simp)
  have HM0 : Hid (Bx u0 w.heap.size 25 (imC W H P (.slice (some ⟨gb, 0, none⟩) n c))) := Lib.hid (by rw [hu]; exact (Bx.new w 25 _).alloc _)
  have HX0 : Hid (Bx u0 (w.heap.size + 1) 25 (imC 0 0 0 (.slice none 0 0))) := Lib.hid (by rw [hu]; have := Bx.new (w.alloc (.cells #[.int .i64 W, .int .i64 H, .int .i64 P, .slice (some ⟨gb, 0, none⟩) n c] 25)) 25 (imC 0 0 0 (.slice none 0 0)); simpa [imC] using this)
  have HO0 : Hid (Own u0 lo (.slice (some ⟨gb, 0, none⟩) n c) xs) := Lib.hid (by rw [hu]; exact (hO.alloc _).alloc _)
  have HR0 : Hid (Rdr u0 g N) := Lib.hid (by rw [hu]; exact (hR.alloc _).alloc _)
  have HG0 : Hid (w00.grownBy u0 (some g)) := Lib.hid (by rw [hu]; exact gtrans (gtrans hG00 (World.grownBy_alloc w _ _)) (World.grownBy_alloc _ _ _))
  have hz00 := hG00.size
  have HU := Lib.hid hu
  have Hn := Lib.hid hn
  clear hO hR hu hn hG00
  go_enter Try.func63, Try.ntmps63
  go_wp2_with fail
  rw [← HU.out]
  clear HU
  refine (pick_any 40 g N u0 HR0.out (by omega) (by omega)).mono ?_
  intro e u1 hp
  obtain ⟨kd, rfl, hkd, hR1, hG1, hs1⟩ := picked_nat hp (by omega)
  have HO := Lib.hid (HO0.out.off hG1 hlo)
  have HM := Lib.hid (bx_gr HM0.out hG1 (by omega))
  have HX := Lib.hid (bx_gr HX0.out hG1 (by omega))
  have HG := Lib.hid (gtrans HG0.out hG1)
  have HR := Lib.hid hR1
  have hz1 : w.heap.size + 2 ≤ u1.heap.size := by have := Hz.out; omega
  clear hp hR1 hG1 hs1 HO0 HM0 HX0 HG0 HR0 Hz
  have hk4 : (kd : Int) = 0 ∨ (kd : Int) = 1 ∨ (kd : Int) = 2 ∨ (kd : Int) = 3 ∨ 4 ≤ (kd : Int) := by omega
  clear hkd
  generalize (kd : Int) = K at hk4 ⊢
  obtain ⟨m0, m1, m2, m3⟩ := HM.out.im
  have f0 := HM.out.fz 0
  have f2 := HM.out.fz 2
  have f3 := HM.out.fz 3
  obtain ⟨r0, r1, r2, r3⟩ := HX.out.im
  have e0 := HX.out.fz 0
  have e1 := HX.out.fz 1
  have e2 := HX.out.fz 2
  have e3 := HX.out.fz 3
  have hne : gb ≠ w.heap.size + 1 := by omega
  have hne0 : gb ≠ w.heap.size := by omega
  rcases hk4 with rfl | rfl | rfl | rfl | hk4
  · have hw1 : IntKind.i64.wrap (W + 1) = W + 1 := IntWalk.i64_in _ (by omega)
    go_wp2_with fail
    refine (one_litB _ [0, 17, W + 1] 3 3 _ g (N + 1) u1 rfl HR.out (by omega) (by simp) (by simp) rfl rfl).mono ?_
    rintro e u2 ⟨q, rfl, hq, hR2, hG2⟩
    have hR2' := Lib.hid hR2
    have HM2 := Lib.hid (bx_gr HM.out hG2 (by omega))
    have HX2 := Lib.hid (bx_gr HX.out hG2 (by omega))
    have HO2 := Lib.hid (HO.out.off hG2 hlo)
    have HG2 := Lib.hid (gtrans HG.out hG2)
    clear hq hR2 hG2 m0 m1 m2 m3 f0 f2 f3 r0 r1 r2 r3 e0 e1 e2 e3
    obtain ⟨m0, m1, m2, m3⟩ := HM2.out.im
    have f0 := HM2.out.fz 0
    obtain ⟨r0, r1, r2, r3⟩ := HX2.out.im
    have e0 := HX2.out.fz 0
    have e1 := HX2.out.fz 1
    have e2 := HX2.out.fz 2
    have e3 := HX2.out.fz 3
    have HE : Hid (∀ v0 v1 v2 v3 : Value, DrawIw g (N + 3) w00 (.returned (.agg #[.int .i64 q, .int .i64 H, .int .i64 P, .slice (some ⟨gb, 0, none⟩) n c])) (((((u2.setCell ⟨w.heap.size, 0, none⟩ (.int .i64 q)).setCell ⟨w.heap.size + 1, 0, none⟩ v0).setCell ⟨w.heap.size + 1, 1, none⟩ v1).setCell ⟨w.heap.size + 1, 2, none⟩ v2).setCell ⟨w.heap.size + 1, 3, none⟩ v3)) := Lib.hid fun v0 v1 v2 v3 => by
      have hs := hset w.heap.size u2 0 (.int .i64 q)
      rw [Hn.out]
      refine spoil_finW (hU := (HO2.out.unf.set _)) (off := 0) ((Rds.setOff (HO2.out.length_eq rfl |>.rds' Hn.out) hne0 _).more (by simp [World.setCell])) (hR2'.out.grown hs (fun k hk => by injection hk with hk; omega)) (gmix HG2.out hs (fun k hk => by injection hk with hk; omega)) hne (by omega) (by omega) (by omega) (by omega) _ _ _ ⟨by rw [← Hn.out]; exact hn2, by omega⟩ (by rw [← Hn.out]; exact hnc) v0 v1 v2 v3
    clear HM2 HX2 HO2 HG2 hR2' HM HX HO HG HR
    go_wp2
    exact bodyPost_ret (v := .agg #[.int .i64 q, .int .i64 H, .int .i64 P, .slice (some ⟨gb, 0, none⟩) n c]) (by simp [results, Try.results63, go_sem, r0, r1, r2, r3, m0, m1, m2, m3]) rfl (HE.out _ _ _ _)
  · obtain ⟨x, xt, hxs⟩ : ∃ x xt, xs = x :: xt := by
      match xs, Hn.out with
      | [], h => simp at h; omega
      | x :: xt, _ => exact ⟨x, xt, rfl⟩
    have HXS := Lib.hid hxs
    have hrds : Rds .i64 u1 u1.heap.size (some ⟨gb, 0, none⟩) xs := HO.out.rds' Hn.out
    have HT : Hid (Rds .i64 u1 u1.heap.size (some ⟨gb, 1, none⟩) xt) := Lib.hid (by
      obtain ⟨b, off, hA, hb, hc⟩ := hrds.cells_ (j := 0) (by rw [← Hn.out]; exact hn1)
      injection hA with hA
      injection hA with h1 h2
      subst h1 h2
      rw [hxs] at hc
      exact Rds.tail (off := 0) hb hc)
    have hxl : n - 1 = xt.length := by have := Hn.out; rw [hxs] at this; simp at this; omega
    have HXL := Lib.hid hxl
    by_cases hc1 : c = 1
    · have hxt : xt = [] := List.eq_nil_of_length_eq_zero (by omega)
      have hn11 : n = 1 := by omega
      have HXT := Lib.hid hxt
      clear hrds hxs hxl hxt HXL Hn HT
      subst hn11
      subst hc1
      have HE : Hid (∀ v0 v1 v2 v3 : Value, DrawIw g (N + 3) w00 (.returned (.agg #[.int .i64 W, .int .i64 H, .int .i64 P, .slice (some ⟨gb, 0, none⟩) 0 0])) (((((u1.setCell ⟨w.heap.size, 3, none⟩ (.slice (some ⟨gb, 0, none⟩) 0 0)).setCell ⟨w.heap.size + 1, 0, none⟩ v0).setCell ⟨w.heap.size + 1, 1, none⟩ v1).setCell ⟨w.heap.size + 1, 2, none⟩ v2).setCell ⟨w.heap.size + 1, 3, none⟩ v3)) := Lib.hid fun v0 v1 v2 v3 => by
        have hs := hset w.heap.size u1 3 (.slice (some ⟨gb, 0, none⟩) 0 0)
        exact spoil_finW (hU := (HO.out.unf.set _)) (off := 0) (xs := []) (c := 0) (.inl rfl) (HR.out.grown hs (fun k hk => by injection hk with hk; omega)) (gmix HG.out hs (fun k hk => by injection hk with hk; omega)) hne (by omega) (by omega) (by omega) (by omega) _ _ _ ⟨by simp, by omega⟩ (by simp) v0 v1 v2 v3
      clear HM HX HO HG HR
      go_wp2
      exact bodyPost_ret (v := .agg #[.int .i64 W, .int .i64 H, .int .i64 P, .slice (some ⟨gb, 0, none⟩) 0 0]) (by simp [results, Try.results63, go_sem, r0, r1, r2, r3, m0, m1, m2, m3]) rfl (HE.out _ _ _ _)
    · have HE : Hid (∀ v0 v1 v2 v3 : Value, DrawIw g (N + 3) w00 (.returned (.agg #[.int .i64 W, .int .i64 H, .int .i64 P, .slice (some ⟨gb, 1, none⟩) (n - 1) (c - 1)])) (((((u1.setCell ⟨w.heap.size, 3, none⟩ (.slice (some ⟨gb, 1, none⟩) (n - 1) (c - 1))).setCell ⟨w.heap.size + 1, 0, none⟩ v0).setCell ⟨w.heap.size + 1, 1, none⟩ v1).setCell ⟨w.heap.size + 1, 2, none⟩ v2).setCell ⟨w.heap.size + 1, 3, none⟩ v3)) := Lib.hid fun v0 v1 v2 v3 => by
        have hs := hset w.heap.size u1 3 (.slice (some ⟨gb, 1, none⟩) (n - 1) (c - 1))
        rw [hxl]
        exact spoil_finW (hU := (HO.out.unf.set _)) (off := 1) (xs := xt) ((HT.out.setOff hne0 _).more (by simp [World.setCell])) (HR.out.grown (hset w.heap.size u1 3 _) (fun k hk => by injection hk with hk; omega)) (gmix HG.out (hset w.heap.size u1 3 _) (fun k hk => by injection hk with hk; omega)) hne (by omega) (by omega) (by omega) (by omega) _ _ _ (by omega) (by omega) v0 v1 v2 v3
      have hc2 : 1 < c := by omega
      clear HM HX HO HG HR hrds hxs hxl HXL Hn HT HXS hc1
      go_wp2
      exact bodyPost_ret (v := .agg #[.int .i64 W, .int .i64 H, .int .i64 P, .slice (some ⟨gb, 1, none⟩) (n - 1) (c - 1)]) (by simp [results, Try.results63, go_sem, r0, r1, r2, r3, m0, m1, m2, m3]) rfl (HE.out _ _ _ _)
  · go_wp2
    have hml : w.heap.size < u1.heap.size := by omega
    go_region_held3 (fun w' => w'.cell? ⟨w.heap.size, 3, none⟩ = some (.slice (some ⟨gb, 0, none⟩) n c))
      (first | (with_reducible exact k3) | (with_reducible exact (World.cell?_setCell_other _ ⟨gb, 0, none⟩ ⟨w.heap.size, 3, none⟩ _ (fun e => by injection e with e1; exact hne0 e1)).trans k3) | exact m3 | go_keep)
      (first | (go_at_call 45; refine (one_litB _ [-1, 256] 2 2 _ g (N + 1) u1.drew rfl (by exact HR.out) (by omega) (by simp) (by simp) rfl rfl).mono ?_; rintro e u2 ⟨q, rfl, hq, hR2, hG2⟩; have HM2 := Lib.hid (bx_gr (w := u1.drew) HM.out hG2 (by omega)); obtain ⟨k0, k1, k2, k3⟩ := HM2.out.im; have HX2 := Lib.hid (bx_gr (w := u1.drew) HX.out hG2 (by omega)); have HO2 := Lib.hid (Own.off (w := u1.drew) HO.out hG2 hlo); have HG2 : Hid (w00.grownBy u2 (some g)) := Lib.hid (gtrans (b := u1.drew) ⟨HG.out.os, HG.out.tape, HG.out.output, HG.out.size, HG.out.block⟩ hG2); have HR2 := Lib.hid hR2; have hcw := HO2.out.cell Hn.out (j := 0) (by rw [← Hn.out]; exact hn1); have hfw := HO2.out.frozen Hn.out 0; clear hR2 hG2 hq))
    all_goals
      have HE : Hid (∀ v0 v1 v2 v3 : Value, DrawIw g (N + 3) w00 (.returned (.agg #[.int .i64 W, .int .i64 H, .int .i64 P, .slice (some ⟨gb, 0, none⟩) n c])) (((((u2.setCell ⟨gb, 0, none⟩ (.int .i64 q)).setCell ⟨w.heap.size + 1, 0, none⟩ v0).setCell ⟨w.heap.size + 1, 1, none⟩ v1).setCell ⟨w.heap.size + 1, 2, none⟩ v2).setCell ⟨w.heap.size + 1, 3, none⟩ v3)) := Lib.hid fun v0 v1 v2 v3 => by
        have hput := HO2.out.put Hn.out 0 q
        have hl : n = (xs.set 0 q).length := by rw [List.length_set]; exact Hn.out
        have hr := hput.1.rds' hl
        rw [hl]
        refine spoil_finW (hU := hput.1.unf) (off := 0) hr (HR2.out.grown hput.2 (fun k hk => by injection hk with hk; omega)) (gmix HG2.out hput.2 (fun k hk => by injection hk with hk; omega)) hne (by omega) (by omega) (by omega) (by omega) _ _ _ (by omega) (by omega) v0 v1 v2 v3
      have hz2 := HG2.out.size
      obtain ⟨r0, r1, r2, r3⟩ := HX2.out.im
      have e0 := HX2.out.fz 0
      have e1 := HX2.out.fz 1
      have e2 := HX2.out.fz 2
      have e3 := HX2.out.fz 3
      clear HM2 HX2 HO2 HG2 HR2 HM HX HO HG HR m0 m1 m2 m3 Hn
      go_wp2
      exact bodyPost_ret (v := .agg #[.int .i64 W, .int .i64 H, .int .i64 P, .slice (some ⟨gb, 0, none⟩) n c]) (by simp [results, Try.results63, go_sem, r0, r1, r2, r3, k0, k1, k2, k3]) rfl (HE.out _ _ _ _)
  · go_wp2_with fail
    refine (one_litB _ [0, 5] 2 2 _ g (N + 1) u1 rfl HR.out (by omega) (by simp) (by simp) rfl rfl).mono ?_
    rintro e u2 ⟨q, rfl, hq, hR2, hG2⟩
    have hR2' := Lib.hid hR2
    have HM2 := Lib.hid (bx_gr HM.out hG2 (by omega))
    have HX2 := Lib.hid (bx_gr HX.out hG2 (by omega))
    have HO2 := Lib.hid (HO.out.off hG2 hlo)
    have HG2 := Lib.hid (gtrans HG.out hG2)
    have hqb : q ≤ 99 ∧ 0 ≤ q := by simp at hq; omega
    clear hq hR2 hG2 m0 m1 m2 m3 f0 f2 f3 r0 r1 r2 r3 e0 e1 e2 e3
    obtain ⟨m0, m1, m2, m3⟩ := HM2.out.im
    have f2 := HM2.out.fz 2
    obtain ⟨r0, r1, r2, r3⟩ := HX2.out.im
    have e0 := HX2.out.fz 0
    have e1 := HX2.out.fz 1
    have e2 := HX2.out.fz 2
    have e3 := HX2.out.fz 3
    have HE : Hid (∀ v0 v1 v2 v3 : Value, DrawIw g (N + 3) w00 (.returned (.agg #[.int .i64 W, .int .i64 H, .int .i64 q, .slice (some ⟨gb, 0, none⟩) n c])) (((((u2.setCell ⟨w.heap.size, 2, none⟩ (.int .i64 q)).setCell ⟨w.heap.size + 1, 0, none⟩ v0).setCell ⟨w.heap.size + 1, 1, none⟩ v1).setCell ⟨w.heap.size + 1, 2, none⟩ v2).setCell ⟨w.heap.size + 1, 3, none⟩ v3)) := Lib.hid fun v0 v1 v2 v3 => by
      have hs := hset w.heap.size u2 2 (.int .i64 q)
      rw [Hn.out]
      refine spoil_finW (hU := (HO2.out.unf.set _)) (off := 0) ((Rds.setOff (HO2.out.length_eq rfl |>.rds' Hn.out) hne0 _).more (by simp [World.setCell])) (hR2'.out.grown hs (fun k hk => by injection hk with hk; omega)) (gmix HG2.out hs (fun k hk => by injection hk with hk; omega)) hne (by omega) (by omega) (by omega) (by omega) _ _ _ ⟨by rw [← Hn.out]; exact hn2, by omega⟩ (by rw [← Hn.out]; exact hnc) v0 v1 v2 v3
    clear HM2 HX2 HO2 HG2 hR2' HM HX HO HG HR
    go_wp2
    exact bodyPost_ret (v := .agg #[.int .i64 W, .int .i64 H, .int .i64 q, .slice (some ⟨gb, 0, none⟩) n c]) (by simp [results, Try.results63, go_sem, r0, r1, r2, r3, m0, m1, m2, m3]) rfl (HE.out _ _ _ _)
  · have b0 : (K == 0) = false := beq_eq_false_iff_ne.2 (by omega)
    have b1 : (K == 1) = false := beq_eq_false_iff_ne.2 (by omega)
    have b2 : (K == 2) = false := beq_eq_false_iff_ne.2 (by omega)
    have b3 : (K == 3) = false := beq_eq_false_iff_ne.2 (by omega)
    have HE : Hid (∀ v0 v1 v2 v3 : Value, DrawIw g (N + 3) w00 (.returned (.agg #[.int .i64 W, .int .i64 H, .int .i64 P, .slice (some ⟨gb, 0, none⟩) n c])) ((((u1.setCell ⟨w.heap.size + 1, 0, none⟩ v0).setCell ⟨w.heap.size + 1, 1, none⟩ v1).setCell ⟨w.heap.size + 1, 2, none⟩ v2).setCell ⟨w.heap.size + 1, 3, none⟩ v3)) := Lib.hid fun v0 v1 v2 v3 => by
      have hr := HO.out.rds' Hn.out
      rw [Hn.out]
      exact spoil_finW (hU := HO.out.unf) (off := 0) hr HR.out HG.out hne (by omega) (by omega) (by omega) (by omega) _ _ _ ⟨by rw [← Hn.out]; exact hn2, by omega⟩ (by rw [← Hn.out]; exact hnc) v0 v1 v2 v3
    clear HM HX HO HG HR Hn
    go_wp2
    exact bodyPost_ret (v := .agg #[.int .i64 W, .int .i64 H, .int .i64 P, .slice (some ⟨gb, 0, none⟩) n c]) (by simp [results, Try.results63, go_sem, r0, r1, r2, r3, m0, m1, m2, m3]) rfl (HE.out _ _ _ _)
set_option maxHeartbeats 4000000 in
theorem anyImW_any (g N : Nat) (w : World) (h : Rdr w g N) (hN : N ≤ 1000000) :
    Calls Try.prog 62 #[.pointer (some ⟨g, 0, none⟩)] w (DrawIw g (N + 304) w) := by
  have hgl := h.lt
  obtain ⟨u0, hu⟩ : ∃ u0, u0 = w.alloc (.cells #[.int .i64 0, .int .i64 0, .int .i64 0, .slice none 0 0] 25) := ⟨_, rfl⟩
  have Hz : Hid (u0.heap.size = w.heap.size + 1) := Lib.hid (by rw [hu]; simp)
  have HX0 : Hid (Bx u0 w.heap.size 25 (imC 0 0 0 (.slice none 0 0))) := Lib.hid (by rw [hu]; exact Bx.new w _ _)
  have HR0 : Hid (Rdr u0 g N) := Lib.hid (by rw [hu]; exact h.alloc _)
  have HG0 : Hid (w.grownBy u0 (some g)) := Lib.hid (by rw [hu]; exact World.grownBy_alloc w _ _)
  have HU := Lib.hid hu
  clear h hu
  go_enter Try.func62, Try.ntmps62
  go_wp2_with fail
  rw [← HU.out]
  clear HU
  refine (anyPlanes_any g N u0 HR0.out (by omega)).mono ?_
  rintro e u1 ⟨P', rfl, hP', hR1, hG1⟩
  obtain ⟨P, rfl⟩ := Int.eq_ofNat_of_zero_le (show 0 ≤ P' by omega)
  have hP1 : 1 ≤ P := by omega
  have hP4 : P ≤ 4 := by omega
  have HX1 := Lib.hid (bx_gr HX0.out hG1 (by omega))
  have HG1 := Lib.hid (gtrans HG0.out hG1)
  have Hz1 : Hid (w.heap.size + 1 ≤ u1.heap.size) := Lib.hid (by have := hG1.size; have := Hz.out; omega)
  clear hP' hG1 HX0 HG0 HR0 Hz
  go_wp2_with fail
  refine (randomImage_any P hP1 hP4 g (N + 1) u1 hR1 (by omega)).mono ?_
  rintro e u2 ⟨W, H, gb, c, xs, rfl, hW1, hW8, hH1, hH8, hl, hO, hR2, hG2⟩
  have hWH : W * H ≤ 64 := by have := Nat.mul_le_mul hW8 hH8; omega
  have hn256 : W * H * P ≤ 256 := by have := Nat.mul_le_mul hWH hP4; omega
  have hnpos : 0 < W * H * P := Nat.mul_pos (Nat.mul_pos (by omega) (by omega)) (by omega)
  have HX2 := Lib.hid (bx_gr HX1.out hG2 (by omega))
  have Hz2 := Lib.hid hG2.size
  have HG2 := Lib.hid hG2
  have HL := Lib.hid (show 0 < xs.length ∧ xs.length ≤ 256 by omega)
  clear HX1 hG2 hR1 hl hWH hn256 hnpos
  go_wp2_with fail
  refine (spoilImW_any W H P (by omega) (by omega) (by omega) gb c xs.length xs rfl HL.out.1 HL.out.2 u1.heap.size g (N + 301) u1 u2 HG2.out rfl hO (by have := Hz1.out; omega) (hR2.more (by omega)) (by omega)).mono ?_
  rintro e u3 ⟨W3, H3, P3, A3, c3, ys, rfl, hy, hyc, hr3, hR3, hG3, hA3⟩
  have HX3 : Hid (Bx u3 w.heap.size 25 (imC 0 0 0 (.slice none 0 0))) := Lib.hid ((hG3.block _ (by have := Hz1.out; omega) (by simp; omega)).trans ((HG2.out.block _ (by have := Hz1.out; omega) (by simp; omega)).symm.trans HX2.out))
  obtain ⟨r0, r1, r2, r3⟩ := HX3.out.im
  have f0 := HX3.out.fz 0
  have f1 := HX3.out.fz 1
  have f2 := HX3.out.fz 2
  have f3 := HX3.out.fz 3
  have HE : Hid (∀ v0 v1 v2 v3 : Value, DrawIw g (N + 304) w (.returned (.agg #[.int .i64 W3, .int .i64 H3, .int .i64 P3, .slice A3 ys.length c3])) ((((u3.setCell ⟨w.heap.size, 0, none⟩ v0).setCell ⟨w.heap.size, 1, none⟩ v1).setCell ⟨w.heap.size, 2, none⟩ v2).setCell ⟨w.heap.size, 3, none⟩ v3)) := Lib.hid fun v0 v1 v2 v3 =>
    draw_storeW hy hyc hr3 (fun a ha => ⟨by have := (hA3 a ha).1; have := Hz1.out; omega, (hA3 a ha).2⟩) hR3 (gtrans HG1.out hG3) hgl (Nat.le_refl _) v0 v1 v2 v3
  clear HX2 HX3 HG1 HG2 HL Hz1 Hz2 hO hR2 hr3 hR3 hG3 hA3 hy hyc
  go_wp2
  exact bodyPost_ret (v := .agg #[.int .i64 W3, .int .i64 H3, .int .i64 P3, .slice A3 ys.length c3]) (by simp [results, Try.results62, go_sem, r0, r1, r2, r3]) rfl (HE.out _ _ _ _)
set_option maxHeartbeats 4000000 in
theorem grayImW_any (g N : Nat) (w : World) (h : Rdr w g N) (hN : N ≤ 100000) :
    Calls Try.prog 24 #[.pointer (some ⟨g, 0, none⟩)] w (DrawIw g (N + 305) w) := by
  have hgl := h.lt
  obtain ⟨u0, hu⟩ : ∃ u0, u0 = w.alloc (.cells #[.int .i64 0, .int .i64 0, .int .i64 0, .slice none 0 0] 25) := ⟨_, rfl⟩
  have Hz : Hid (u0.heap.size = w.heap.size + 1) := Lib.hid (by rw [hu]; simp)
  have HX0 : Hid (Bx u0 w.heap.size 25 (imC 0 0 0 (.slice none 0 0))) := Lib.hid (by rw [hu]; exact Bx.new w _ _)
  have HR0 : Hid (Rdr u0 g N) := Lib.hid (by rw [hu]; exact h.alloc _)
  have HG0 : Hid (w.grownBy u0 (some g)) := Lib.hid (by rw [hu]; exact World.grownBy_alloc w _ _)
  have HU := Lib.hid hu
  clear h hu
  go_enter Try.func24, Try.ntmps24
  go_wp2_with fail
  rw [← HU.out]
  clear HU
  refine (pick_any 20 g N u0 HR0.out (by omega) (by omega)).mono ?_
  rintro e u1 ⟨k, rfl, hk0, hk1, hR1, hG1, hsz1⟩
  have HX1 := Lib.hid (bx_gr HX0.out hG1 (by omega))
  have HG1 := Lib.hid (gtrans HG0.out hG1)
  have Hz1 : Hid (w.heap.size + 1 ≤ u1.heap.size) := Lib.hid (by have := hG1.size; have := Hz.out; omega)
  clear hk1 hsz1 hG1 HX0 HG0 HR0 Hz
  by_cases hk : k = 0
  · go_wp2_with fail
    refine (anyImW_any g (N + 1) u1 hR1 (by omega)).mono ?_
    rintro e u3 ⟨W3, H3, P3, A3, c3, ys, rfl, hy, hyc, hr3, hR3, hG3, hA3⟩
    have HX3 : Hid (Bx u3 w.heap.size 25 (imC 0 0 0 (.slice none 0 0))) := Lib.hid (bx_gr HX1.out hG3 (by omega))
    obtain ⟨r0, r1, r2, r3⟩ := HX3.out.im
    have f0 := HX3.out.fz 0
    have f1 := HX3.out.fz 1
    have f2 := HX3.out.fz 2
    have f3 := HX3.out.fz 3
    have HE : Hid (∀ v0 v1 v2 v3 : Value, DrawIw g (N + 305) w (.returned (.agg #[.int .i64 W3, .int .i64 H3, .int .i64 P3, .slice A3 ys.length c3])) ((((u3.setCell ⟨w.heap.size, 0, none⟩ v0).setCell ⟨w.heap.size, 1, none⟩ v1).setCell ⟨w.heap.size, 2, none⟩ v2).setCell ⟨w.heap.size, 3, none⟩ v3)) := Lib.hid fun v0 v1 v2 v3 =>
      draw_storeW hy hyc hr3 (fun a ha => ⟨by have := (hA3 a ha).1; have := Hz1.out; omega, (hA3 a ha).2⟩) (hR3.more (by omega)) (gtrans HG1.out hG3) hgl (Nat.le_refl _) v0 v1 v2 v3
    clear HX1 HX3 HG1 Hz1 hr3 hR3 hG3 hA3 hy hyc
    go_wp2
    exact bodyPost_ret (v := .agg #[.int .i64 W3, .int .i64 H3, .int .i64 P3, .slice A3 ys.length c3]) (by simp [results, Try.results24, go_sem, r0, r1, r2, r3]) rfl (HE.out _ _ _ _)
  · go_wp2_with fail
    refine (randomImage_any 1 (by omega) (by omega) g (N + 1) u1 hR1 (by omega)).mono ?_
    rintro e u2 ⟨W, H, gb, c, xs, rfl, hW1, hW8, hH1, hH8, hl, hO, hR2, hG2⟩
    have hWH : W * H ≤ 64 := by have := Nat.mul_le_mul hW8 hH8; omega
    have HX2 := Lib.hid (bx_gr HX1.out hG2 (by omega))
    have Hz2 := Lib.hid hG2.size
    have HG2 := Lib.hid hG2
    have hWHp : 0 < W * H := Nat.mul_pos (by omega) (by omega)
    have HL := Lib.hid (show 0 < xs.length ∧ xs.length ≤ 256 by omega)
    clear HX1 hG2 hR1 hl hWH hWHp
    go_wp2_with fail
    refine (spoilImW_any W H 1 (by omega) (by omega) (by omega) gb c xs.length xs rfl HL.out.1 HL.out.2 u1.heap.size g (N + 301) u1 u2 HG2.out rfl hO (by have := Hz1.out; omega) (hR2.more (by omega)) (by omega)).mono ?_
    rintro e u3 ⟨W3, H3, P3, A3, c3, ys, rfl, hy, hyc, hr3, hR3, hG3, hA3⟩
    have HX3 : Hid (Bx u3 w.heap.size 25 (imC 0 0 0 (.slice none 0 0))) := Lib.hid ((hG3.block _ (by have := Hz1.out; omega) (by simp; omega)).trans ((HG2.out.block _ (by have := Hz1.out; omega) (by simp; omega)).symm.trans HX2.out))
    obtain ⟨r0, r1, r2, r3⟩ := HX3.out.im
    have f0 := HX3.out.fz 0
    have f1 := HX3.out.fz 1
    have f2 := HX3.out.fz 2
    have f3 := HX3.out.fz 3
    have HE : Hid (∀ v0 v1 v2 v3 : Value, DrawIw g (N + 305) w (.returned (.agg #[.int .i64 W3, .int .i64 H3, .int .i64 P3, .slice A3 ys.length c3])) ((((u3.setCell ⟨w.heap.size, 0, none⟩ v0).setCell ⟨w.heap.size, 1, none⟩ v1).setCell ⟨w.heap.size, 2, none⟩ v2).setCell ⟨w.heap.size, 3, none⟩ v3)) := Lib.hid fun v0 v1 v2 v3 =>
      draw_storeW hy hyc hr3 (fun a ha => ⟨by have := (hA3 a ha).1; have := Hz1.out; omega, (hA3 a ha).2⟩) (hR3.more (by omega)) (gtrans HG1.out hG3) hgl (Nat.le_refl _) v0 v1 v2 v3
    clear HX2 HX3 HG1 HG2 HL Hz1 Hz2 hO hR2 hr3 hR3 hG3 hA3 hy hyc
    go_wp2
    exact bodyPost_ret (v := .agg #[.int .i64 W3, .int .i64 H3, .int .i64 P3, .slice A3 ys.length c3]) (by simp [results, Try.results24, go_sem, r0, r1, r2, r3]) rfl (HE.out _ _ _ _)
end Go.Proofs.Ytjcohmljpokgcaa
namespace Go.Proofs.Ytjcohmljpokgcaa
open Go.RowKit
set_option linter.unusedSimpArgs false
set_option linter.unusedVariables false

def DrawnL (n g N : Nat) (w : World) (e : Ending) (w' : World) : Prop :=
  ∃ (A : Option Addr) (c : Nat) (ys : List Int), e = .returned (.slice A ys.length c) ∧ ys.length ≤ c ∧ ys.length ≤ n ∧ Rds .i64 w' w'.heap.size A ys ∧ Rdr w' g N ∧ w.grownBy w' (some g) ∧ ∀ b : Addr, A = some b → w.heap.size ≤ b.block
set_option maxHeartbeats 4000000 in
theorem anyPixel_any (P : Int) (hP : P ≤ 100) (g N : Nat) (w : World) (h : Rdr w g N) (hN : N ≤ 10000000) :
    Calls Try.prog 46 #[.pointer (some ⟨g, 0, none⟩), .int .i64 P] w (DrawnL 101 g (N + 103) w) := by
  have hgl := h.lt
  have HO0 : Hid (Own (w.alloc (.cells #[] 3)) w.heap.size (.slice (some ⟨w.heap.size, 0, none⟩) 0 0) []) := Lib.hid (own_none w)
  have HR0 : Hid (Rdr (w.alloc (.cells #[] 3)) g N) := Lib.hid (h.alloc _)
  have HG0 : Hid (w.grownBy (w.alloc (.cells #[] 3)) (some g)) := Lib.hid (World.grownBy_alloc w _ _)
  clear h
  go_enter Try.func46, Try.ntmps46
  go_wp2
  go_loopw [5, 6] (fun v i wr => ∃ (k : Nat) (ys : List Int), k ≤ 100 ∧ i = .int .i64 (k : Int) ∧ ys.length = k ∧ Hid (Own wr w.heap.size v ys ∧ Rdr wr g (N + k) ∧ w.grownBy wr (some g))) (fun _ i _ => 100 - (intOf i).toNat)
  case atStart => exact ⟨0, [], by omega, rfl, rfl, Lib.hid ⟨HO0.out, HR0.out, HG0.out⟩⟩
  case round =>
    obtain ⟨k, ys, hk, rfl, hyl, hI⟩ := hrel
    obtain ⟨hO, hR, hG⟩ := hI.out
    obtain ⟨A1, c1, rfl, hc1⟩ := hO.slice
    have HYL := Lib.hid hyl
    have hyl2 : ys.length ≤ 100 := by omega
    have HO := Lib.hid hO
    have HR := Lib.hid hR
    have HG := Lib.hid hG
    clear hO hR hG hI hyl HO0 HR0 HG0
    by_cases hlt : (k : Int) < P
    · go_wp2_with fail
      refine (pick_any 256 g (N + k) wr HR.out (by omega) (by omega)).mono ?_
      intro e w2 hp
      obtain ⟨x, rfl, hx, hR2, hG2, hs2⟩ := picked_nat hp (by omega)
      have HO2 := Lib.hid ((HO.out.off hG2 hgl).alloc (.cells #[.int .i64 (x : Int)] 3))
      have HR2 := Lib.hid (hR2.alloc (.cells #[.int .i64 (x : Int)] 3))
      have HG2 := Lib.hid (gtrans (gtrans HG.out hG2) (World.grownBy_alloc w2 (.cells #[.int .i64 (x : Int)] 3) (some g)))
      have HQ := Lib.hid (rds_one w2 (x : Int))
      have hz2 : w.heap.size ≤ w2.heap.size := by have h1 := HG.out.size; have h2 := hG2.size; omega
      clear hp hR2 hG2 hs2 HO HR HG
      go_wp2_with (at_builtin; refine wpList_app rfl (.tmp 13) (.tmp 16) rfl w.heap.size (.slice A1 ys.length c1) ys rfl HO2.out (some ⟨w2.heap.size, 0, none⟩) 1 1 _ [(x : Int)] rfl rfl HQ.out (by simp; omega) (by simp; omega) ?_; intro v3 w3 hO3 hG3)
      have HN : Hid (Own w3 w.heap.size v3 (ys ++ [(x : Int)]) ∧ Rdr w3 g (N + (k + 1)) ∧ w.grownBy w3 (some g)) := Lib.hid ⟨hO3, (HR2.out.grown hG3 (fun j hj => by have := (HO2.out.lt j hj).1; omega)).more (by omega), gmix HG2.out hG3 (fun j hj => (HO2.out.lt j hj).1)⟩
      clear hO3 hG3 HO2 HR2 HG2 HQ
      go_roundw
      case rel => exact ⟨k + 1, _, by omega, by go_num, by simp [HYL.out], HN⟩
      case measure => simp [intOf]; omega
    · go_wp2_with fail
      refine (spoil_any A1 c1 ys 256 g (N + k) wr HR.out (by omega) HO.out.rds.2 (by omega)).mono ?_
      rintro e w2 ⟨A2, c2, zs, rfl, hzc, hzl, hz, hR2, hG2, hA2⟩
      have hsz := HG.out.size
      have HE : Hid (DrawnL 101 g (N + 103) w (.returned (.slice A2 zs.length c2)) w2) := Lib.hid ⟨A2, c2, zs, rfl, hzc, by omega, hz, hR2.more (by omega), gtrans HG.out hG2, fun b hb => by have := hA2 b hb; omega⟩
      clear hz hR2 hG2 hA2 HO HR HG hzc hzl
      go_wp2
      go_ret
      exact HE.out
def DrawnFill (w : World) (e : Ending) (w' : World) : Prop :=
  ∃ (W H : Int) (A : Option Addr) (c : Nat) (q : List Int), e = .returned (.tuple #[.int .i64 W, .int .i64 H, .slice A q.length c]) ∧ (0 ≤ W ∧ W ≤ 17) ∧ (0 ≤ H ∧ H ≤ 17) ∧ q.length ≤ 256 ∧ q.length ≤ c ∧ Rds .i64 w' w'.heap.size A q ∧ Below w.heap.size w w'
theorem one_litF (cs : Array Value) (xs : List Int) (n c p : Nat) (g N : Nat) (w : World) (hp : p = w.heap.size) (h : Rdr w g N) (hN : N ≤ 1000000000) (hx : 0 < xs.length) (hl : xs.length ≤ 1000) (hn : n = xs.length) (hcs : cs.toList = xs.map (.int .i64)) :
    Calls Try.prog 45 #[.pointer (some ⟨g, 0, none⟩), .slice (some ⟨p, 0, none⟩) n c] (w.alloc (.cells cs 3)) fun e w' => ∃ k : Int, e = .returned (.int .i64 k) ∧ k ∈ xs ∧ Rdr w' g (N + 1) ∧ w.grownBy w' (some g) := by
  subst hp
  exact one_lit cs xs n c g N w h hN hx hl hn hcs
set_option maxHeartbeats 4000000 in
theorem drawFill_any (A : Option Addr) (c : Nat) (bs : List Int) (w : World) (hc : bs.length ≤ c) (h : Rdw .u8 w w.heap.size A bs) :
    Calls Try.prog 11 #[.slice A bs.length c] w (DrawnFill w) := by
  have Hh := Lib.hid h
  clear h
  go_enter Try.func11, Try.ntmps11
  go_wp2_with fail
  refine (newReader_any A c bs w hc Hh.out).mono ?_
  rintro e u1 ⟨rfl, hr1, hb1, hs1⟩
  have HB1 := Lib.hid hb1
  obtain ⟨g, hg⟩ : ∃ g, g = w.heap.size := ⟨_, rfl⟩
  rw [← hg] at hr1 ⊢
  have Hg := Lib.hid hg
  have hz1 : g < u1.heap.size := by omega
  clear hb1 hs1 hg Hh
  go_wp2_with fail
  refine (one_litF _ [1, 3, 5, 16, 17, 0] 6 6 _ g 0 u1 rfl hr1 (by omega) (by simp) (by simp) rfl rfl).mono ?_
  rintro e u2 ⟨W, rfl, hW, hR2, hG2⟩
  have hWb : 0 ≤ W ∧ W ≤ 17 := by simp at hW; omega
  have HG2 := Lib.hid hG2
  have hz2 : g < u2.heap.size := by have := hG2.size; omega
  clear hW hG2 hr1
  go_wp2_with fail
  refine (one_litF _ [1, 3, 5, 16, 17, 0] 6 6 _ g 1 u2 rfl hR2 (by omega) (by simp) (by simp) rfl rfl).mono ?_
  rintro e u3 ⟨H, rfl, hH, hR3, hG3⟩
  have hHb : 0 ≤ H ∧ H ≤ 17 := by simp at hH; omega
  have HG3 := Lib.hid (gtrans HG2.out hG3)
  have hz3 : g < u3.heap.size := by have := hG3.size; omega
  clear hH hG3 hR2 HG2
  go_wp2_with fail
  refine (one_litF _ [1, 3, 4, 2, 0, 5] 6 6 _ g 2 u3 rfl hR3 (by omega) (by simp) (by simp) rfl rfl).mono ?_
  rintro e u4 ⟨P, rfl, hP, hR4, hG4⟩
  have hPb : P ≤ 100 := by simp at hP; omega
  have HG4 := Lib.hid (gtrans HG3.out hG4)
  have hz4 : g < u4.heap.size := by have := hG4.size; omega
  clear hP hG4 hR3 HG3
  go_wp2_with fail
  refine (anyPixel_any P hPb g 3 u4 hR4 (by omega)).mono ?_
  rintro e u5 ⟨A5, c5, q, rfl, hqc, hql, hq, hR5, hG5, hA5⟩
  have HE : Hid (DrawnFill w (.returned (.tuple #[.int .i64 W, .int .i64 H, .slice A5 q.length c5])) u5) := Lib.hid ⟨W, H, A5, c5, q, rfl, hWb, hHb, by omega, hqc, hq, by
    have hG : u1.grownBy u5 (some g) := gtrans HG4.out hG5
    exact HB1.out.grown hG HB1.out.size (fun k hk => by injection hk with hk; have := Hg.out; omega)⟩
  clear hq hR5 hG5 hA5 hR4 HG4 HB1
  go_wp2
  exact bodyPost_ret (v := .tuple #[.int .i64 W, .int .i64 H, .slice A5 q.length c5]) (by simp [results, Try.results11, go_sem]) rfl HE.out
end Go.Proofs.Ytjcohmljpokgcaa
namespace Go.Proofs.Ytjcohmljpokgcaa
open Go.RowKit
set_option linter.unusedSimpArgs false
set_option linter.unusedVariables false
set_option maxRecDepth 20000

def DrawnC (g N : Nat) (w : World) (e : Ending) (w' : World) : Prop :=
  ∃ (A : Option Addr) (c : Nat) (xss : List (List Int)), e = .returned (.slice A xss.length c) ∧ xss.length ≤ c ∧ xss.length ≤ 17 ∧ (∀ i, i < xss.length → (xss.getD i []).length ≤ 101) ∧ Lss w' w.heap.size (.slice A xss.length c) xss ∧ Rdr w' g N ∧ w.grownBy w' (some g)
theorem one_litC (cs : Array Value) (xs : List Int) (n c p : Nat) (g N : Nat) (w : World) (hp : p = w.heap.size) (h : Rdr w g N) (hN : N ≤ 1000000000) (hx : 0 < xs.length) (hl : xs.length ≤ 1000) (hn : n = xs.length) (hcs : cs.toList = xs.map (.int .i64)) :
    Calls Try.prog 45 #[.pointer (some ⟨g, 0, none⟩), .slice (some ⟨p, 0, none⟩) n c] (w.alloc (.cells cs 3)) fun e w' => ∃ k : Int, e = .returned (.int .i64 k) ∧ k ∈ xs ∧ Rdr w' g (N + 1) ∧ w.grownBy w' (some g) := by
  subst hp
  exact one_lit cs xs n c g N w h hN hx hl hn hcs
theorem getD_app {xss : List (List Int)} {ys : List Int} {b : Nat} (h : ∀ i, i < xss.length → (xss.getD i []).length ≤ b) (hy : ys.length ≤ b) : ∀ i, i < (xss ++ [ys]).length → ((xss ++ [ys]).getD i []).length ≤ b := by
  intro i hi
  by_cases e : i < xss.length
  · rw [show (xss ++ [ys]).getD i [] = xss.getD i [] by simp [List.getD_eq_getElem?_getD, List.getElem?_append_left e]]
    exact h i e
  · rw [List.length_append] at hi
    have e2 : i = xss.length := by simp at hi; omega
    subst e2
    rw [show (xss ++ [ys]).getD xss.length [] = ys by simp [List.getD_eq_getElem?_getD]]
    exact hy
theorem getD_set {xss : List (List Int)} {ys : List Int} {b j : Nat} (h : ∀ i, i < xss.length → (xss.getD i []).length ≤ b) (hy : ys.length ≤ b) : ∀ i, i < (xss.set j ys).length → ((xss.set j ys).getD i []).length ≤ b := by
  intro i hi
  rw [List.length_set] at hi
  by_cases e : i = j
  · subst e
    rw [show (xss.set i ys).getD i [] = ys by simp [List.getD_eq_getElem?_getD, hi]]
    exact hy
  · rw [show (xss.set j ys).getD i [] = xss.getD i [] by simp [List.getD_eq_getElem?_getD, List.getElem?_set_ne (Ne.symm e)]]
    exact h i hi
set_option maxHeartbeats 8000000 in
theorem anyColors_any (P : Int) (hP : P ≤ 99 ∧ 0 ≤ P) (g N : Nat) (w : World) (h : Rdr w g N) (hN : N ≤ 1000000) :
    Calls Try.prog 23 #[.pointer (some ⟨g, 0, none⟩), .int .i64 P] w (DrawnC g (N + 2000) w) := by
  have hgl := h.lt
  have HL0 := Lib.hid (Lss.none w)
  have HR0 := Lib.hid (h.alloc (.cells #[] 23))
  have HG0 := Lib.hid (World.grownBy_alloc w (.cells #[] 23) (some g))
  have HS0 : Hid (w.heap.size + 1 = (w.alloc (.cells #[] 23)).heap.size) := Lib.hid (by simp)
  clear h
  go_enter Try.func23, Try.ntmps23
  go_wp2_with fail
  generalize w.alloc (.cells #[] 23) = u1 at *
  refine (one_litC _ [2, 3, 4, 5, 1, 0, 16, 17] 8 8 _ g N u1 HS0.out HR0.out (by omega) (by simp) (by simp) rfl rfl).mono ?_
  rintro e u2 ⟨q, rfl, hq, hR2, hG2⟩
  have hqn : ∃ n : Nat, q = (n : Int) ∧ n ≤ 17 := ⟨q.toNat, by simp at hq; omega, by simp at hq; omega⟩
  obtain ⟨n0, rfl, hn0⟩ := hqn
  have HL2 := Lib.hid (HL0.out.off hG2 hgl)
  have HR2 := Lib.hid hR2
  have HG2 := Lib.hid (gtrans HG0.out hG2)
  clear hq hR2 hG2 HL0 HR0 HG0 HS0
  go_wp2
  go_loopw [5, 6, 7, 8] (fun v q p i wr => ∃ (n : Nat) (xss : List (List Int)), q = .int .i64 (n : Int) ∧ xss.length + n ≤ 17 ∧ Hid (∀ i, i < xss.length → (xss.getD i []).length ≤ 101) ∧ Hid (Lss wr w.heap.size v xss) ∧ Hid (Rdr wr g (N + 1 + xss.length * 100)) ∧ Hid (w.grownBy wr (some g))) (fun _ q _ _ _ => (intOf q).toNat)
  case atStart => exact ⟨n0, [], rfl, by simpa using hn0, Lib.hid (fun i hi => by simp at hi), HL2, HR2, HG2⟩
  case round =>
    obtain ⟨n, xss, rfl, hn, HB, HL, HR, HG⟩ := hrel
    clear HL2 HR2 HG2
    obtain ⟨A5, c5, rfl, hc5⟩ := HL.out.slice
    obtain ⟨u3, hu3⟩ : ∃ u, u = wr := ⟨_, rfl⟩
    subst hu3
    by_cases hlt : 0 < n
    · have HO0 : Hid (Own (u3.alloc (.cells #[] 3)) u3.heap.size (.slice (some ⟨u3.heap.size, 0, none⟩) 0 0) []) := Lib.hid (own_none u3)
      have HR1 := Lib.hid (HR.out.alloc (.cells #[] 3))
      have HG1 := Lib.hid (World.grownBy_alloc u3 (.cells #[] 3) (some g))
      have hgl2 : g < u3.heap.size := Nat.lt_of_lt_of_le hgl HG.out.size
      go_wp2
      go_loopw [7, 8] (fun p i wi => ∃ (k : Nat) (ys : List Int), k ≤ 100 ∧ i = .int .i64 (k : Int) ∧ ys.length = k ∧ Hid (Own wi u3.heap.size p ys ∧ Rdr wi g (N + 1 + xss.length * 100 + k) ∧ u3.grownBy wi (some g))) (fun _ i _ => 100 - (intOf i).toNat)
      case atStart => exact ⟨0, [], by omega, rfl, rfl, Lib.hid ⟨HO0.out, HR1.out, HG1.out⟩⟩
      case round =>
        obtain ⟨k, ys, hk, rfl, hyl, hI⟩ := hrel
        obtain ⟨hO, hR, hG⟩ := hI.out
        obtain ⟨A1, c1, rfl, hc1⟩ := hO.slice
        have HYL := Lib.hid hyl
        have hyl2 : ys.length ≤ 100 := by omega
        have HO := Lib.hid hO
        have HRi := Lib.hid hR
        have HGi := Lib.hid hG
        clear hO hR hG hI hyl HO0 HR1 HG1
        by_cases hlt2 : (k : Int) < P
        · go_wp2_with fail
          refine (pick_any 5 g (N + 1 + xss.length * 100 + k) _ HRi.out (by omega) (by omega)).mono ?_
          intro e w2 hp
          obtain ⟨x, rfl, hx, hR2, hG2, hs2⟩ := picked_nat hp (by omega)
          have hw1 : IntKind.i64.wrap ((x : Int) * 60) = (x : Int) * 60 := IntWalk.i64_in _ (by omega)
          have HO2 := Lib.hid ((HO.out.off hG2 hgl2).alloc (.cells #[.int .i64 ((x : Int) * 60)] 3))
          have HR2 := Lib.hid (hR2.alloc (.cells #[.int .i64 ((x : Int) * 60)] 3))
          have HG2 := Lib.hid (gtrans (gtrans HGi.out hG2) (World.grownBy_alloc w2 (.cells #[.int .i64 ((x : Int) * 60)] 3) (some g)))
          have HQ := Lib.hid (rds_one w2 ((x : Int) * 60))
          have hz2 : u3.heap.size ≤ w2.heap.size := by have h1 := HGi.out.size; have h2 := hG2.size; omega
          clear hp hR2 hG2 hs2 HO HRi HGi
          go_wp2_with (at_builtin; refine wpList_app rfl (.tmp 23) (.tmp 27) rfl u3.heap.size (.slice A1 ys.length c1) ys rfl HO2.out (some ⟨w2.heap.size, 0, none⟩) 1 1 _ [(x : Int) * 60] rfl rfl HQ.out (by simp; omega) (by simp; omega) ?_; intro v3 w3 hO3 hG3)
          have HN : Hid (Own w3 u3.heap.size v3 (ys ++ [(x : Int) * 60]) ∧ Rdr w3 g (N + 1 + xss.length * 100 + (k + 1)) ∧ u3.grownBy w3 (some g)) := Lib.hid ⟨hO3, (HR2.out.grown hG3 (fun j hj => by have := (HO2.out.lt j hj).1; omega)).more (by omega), gmix HG2.out hG3 (fun j hj => (HO2.out.lt j hj).1)⟩
          clear hO3 hG3 HO2 HR2 HG2 HQ
          go_roundw
          case rel => exact ⟨k + 1, _, by omega, by go_num, by simp [HYL.out], HN⟩
          case measure => simp [intOf]; omega
        · have hsep : 0 < ys.length → ∀ a : Addr, A1 = some a → w.heap.size ≤ a.block ∧ a.block < wr.heap.size ∧ (Value.slice A5 xss.length c5).ownBlock ≠ some a.block := by
            intro h0 a ha
            obtain ⟨g1, cap, e1, h2, h3⟩ := HO.out.form h0
            injection e1 with e1
            rw [e1] at ha
            injection ha with ha
            subst ha
            refine ⟨by have := HG.out.size; show w.heap.size ≤ g1; omega, h3, fun e => ?_⟩
            obtain ⟨_, cs, hO5, _⟩ := HL.out
            have := (World.ownsRow.lt hO5 _ e).2
            simp only at this
            omega
          have HLi := Lib.hid ((HL.out.off HGi.out hgl).alloc (.cells #[.slice A1 ys.length c1] 23))
          have HRj := Lib.hid (HRi.out.alloc (.cells #[.slice A1 ys.length c1] 23))
          have HGj := Lib.hid (gtrans HGi.out (World.grownBy_alloc wr (.cells #[.slice A1 ys.length c1] 23) (some g)))
          have HSz : Hid (wr.heap.size < (wr.alloc (.cells #[.slice A1 ys.length c1] 23)).heap.size) := Lib.hid (by simp)
          have HX := Lib.hid ((HO.out.rds.2.alloc (Nat.le_refl _) (.cells #[.slice A1 ys.length c1] 23)).more (Nat.le_of_lt HSz.out))
          have HS := Lib.hid (fun h0 a ha => show w.heap.size ≤ a.block ∧ a.block < (wr.alloc (.cells #[.slice A1 ys.length c1] 23)).heap.size ∧ (Value.slice A5 xss.length c5).ownBlock ≠ some a.block from ⟨(hsep h0 a ha).1, Nat.lt_trans (hsep h0 a ha).2.1 HSz.out, (hsep h0 a ha).2.2⟩)
          have HCl : Hid ((wr.alloc (.cells #[.slice A1 ys.length c1] 23)).cell? ⟨wr.heap.size, 0, none⟩ = some (.slice A1 ys.length c1)) := Lib.hid (cell_of_row _ _ _ _ _ _ (heap_alloc_new wr _))
          have hx1000 : xss.length ≤ 1000 := by omega
          clear hsep HSz HO HRi HGi
          go_wp2_with (at_builtin; refine wpList_appL rfl (.tmp 29) (.tmp 31) rfl w.heap.size (.slice A5 xss.length c5) xss rfl HLi.out wr.heap.size 1 A1 ys ys.length c1 rfl rfl HCl.out hc1 HX.out HS.out hx1000 ?_; intro v3 w3 hL3 hG3 hlo)
          have HN1 := Lib.hid hL3
          have HN2 : Hid (Rdr w3 g (N + 1 + (xss ++ [ys]).length * 100)) := Lib.hid ((HRj.out.grown hG3 (fun j hj => by have := hlo j hj; omega)).more (by rw [List.length_append]; simp; omega))
          have HN3 := Lib.hid (gmix (gtrans HG.out HGj.out) hG3 hlo)
          have HN4 := Lib.hid (getD_app HB.out (show ys.length ≤ 101 by omega))
          clear hL3 hG3 hlo HLi HRj HGj HX HS HCl
          go_roundw
          case rel => exact ⟨n - 1, xss ++ [ys], by go_num, by simp; omega, HN4, HN1, HN2, HN3⟩
          case measure => simp [intOf]; omega
    · have hn0' : n = 0 := by omega
      subst hn0'
      have hxl : xss.length ≤ 17 := by omega
      have hdone : ∀ wz : World, Lss wz w.heap.size (.slice A5 xss.length c5) xss → Rdr wz g (N + 2000) → w.grownBy wz (some g) → DrawnC g (N + 2000) w (.returned (.slice A5 xss.length c5)) wz := fun wz h1 h2 h3 => ⟨A5, c5, xss, rfl, hc5, hxl, HB.out, h1, h2, h3⟩
      have HDone := Lib.hid hdone
      clear hdone
      by_cases hx0 : xss.length = 0
      · have HE := Lib.hid (HDone.out u3 HL.out (HR.out.more (by omega)) HG.out)
        rw [hx0] at HE
        clear HDone HL HR HG
        have h1 : (xss.length : Int) = 0 := by omega
        have h2 : ¬ (xss.length : Int) > 0 := by omega
        go_wp2
        go_ret
        exact HE.out
      · have h2 : (xss.length : Int) > 0 := by omega
        have h3 : 0 < xss.length := by omega
        go_wp2_with fail
        refine (pick_any 20 g (N + 1 + xss.length * 100) u3 HR.out (by omega) (by omega)).mono ?_
        intro e w2 hp
        obtain ⟨x, rfl, hx, hR2, hG2, hs2⟩ := picked_nat hp (by omega)
        have HL2 := Lib.hid (HL.out.off hG2 hgl)
        have HR2 := Lib.hid hR2
        have HG2 := Lib.hid (gtrans HG.out hG2)
        clear hp hR2 hG2 hs2 HL HR HG
        by_cases hx2 : (x : Int) = 0
        · have hb : ((x : Int) == 0) = true := beq_iff_eq.2 hx2
          clear hx2
          go_wp2_with fail
          refine (pick_any 2 g (N + 1 + xss.length * 100 + 1) w2 HR2.out (by omega) (by omega)).mono ?_
          intro e w3 hp
          obtain ⟨y, rfl, hy, hR3, hG3, hs3⟩ := picked_nat hp (by omega)
          have HL3 := Lib.hid (HL2.out.off hG3 hgl)
          have HR3 := Lib.hid hR3
          have HG3 := Lib.hid (gtrans HG2.out hG3)
          have hgl3 : w.heap.size ≤ w3.heap.size := HG3.out.size
          clear hp hR3 hG3 hs3 HL2 HR2 HG2
          have hw1 : IntKind.i64.wrap (P + (y : Int)) = P + (y : Int) := IntWalk.i64_in _ (by omega)
          go_wp2_with fail
          refine (anyPixel_any (P + (y : Int)) (by omega) g (N + 1 + xss.length * 100 + 1 + 1) w3 HR3.out (by omega)).mono ?_
          rintro e w4 ⟨A6, c6, ys, rfl, hyc, hyl, hyr, hR4, hG4, hA6⟩
          have HL4 := HL3.out.off hG4 hgl
          have hsep : 0 < ys.length → ∀ a : Addr, A6 = some a → w.heap.size ≤ a.block ∧ a.block < w4.heap.size ∧ (Value.slice A5 xss.length c5).ownBlock ≠ some a.block := by
            intro h0 a ha
            obtain ⟨b, off, e1, h2, _⟩ := hyr.cells_ h0
            have h5 := hA6 a ha
            rw [e1] at ha
            injection ha with ha
            subst ha
            refine ⟨by simp only at h5 ⊢; omega, h2, fun e => ?_⟩
            obtain ⟨_, cs, hO5, _⟩ := HL3.out
            have := (World.ownsRow.lt hO5 _ e).2
            simp only at this h5
            omega
          obtain ⟨gr, rfl, hgr, hcy, hfr, hG5, hL5⟩ := HL4.put h3 hyc hyr hsep
          obtain ⟨z, hcy⟩ := hcy
          have HE : Hid (DrawnC g (N + 2000) w (.returned (.slice (some ⟨gr, 0, none⟩) xss.length c5)) (w4.setCell ⟨gr, 0, none⟩ (.slice A6 ys.length c6))) := Lib.hid (by
            have hl : (xss.set 0 ys).length = xss.length := List.length_set ..
            refine ⟨some ⟨gr, 0, none⟩, c5, xss.set 0 ys, by rw [hl], by rw [hl]; exact hc5, by rw [hl]; exact hxl, getD_set HB.out hyl, by rw [hl]; exact hL5, (hR4.grown hG5 (fun j hj => by injection hj with hj; omega)).more (by omega), gmix (gtrans HG3.out hG4) hG5 (fun j hj => by injection hj with hj; omega)⟩)
          clear HL4 hsep hL5 hG5 hR4 hG4 hyr HDone HL3 HR3 HG3
          go_wp2
          go_ret
          exact HE.out
        · have hb : ((x : Int) == 0) = false := beq_eq_false_iff_ne.2 hx2
          have HE := Lib.hid (HDone.out w2 HL2.out (HR2.out.more (by omega)) HG2.out)
          clear hx2 HDone HL2 HR2 HG2
          go_wp2
          go_ret
          exact HE.out
end Go.Proofs.Ytjcohmljpokgcaa
namespace Go.Proofs.Ytjcohmljpokgcaa
open Go.RowKit
set_option linter.unusedSimpArgs false
set_option linter.unusedVariables false

theorem drawn_fin {w u3 : World} {W H P : Int} {A : Option Addr} {c : Nat} {ys : List Int} (hy : ys.length ≤ 256) (hyc : ys.length ≤ c) (hr3 : Rds .i64 u3 u3.heap.size A ys) (hA3 : ∀ a : Addr, A = some a → w.heap.size < a.block) (hB3 : Below w.heap.size w u3) (v0 v1 v2 v3 : Value) :
    DrawnIm w (.returned (.agg #[.int .i64 W, .int .i64 H, .int .i64 P, .slice A ys.length c])) ((((u3.setCell ⟨w.heap.size, 0, none⟩ v0).setCell ⟨w.heap.size, 1, none⟩ v1).setCell ⟨w.heap.size, 2, none⟩ v2).setCell ⟨w.heap.size, 3, none⟩ v3) := by
  refine ⟨W, H, P, A, c, ys, rfl, hy, hyc, ?_, (((hB3.setCell (Nat.le_refl _) v0).setCell (Nat.le_refl _) v1).setCell (Nat.le_refl _) v2).setCell (Nat.le_refl _) v3⟩
  rcases hr3 with h | ⟨b, off, rfl, hb, hcl⟩
  · exact .inl h
  · have hne : b ≠ w.heap.size := by have : w.heap.size < b := hA3 _ rfl; omega
    exact (((((Rds.setOff (.inr ⟨b, off, rfl, hb, hcl⟩ : Rds .i64 u3 u3.heap.size (some ⟨b, off, none⟩) ys) hne v0).setOff hne v1).setOff hne v2).setOff hne v3).more (by simp [World.setCell]))
end Go.Proofs.Ytjcohmljpokgcaa
namespace Go.Proofs.Ytjcohmljpokgcaa
open Go.RowKit
set_option linter.unusedSimpArgs false
set_option linter.unusedVariables false
set_option maxRecDepth 20000

theorem Rds.putAt {k : IntKind} {w : World} {B b off i : Nat} {xs : List Int} (h : Rds k w B (some ⟨b, off, none⟩) xs) (hi : i < xs.length) (y : Int) : Rds k (w.setCell ⟨b, off + i, none⟩ (.int k y)) B (some ⟨b, off, none⟩) (xs.set i y) := by
  rcases h with h | ⟨b', off', hA, hb, hc⟩
  · subst h; simp at hi
  · injection hA with hA
    injection hA with h1 h2
    subst h1 h2
    refine .inr ⟨b, off, rfl, hb, fun j hj => ?_⟩
    rw [List.length_set] at hj
    by_cases e : j = i
    · subst e
      rw [World.cell?_setCell_same w _ _ (hc j hj)]
      simp [List.getD_eq_getElem?_getD, hj]
    · rw [World.cell?_setCell_other _ ⟨b, off + i, none⟩ ⟨b, off + j, none⟩ _ (fun e2 => by injection e2 with _ e3; omega), hc j hj]
      simp [List.getD_eq_getElem?_getD, List.getElem?_set_ne (Ne.symm e)]
def DrawnCo (w : World) (e : Ending) (w' : World) : Prop :=
  ∃ (W H P : Int) (A : Option Addr) (c : Nat) (xs : List Int) (A2 : Option Addr) (c2 : Nat) (xss : List (List Int)) (a : Int), e = .returned (.tuple #[.agg #[.int .i64 W, .int .i64 H, .int .i64 P, .slice A xs.length c], .slice A2 xss.length c2, .int .i64 a]) ∧ xs.length ≤ 256 ∧ xs.length ≤ c ∧ xss.length ≤ c2 ∧ xss.length ≤ 256 ∧ (∀ i, i < xss.length → (xss.getD i []).length ≤ 101) ∧ Rds .i64 w' w'.heap.size A xs ∧ Rdss w' w'.heap.size A2 xss ∧ Below w.heap.size w w'
theorem co_fin {w u : World} {W H P a : Int} {A A2 : Option Addr} {c c2 n1 n2 base : Nat} {xs : List Int} {xss : List (List Int)} (hn1 : n1 = xs.length) (hn : n2 = xss.length) (hx : xs.length ≤ 256) (hc : xs.length ≤ c) (hc2 : xss.length ≤ c2) (hx2 : xss.length ≤ 256) (hrow : ∀ i, i < xss.length → (xss.getD i []).length ≤ 101) (hr : Rds .i64 u u.heap.size A xs) (hA : ∀ a : Addr, A = some a → w.heap.size < a.block) (hL : Lss u base (.slice A2 n2 c2) xss) (hb : w.heap.size < base) (hB : Below w.heap.size w u) (v0 v1 v2 v3 : Value) :
    DrawnCo w (.returned (.tuple #[.agg #[.int .i64 W, .int .i64 H, .int .i64 P, .slice A n1 c], .slice A2 n2 c2, .int .i64 a])) ((((u.setCell ⟨w.heap.size, 0, none⟩ v0).setCell ⟨w.heap.size, 1, none⟩ v1).setCell ⟨w.heap.size, 2, none⟩ v2).setCell ⟨w.heap.size, 3, none⟩ v3) := by
  subst hn hn1
  obtain ⟨W1, H1, P1, A1, c1, ys, e1, h1, h2, h3, h4⟩ := drawn_fin (W := W) (H := H) (P := P) hx hc hr hA hB v0 v1 v2 v3
  have hL2 : Lss ((((u.setCell ⟨w.heap.size, 0, none⟩ v0).setCell ⟨w.heap.size, 1, none⟩ v1).setCell ⟨w.heap.size, 2, none⟩ v2).setCell ⟨w.heap.size, 3, none⟩ v3) base (.slice A2 xss.length c2) xss := by
    have hG4 := gtrans (gtrans (gtrans (hset w.heap.size u 0 v0) (hset w.heap.size _ 1 v1)) (hset w.heap.size _ 2 v2)) (hset w.heap.size _ 3 v3)
    exact hL.off hG4 hb
  simp only [Ending.returned.injEq, Value.agg.injEq] at e1
  have e2 := congrArg (fun a : Array Value => a.toList) e1
  simp at e2
  obtain ⟨rfl, rfl, rfl, rfl, e3, rfl⟩ := e2
  exact ⟨W, H, P, A, c, ys, A2, c2, xss, a, by rw [← e3], h1, h2, hc2, hx2, hrow, h3, hL2.rdss, h4⟩
def CoI (u : World) (ab off : Nat) (n : Nat) (wr : World) : Prop :=
  ∃ ys : List Int, ys.length = n ∧ Rds .i64 wr wr.heap.size (some ⟨ab, off, none⟩) ys ∧ Unf wr ab ∧ u.grownBy wr (some ab)
theorem CoI.cell {u wr : World} {ab off n i : Nat} (h : CoI u ab off n wr) (hi : i < n) : ∃ x : Int, wr.cell? ⟨ab, off + i, none⟩ = some (.int .i64 x) ∧ wr.frozen? ⟨ab, off + i, none⟩ = false ∧ ∀ y : Int, CoI u ab off n (wr.setCell ⟨ab, off + i, none⟩ (.int .i64 y)) ∧ CoI u ab off n ((wr.setCell ⟨ab, off + i, none⟩ (.int .i64 y)).drew) := by
  obtain ⟨ys, hl, hr, hU, hG⟩ := h
  obtain ⟨b, o, e, hb, hc⟩ := hr.cells_ (j := i) (by omega)
  injection e with e
  injection e with e1 e2
  subst e1 e2
  refine ⟨ys.getD i 0, hc i (by omega), hU.fz _, fun y => ?_⟩
  have h1 : CoI u ab off n (wr.setCell ⟨ab, off + i, none⟩ (.int .i64 y)) := ⟨ys.set i y, by rw [List.length_set]; exact hl, (hr.putAt (by omega) y).more (by simp [World.setCell]), hU.set _, gtrans hG (hset ab wr (off + i) _)⟩
  refine ⟨h1, ?_⟩
  obtain ⟨zs, a1, a2, a3, a4⟩ := h1
  exact ⟨zs, a1, a2, a3, ⟨a4.os, a4.tape, a4.output, a4.size, a4.block⟩⟩
set_option maxHeartbeats 16000000 in
theorem drawCo_any (A : Option Addr) (c : Nat) (bs : List Int) (w : World) (hc : bs.length ≤ c) (h : Rdw .u8 w w.heap.size A bs) :
    Calls Try.prog 6 #[.slice A bs.length c] w (DrawnCo w) := by
  obtain ⟨u0, hu⟩ : ∃ u0, u0 = w.alloc (.cells #[.int .i64 0, .int .i64 0, .int .i64 0, .slice none 0 0] 25) := ⟨_, rfl⟩
  have Hz : Hid (u0.heap.size = w.heap.size + 1) := Lib.hid (by rw [hu]; simp)
  have HX0 : Hid (Bx u0 w.heap.size 25 (imC 0 0 0 (.slice none 0 0))) := Lib.hid (by rw [hu]; exact Bx.new w _ _)
  have HB0 : Hid (Below w.heap.size w u0) := Lib.hid (by rw [hu]; exact (Below.refl _ _).alloc (Nat.le_refl _) _)
  have Hh : Hid (Rdw .u8 u0 u0.heap.size A bs) := Lib.hid ⟨(h.1.below HB0.out).more HB0.out.size, h.2⟩
  have HU := Lib.hid hu
  clear h hu
  go_enter Try.func6, Try.ntmps6
  go_wp2_with fail
  rw [← HU.out]
  clear HU
  refine (newReader_any A c bs u0 hc Hh.out).mono ?_
  rintro e u1 ⟨rfl, hr1, hb1, hs1⟩
  have HX1 := Lib.hid (HX0.out.below hb1)
  have HB1 := Lib.hid (HB0.out.trans (hb1.mono HB0.out.size))
  obtain ⟨g, hg⟩ : ∃ g, g = u0.heap.size := ⟨_, rfl⟩
  rw [← hg] at hr1 ⊢
  have Hg : Hid (g = w.heap.size + 1) := Lib.hid (by have := Hz.out; omega)
  have Hs1 : Hid (u1.heap.size = w.heap.size + 2) := Lib.hid (by have := Hz.out; omega)
  clear hs1 hb1 HX0 HB0 Hh hg Hz
  go_wp2_with fail
  refine (anyPlanes_any g 0 u1 hr1 (by omega)).mono ?_
  rintro e u2 ⟨P', rfl, hP', hR2, hG2⟩
  have HX2 := Lib.hid (bx_gr HX1.out hG2 (by have := Hg.out; omega))
  have HB2 := Lib.hid (HB1.out.grown hG2 HB1.out.size (fun k hk => by injection hk with hk; have := Hg.out; omega))
  have Hs2 : Hid (w.heap.size + 2 ≤ u2.heap.size) := Lib.hid (by have := hG2.size; have := Hs1.out; omega)
  clear hG2 HX1 HB1 hr1 Hs1
  go_wp2_with fail
  refine (anyColors_any P' (by omega) g (0 + 1) u2 hR2 (by omega)).mono ?_
  rintro e u3 ⟨A6, c6, yss, rfl, hc6, hyl6, hyb6, hL6, hR3, hG3⟩
  have HX3 := Lib.hid (bx_gr HX2.out hG3 (by have := Hg.out; omega))
  have HB3 := Lib.hid (HB2.out.grown hG3 HB2.out.size (fun k hk => by injection hk with hk; have := Hg.out; omega))
  have Hs3 : Hid (w.heap.size + 2 ≤ u3.heap.size) := Lib.hid (by have := hG3.size; have := Hs2.out; omega)
  have HL3 := Lib.hid (hL6.base_le (base' := w.heap.size + 2) Hs2.out)
  have Hrow := Lib.hid hyb6
  clear hG3 HX2 HB2 hL6 hR2 hyb6 Hs2
  go_wp2_with fail
  refine (grayImW_any g (0 + 1 + 2000) u3 hR3 (by omega)).mono ?_
  rintro e u4 ⟨W, H, P, A3, c3, xs, rfl, hy, hyc, hr4, hR4, hG4, hA4⟩
  obtain ⟨bm, hbm⟩ : ∃ bm, bm = u4.heap.size := ⟨_, rfl⟩
  obtain ⟨u5, hu5⟩ : ∃ u5, u5 = u4.alloc (.cells #[.int .i64 W, .int .i64 H, .int .i64 P, .slice A3 xs.length c3] 25) := ⟨_, rfl⟩
  have hG45 : u3.grownBy u5 (some g) := by rw [hu5]; exact gtrans hG4 (World.grownBy_alloc u4 _ _)
  have hgl : g < w.heap.size + 2 := by have := Hg.out; omega
  have HM5 : Hid (Bx u5 bm 25 (imC W H P (.slice A3 xs.length c3))) := Lib.hid (by rw [hu5, hbm]; exact Bx.new u4 _ _)
  have HX5 := Lib.hid (bx_gr HX3.out hG45 (by have := Hg.out; omega))
  have HD5 : Hid (Rds .i64 u5 u5.heap.size A3 xs) := Lib.hid (by rw [hu5]; exact (hr4.alloc (Nat.le_refl _) _).more (by simp))
  have HR5 : Hid (Rdr u5 g (0 + 1 + 2000 + 305)) := Lib.hid (by rw [hu5]; exact hR4.alloc _)
  have HB5 := Lib.hid (HB3.out.grown hG45 HB3.out.size (fun k hk => by injection hk with hk; have := Hg.out; omega))
  have HL5 := Lib.hid (HL3.out.off hG45 hgl)
  have HK5 : Hid (∀ q, w.heap.size + 2 ≤ q → q < u3.heap.size → u5.heap[q]? = u3.heap[q]?) := Lib.hid (fun q h1 h2 => hG45.block q h2 (by simp; omega))
  have HA5 : Hid (∀ a : Addr, A3 = some a → u3.heap.size ≤ a.block ∧ a.block < bm ∧ Unf u5 a.block) := Lib.hid (fun a ha => by
    obtain ⟨h1, h2⟩ := hA4 a ha
    obtain ⟨cs, T, e⟩ := h2
    have hlt : a.block < u4.heap.size := by
      rcases Nat.lt_or_ge a.block u4.heap.size with h | h
      · exact h
      · rw [Array.getElem?_eq_none h] at e; cases e
    exact ⟨h1, by omega, by rw [hu5]; exact ⟨cs, T, (Below.heap_alloc u4 _ _ hlt).trans e⟩⟩)
  have Hs5 : Hid (u3.heap.size ≤ bm ∧ bm < u5.heap.size) := Lib.hid (by rw [hu5, hbm]; have := hG4.size; simp; omega)
  have HU5 := Lib.hid hu5
  have Hbm := Lib.hid hbm
  clear HX3 HB3 hr4 hR4 hG4 hA4 hu5 hbm hG45 hR3
  have Hfin : Hid (∀ (u : World) (zs : List Int) (n1 n2 : Nat), n1 = zs.length → n2 = yss.length → zs.length ≤ 256 → zs.length ≤ c3 → Rds .i64 u u.heap.size A3 zs → Lss u (w.heap.size + 2) (.slice A6 n2 c6) yss → Below w.heap.size w u → ∀ v0 v1 v2 v3 : Value, DrawnCo w (.returned (.tuple #[.agg #[.int .i64 W, .int .i64 H, .int .i64 P, .slice A3 n1 c3], .slice A6 n2 c6, .int .i64 P'])) ((((u.setCell ⟨w.heap.size, 0, none⟩ v0).setCell ⟨w.heap.size, 1, none⟩ v1).setCell ⟨w.heap.size, 2, none⟩ v2).setCell ⟨w.heap.size, 3, none⟩ v3)) :=
    Lib.hid (fun u zs n1 n2 h1 h2 h3 h4 h5 h6 h7 v0 v1 v2 v3 => co_fin h1 h2 h3 h4 hc6 (by omega) Hrow.out h5 (fun a ha => by have := (HA5.out a ha).1; have := Hs3.out; omega) h6 (by omega) h7 v0 v1 v2 v3)
  obtain ⟨n2, hn2⟩ : ∃ n2, n2 = yss.length := ⟨_, rfl⟩
  have Hn2 := Lib.hid hn2
  have hn17 : n2 ≤ 17 := by omega
  have HL3n : Hid (Lss u3 (w.heap.size + 2) (.slice A6 n2 c6) yss) := Lib.hid (by rw [hn2]; exact HL3.out)
  have HLn : Hid (Lss u5 (w.heap.size + 2) (.slice A6 n2 c6) yss) := Lib.hid (by rw [hn2]; exact HL5.out)
  clear HL5 hyl6
  rw [← hn2]
  clear hn2 hc6
  rcases Nat.eq_zero_or_pos n2 with rfl | hpos
  · have e5 := HU5.out
    have eb := Hbm.out
    clear HU5 Hbm
    subst e5
    subst eb
    obtain ⟨n0, n1, n2', n3⟩ := HM5.out.im
    obtain ⟨r0, r1, r2, r3⟩ := HX5.out.im
    have f0 := HX5.out.fz 0
    have f1 := HX5.out.fz 1
    have f2 := HX5.out.fz 2
    have f3 := HX5.out.fz 3
    have HE := Lib.hid (Hfin.out _ xs _ _ rfl Hn2.out hy.1 hyc HD5.out HLn.out HB5.out)
    clear Hfin HM5 HX5 HD5 HLn HB5 HR5 HA5 hy hyc
    go_wp2
    exact bodyPost_ret (v := .tuple #[.agg #[.int .i64 W, .int .i64 H, .int .i64 P, .slice A3 xs.length c3], .slice A6 0 c6, .int .i64 P']) (by simp [results, Try.results6, go_sem, r0, r1, r2, r3]) rfl (HE.out _ _ _ _)
  · have hd : (n2 : Int) > 0 := by omega
    have hd3 : (0 : Int) < (n2 : Int) := by omega
    go_wp2_with fail
    rw [← HU5.out, ← Hbm.out]
    clear HU5 Hbm
    refine (pick_any 6 g _ u5 HR5.out (by omega) (by omega)).mono ?_
    intro e u6 hp
    obtain ⟨x, rfl, hx, hR6, hG6, hs6⟩ := picked_nat hp (by omega)
    have hgm : g < bm := by have := Hs5.out; have := Hs3.out; omega
    have hgw : g ≠ w.heap.size := by have := Hg.out; omega
    have HM6 := Lib.hid (bx_gr HM5.out hG6 (by omega))
    have HX6 := Lib.hid (bx_gr HX5.out hG6 (by omega))
    have HD6 := Lib.hid ((Rds.offG (lo := w.heap.size + 2) HD5.out (Nat.le_refl _) (fun a ha => by have := (HA5.out a ha).1; have := Hs3.out; omega) hG6 (by omega)).more hG6.size)
    have HL6 := Lib.hid (HLn.out.off hG6 hgl)
    have HB6 := Lib.hid (HB5.out.grown hG6 HB5.out.size (fun k hk => by injection hk with hk; have := Hg.out; omega))
    have HA6 : Hid (∀ a : Addr, A3 = some a → u3.heap.size ≤ a.block ∧ a.block < bm ∧ Unf u6 a.block) := Lib.hid (fun a ha => by
      obtain ⟨h1, h2, h3⟩ := HA5.out a ha
      exact ⟨h1, h2, h3.kept (by have := Hs5.out; omega) hG6 (by have := Hs3.out; simp; omega)⟩)
    have HK6 : Hid (∀ q, w.heap.size + 2 ≤ q → q < u3.heap.size → u6.heap[q]? = u3.heap[q]?) := Lib.hid (fun q h1 h2 => (hG6.block q (by have := Hs5.out; omega) (by simp; omega)).trans (HK5.out q h1 h2))
    have Hs6 : Hid (u3.heap.size ≤ bm ∧ bm < u6.heap.size) := Lib.hid (by have := Hs5.out; have := hG6.size; omega)
    clear HM5 HX5 HD5 HLn HB5 HR5 HA5 hp hR6 hG6 hs6 Hs5
    by_cases hx0 : (x : Int) > 0
    · by_cases hnx : xs.length = 0
      · -- an image without numbers
        obtain ⟨n0, n1, n2', n3⟩ := HM6.out.im
        obtain ⟨r0, r1, r2, r3⟩ := HX6.out.im
        have f0 := HX6.out.fz 0
        have f1 := HX6.out.fz 1
        have f2 := HX6.out.fz 2
        have f3 := HX6.out.fz 3
        have HE := Lib.hid (Hfin.out u6 xs _ _ rfl Hn2.out hy.1 hyc HD6.out HL6.out HB6.out)
        rw [hnx] at n3 HE
        clear Hfin HM6 HX6 HD6 HL6 HB6 HA6 hnx
        go_wp2
        go_loopw [9] (fun i wr => i = .int .i64 0 ∧ wr = u6) (fun _ _ => 0)
        case atStart => exact ⟨rfl, rfl⟩
        case round =>
          obtain ⟨rfl, rfl⟩ := hrel
          go_wp2
          exact bodyPost_ret (v := .tuple #[.agg #[.int .i64 W, .int .i64 H, .int .i64 P, .slice A3 0 c3], .slice A6 n2 c6, .int .i64 P']) (by simp [results, Try.results6, go_sem, r0, r1, r2, r3]) rfl (HE.out _ _ _ _)
      · obtain ⟨ab, off, rfl, hab, _⟩ := HD6.out.cells_ (j := 0) (by omega)
        obtain ⟨hlo, hhi, hU⟩ := HA6.out _ rfl
        dsimp only at hlo hhi hU
        obtain ⟨n, hn⟩ : ∃ n, n = xs.length := ⟨_, rfl⟩
        have HI6 : Hid (CoI u6 ab off n u6) := Lib.hid ⟨xs, hn.symm, HD6.out, hU, ⟨rfl, rfl, rfl, Nat.le_refl _, fun _ _ _ => rfl⟩⟩
        have hn256 : n ≤ 256 := by rw [hn]; exact hy.1
        have hnc : n ≤ c3 := by rw [hn]; exact hyc
        rw [← hn] at HM6 
        have hs3 := Hs3.out
        have hs6 := Hs6.out
        clear HD6 HA6 hU hab hn hnx hyc hy
        obtain ⟨m0, m1, m2, m3⟩ := HM6.out.im
        have hxn : decide (0 < x) = true := decide_eq_true (by omega)
        go_wp2
        clear hxn
        go_loopw [9] (fun i wr => ∃ k : Nat, k ≤ n ∧ i = .int .i64 (k : Int) ∧ Hid (CoI u6 ab off n wr)) (fun i _ => n - (intOf i).toNat)
        case atStart => exact ⟨0, Nat.zero_le _, rfl, HI6⟩
        case round =>
          clear HI6 m0 m1 m2 m3
          obtain ⟨k, hk, rfl, HI⟩ := hrel
          have hgb : u6.grownBy wr (some ab) := by obtain ⟨ys, _, _, _, h⟩ := HI.out; exact h
          have HM7 := Lib.hid (bx_gr HM6.out hgb (by omega))
          obtain ⟨m0, m1, m2, m3⟩ := HM7.out.im
          have mlt := HM7.out.lt
          by_cases hlt : k < n
          · obtain ⟨z, hcz, hfz, hput⟩ := HI.out.cell hlt
            have HP := Lib.hid hput
            have hnz : ¬ (n2 : Int) = 0 := by omega
            have hkn : (k : Int) < (n : Int) := by omega
            clear hput hgb HM7 HI
            by_cases hz : z < 0
            · have ht : IntKind.i64.wrap (Int.tmod 0 (n2 : Int)) = 0 := by rw [Int.zero_tmod]; rfl
              have ht2 : Int.tmod 0 (n2 : Int) = 0 := Int.zero_tmod _
              go_wp2
              go_region
              go_wp2
              go_roundw
              case rel => exact ⟨k + 1, by omega, by go_num, Lib.hid (HP.out 0).2⟩
              case measure => simp [intOf]; omega
            · obtain ⟨q, hq⟩ : ∃ q, Int.tmod z (n2 : Int) = q := ⟨_, rfl⟩
              have hqb : 0 ≤ q ∧ q < 17 := by
                rw [← hq, Int.tmod_eq_emod_of_nonneg (by omega)]
                have h1 := Int.emod_nonneg z hnz
                have h2 := Int.emod_lt_of_pos z (show (0 : Int) < (n2 : Int) by omega)
                omega
              have hqw : IntKind.i64.wrap q = q := IntWalk.i64_in _ (by omega)
              go_wp2
              go_region
              go_wp2
              go_roundw
              case rel => exact ⟨k + 1, by omega, by go_num, Lib.hid (HP.out q).2⟩
              case measure => simp [intOf]; omega
          · obtain ⟨ys, hyl, hyr, _, _⟩ := HI.out
            have HX7 := Lib.hid (bx_gr HX6.out hgb (by omega))
            obtain ⟨r0, r1, r2, r3⟩ := HX7.out.im
            have f0 := HX7.out.fz 0
            have f1 := HX7.out.fz 1
            have f2 := HX7.out.fz 2
            have f3 := HX7.out.fz 3
            have HLz : Lss wr (w.heap.size + 2) (.slice A6 n2 c6) yss := HL3n.out.move (by have := hgb.size; omega) (fun q h1 h2 => (hgb.block q (by omega) (by simp; omega)).trans (HK6.out q h1 h2))
            have HE := Lib.hid (Hfin.out wr ys _ _ hyl.symm Hn2.out (by omega) (by omega) hyr HLz (HB6.out.grown hgb HB6.out.size (fun k hk => by injection hk with hk; omega)))
            clear Hfin HM6 HX6 HL6 HB6 HI hgb HM7 HX7 HLz hyl hyr
            go_wp2
            exact bodyPost_ret (v := .tuple #[.agg #[.int .i64 W, .int .i64 H, .int .i64 P, .slice (some ⟨ab, off, none⟩) n c3], .slice A6 n2 c6, .int .i64 P']) (by simp [results, Try.results6, go_sem, r0, r1, r2, r3]) rfl (HE.out _ _ _ _)
    · obtain ⟨n0, n1, n2', n3⟩ := HM6.out.im
      obtain ⟨r0, r1, r2, r3⟩ := HX6.out.im
      have f0 := HX6.out.fz 0
      have f1 := HX6.out.fz 1
      have f2 := HX6.out.fz 2
      have f3 := HX6.out.fz 3
      have HE := Lib.hid (Hfin.out u6 xs _ _ rfl Hn2.out hy.1 hyc HD6.out HL6.out HB6.out)
      clear Hfin HM6 HX6 HD6 HL6 HB6 HA6
      go_wp2
      exact bodyPost_ret (v := .tuple #[.agg #[.int .i64 W, .int .i64 H, .int .i64 P, .slice A3 xs.length c3], .slice A6 n2 c6, .int .i64 P']) (by simp [results, Try.results6, go_sem, r0, r1, r2, r3]) rfl (HE.out _ _ _ _)
end Go.Proofs.Ytjcohmljpokgcaa
