/- buildGrid of numbers with a closure that writes one block of the caller's. -/
import Derived.Test.YtjcohmljpokgcaaGridN
namespace Go.Proofs.Ytjcohmljpokgcaa
open Go.RowKit Go.Shelf
set_option linter.unusedSimpArgs false
set_option linter.unusedVariables false
set_option maxRecDepth 20000

theorem Own.setBX {w : World} {base : Nat} {v : Value} {xs : List Int} (h : Own w base v xs) {p : Addr} (hp : p.block < base) (u : Value) : Own (w.setCell p u) base v xs :=
  h.keep fun g hg => heap_setCell_other w p g u (fun e => by have := (h.lt g hg).1; omega)
theorem grown_setX {a w : World} {row : Option Nat} (h : a.grownBy w row) {p : Addr} (hp : a.heap.size ≤ p.block) (u : Value) : a.grownBy (w.setCell p u) row :=
  ⟨h.os, h.tape, h.output, by simpa [World.setCell] using h.size, fun i hi hne => (heap_setCell_other w p i u (fun e => by omega)).trans (h.block i hi hne)⟩
theorem grown_app {a b c : World} {row r2 : Option Nat} (h : a.grownBy b row) (k : b.grownBy c r2) (hr : ∀ j, r2 = some j → a.heap.size ≤ j) : a.grownBy c row :=
  ⟨k.os.trans h.os, k.tape.trans h.tape, k.output.trans h.output, Nat.le_trans h.size k.size, fun i hi hne => (k.block i (Nat.lt_of_lt_of_le hi h.size) (fun e => by have := hr _ e.symm; omega)).trans (h.block i hi hne)⟩
theorem Own.offB {w w' : World} {base : Nat} {v : Value} {xs : List Int} (h : Own w base v xs) {g : Nat} (hG : w.grownBy w' (some g)) (hg : g < base) : Own w' base v xs :=
  h.keep fun k hk => hG.block k (h.lt k hk).2 (fun e => by have := (h.lt k hk).1; injection e with e; omega)
set_option maxHeartbeats 8000000 in
theorem buildX_any (W H : Nat) (hW : W ≤ 16) (hH : H ≤ 16) (g : Nat) (cs : Array Value) (f : Nat → Nat → Int) (w : World) (mb : Nat) (hmb : mb < w.heap.size) (I : Nat → World → Prop) (hI0 : I 0 w)
    (hI : ∀ (k : Nat) (w1 w2 : World), I k w1 → w1.heap.size ≤ w2.heap.size → (∀ k, k < w.heap.size → w2.heap[k]? = w1.heap[k]?) → I k w2)
    (eg : ∀ args w, (callFunc g args).run Try.prog w = .ok (.enter g args) w)
    (hc : ∀ (x y : Nat) (w' : World), x < W → y < H → w.heap.size ≤ w'.heap.size → I (y * W + x) w' → Calls Try.prog g (#[.int .i64 (x : Int), .int .i64 (y : Int)] ++ cs) w' fun e w'' => e = .returned (.int .i64 (f x y)) ∧ I (y * W + x + 1) w'' ∧ w'.grownBy w'' (some mb)) :
    Calls Try.prog 41 #[.int .i64 (W : Int), .int .i64 (H : Int), .func (.func g) #[] cs] w fun e w' => ∃ v, e = .returned (.agg #[.int .i64 (W : Int), .int .i64 (H : Int), v]) ∧ Own w' w.heap.size v (img W H 1 (fun x y _ => f x y)) ∧ w.grownBy w' (some mb) := by
  have HC := Lib.hid hc
  have HI := Lib.hid hI
  have hWH : W * H ≤ 256 := by have := Nat.mul_le_mul hW hH; omega
  have hWHi : (W : Int) * (H : Int) = ((W * H : Nat) : Int) := by simp
  obtain ⟨i, hi, hz, hsz, hb⟩ := info_parts info_int
  have Hi := Lib.hid hi
  have Hz := Lib.hid hz
  have Hs := Lib.hid hsz
  have Hb := Lib.hid hb
  have hnn : 0 ≤ (W : Int) * (H : Int) := by rw [hWHi]; omega
  have hnn2 : (W : Int) * (H : Int) ≤ 256 := by rw [hWHi]; omega
  have HWH := Lib.hid hWHi
  have HG0 := Lib.hid (World.grownBy_alloc w (.cells #[.int .i64 0, .int .i64 0, .slice none 0 0] 55) (some mb))
  have HII := Lib.hid hI0
  clear hc hi hz hsz hb hWHi hI hI0
  go_enter Try.func41, Try.ntmps41
  go_wp2_with (refine wpList_make_own _ rfl (.const (.int .i64 0)) (.tmp 12) 23 rfl (w.heap.size + 1) 3 i _ 1 Try.underlying23 Hi.out Hz.out Hs.out .i64 .i64 _ (W * H) rfl rfl HWH.out (by rw [Hb.out]; omega) (by unfold maxLen; omega) (by simp) ?_; intro w1 hO1 hG1)
  have HI0 : Hid (Own w1 (w.heap.size + 1) (.slice (some ⟨w.heap.size + 1, 0, none⟩) 0 (W * H)) [] ∧ Bx w1 w.heap.size 55 #[.int .i64 0, .int .i64 0, .slice none 0 0] ∧ w.grownBy w1 (some mb) ∧ I 0 w1) := Lib.hid (by
    have hs : (w.alloc (.cells #[.int .i64 0, .int .i64 0, .slice none 0 0] 55)).heap.size = w.heap.size + 1 := by simp
    have h1 : w.grownBy w1 (some mb) := grown_app HG0.out hG1 (by simp)
    refine ⟨by unfold Own; simpa using hO1, (hG1.block _ (by simp) (by simp)).trans (heap_alloc_new w _), h1, HI.out 0 w w1 HII.out h1.size (fun k hk => ?_)⟩
    exact (hG1.block k (by rw [hs]; omega) (by simp)).trans (Below.heap_alloc w _ k hk))
  clear hO1 hG1 hnn hnn2 HWH Hi Hz Hs Hb HG0 HII
  go_loopw [7, 15] (fun v i wr => ∃ y : Nat, y ≤ H ∧ i = .int .i64 y ∧ Hid (Own wr (w.heap.size + 1) v (imgk W 1 (fun x y _ => f x y) (y * W)) ∧ Bx wr w.heap.size 55 #[.int .i64 0, .int .i64 0, .slice none 0 0] ∧ w.grownBy wr (some mb) ∧ I (y * W) wr)) (fun _ i _ => H - (intOf i).toNat)
  case atStart => exact ⟨0, Nat.zero_le _, rfl, by rw [Nat.zero_mul, imgk_zero]; exact HI0⟩
  case round =>
    clear HI0
    obtain ⟨y, hy, rfl, hI⟩ := hrel
    by_cases hylt : y < H
    · go_wp2
      go_loopw [7, 19] (fun v i wr => ∃ x : Nat, x ≤ W ∧ i = .int .i64 x ∧ Hid (Own wr (w.heap.size + 1) v (imgk W 1 (fun x y _ => f x y) (y * W + x)) ∧ Bx wr w.heap.size 55 #[.int .i64 0, .int .i64 0, .slice none 0 0] ∧ w.grownBy wr (some mb) ∧ I (y * W + x) wr)) (fun _ i _ => W - (intOf i).toNat)
      case atStart => exact ⟨0, Nat.zero_le _, rfl, hI⟩
      case round =>
        clear hI
        obtain ⟨x, hx, rfl, hJ⟩ := hrel
        by_cases hxlt : x < W
        · obtain ⟨hO, hX, hG, hIw⟩ := hJ.out
          obtain ⟨A1, c1, rfl, _⟩ := hO.slice
          have hsz := hG.size
          have hxl := hX.lt
          go_wp2_with fail
          refine (HC.out x y wr hxlt hylt hsz hIw).mono ?_
          rintro e w2 ⟨rfl, hI2, hG2⟩
          have hsz2 := hG2.size
          have HO2 := Lib.hid ((hO.offB hG2 (by omega)).keep (w' := w2.alloc (.cells #[.int .i64 (f x y)] 3)) fun k hk => Below.heap_alloc w2 _ k (by have := ((hO.offB hG2 (by omega)).lt k hk).2; omega))
          have HX2 : Hid (Bx (w2.alloc (.cells #[.int .i64 (f x y)] 3)) w.heap.size 55 #[.int .i64 0, .int .i64 0, .slice none 0 0]) := Lib.hid (Bx.alloc ((hG2.block _ hxl (fun e => by injection e with e; omega)).trans hX) _)
          have hG3' : w.grownBy w2 (some mb) := gtrans hG hG2
          have HG2 := Lib.hid (gtrans hG3' (World.grownBy_alloc w2 (.cells #[.int .i64 (f x y)] 3) (some mb)))
          have HI2 := Lib.hid (HI.out _ w2 (w2.alloc (.cells #[.int .i64 (f x y)] 3)) hI2 (by simp) (fun k hk => Below.heap_alloc w2 _ k (by omega)))
          have HQ := Lib.hid (rds_one w2 (f x y))
          have hk : (imgk W 1 (fun x y _ => f x y) (y * W + x)).length ≤ 1000000 := by rw [imgk_len]; have : y * W ≤ H * W := Nat.mul_le_mul_right W hy; rw [Nat.mul_comm H W] at this; omega
          have HBS := Lib.hid (show w.heap.size + 1 ≤ (w2.alloc (.cells #[.int .i64 (f x y)] 3)).heap.size by simp; omega)
          clear hJ hO hX hG hIw hI2 hG2 hG3' hsz hsz2 hxl
          go_wp2_with (at_builtin; refine wpList_app rfl (.tmp 22) (.tmp 27) rfl (w.heap.size + 1) _ _ rfl HO2.out (some ⟨w2.heap.size, 0, none⟩) 1 1 _ [f x y] rfl rfl HQ.out (by simp; omega) HBS.out ?_; intro v3 w3 hO3 hG3)
          have HN : Hid (Own w3 (w.heap.size + 1) v3 (imgk W 1 (fun x y _ => f x y) (y * W + (x + 1))) ∧ Bx w3 w.heap.size 55 #[.int .i64 0, .int .i64 0, .slice none 0 0] ∧ w.grownBy w3 (some mb) ∧ I (y * W + (x + 1)) w3) := Lib.hid (by
            have hlo := fun j hj => (HO2.out.lt j hj).1
            refine ⟨by rw [imgk_one f hxlt]; exact hO3, (hG3.block _ HX2.out.lt (fun e => by have := hlo _ e.symm; omega)).trans HX2.out, grown_app HG2.out hG3 (fun j hj => by have := hlo j hj; omega), HI.out _ _ w3 HI2.out hG3.size (fun k hk => hG3.block k (by have := HG2.out.size; omega) (fun e => by have := hlo _ e.symm; omega))⟩)
          clear hO3 hG3 HO2 HX2 HG2 HI2 HQ hk HBS
          go_roundw
          case rel => exact ⟨x + 1, by omega, by go_num, HN⟩
          case measure => simp [intOf]; omega
        · have HN : Hid (Own wr (w.heap.size + 1) _ (imgk W 1 (fun x y _ => f x y) ((y + 1) * W)) ∧ Bx wr w.heap.size 55 #[.int .i64 0, .int .i64 0, .slice none 0 0] ∧ w.grownBy wr (some mb) ∧ I ((y + 1) * W) wr) := Lib.hid (by rw [imgk_row, show (y + 1) * W = y * W + W by rw [Nat.add_mul, Nat.one_mul]]; have := hJ.out; rwa [show x = W by omega] at this)
          clear hJ
          go_wp2
          go_roundw
          case rel => exact ⟨y + 1, by omega, by go_num, HN⟩
          case measure => simp [intOf]; omega
    · have hG := hI.out
      rw [show y = H by omega, Nat.mul_comm H W, imgk_all] at hG
      obtain ⟨hO, hX, hGr, _⟩ := hG
      obtain ⟨A1, c1, rfl, _⟩ := hO.slice
      have r0 : wr.cell? ⟨w.heap.size, 0, none⟩ = some (.int .i64 0) := cell_of_row wr _ 0 _ _ _ hX
      have r1 : wr.cell? ⟨w.heap.size, 1, none⟩ = some (.int .i64 0) := cell_of_row wr _ 1 _ _ _ hX
      have r2 : wr.cell? ⟨w.heap.size, 2, none⟩ = some (.slice none 0 0) := cell_of_row wr _ 2 _ _ _ hX
      have f0 := frozen_of_row wr w.heap.size 0 _ _ hX
      have f1 := frozen_of_row wr w.heap.size 1 _ _ hX
      have f2 := frozen_of_row wr w.heap.size 2 _ _ hX
      have HE : Hid (∀ u0 u1 u2 : Value, Own (((wr.setCell ⟨w.heap.size, 0, none⟩ u0).setCell ⟨w.heap.size, 1, none⟩ u1).setCell ⟨w.heap.size, 2, none⟩ u2) w.heap.size (.slice A1 (img W H 1 (fun x y _ => f x y)).length c1) (img W H 1 (fun x y _ => f x y)) ∧ w.grownBy (((wr.setCell ⟨w.heap.size, 0, none⟩ u0).setCell ⟨w.heap.size, 1, none⟩ u1).setCell ⟨w.heap.size, 2, none⟩ u2) (some mb)) := Lib.hid fun u0 u1 u2 =>
        ⟨(((hO.setBX (p := ⟨w.heap.size, 0, none⟩) (by simp) u0).setBX (p := ⟨w.heap.size, 1, none⟩) (by simp) u1).setBX (p := ⟨w.heap.size, 2, none⟩) (by simp) u2).base_le (by omega), grown_setX (grown_setX (grown_setX hGr (p := ⟨w.heap.size, 0, none⟩) (Nat.le_refl _) u0) (p := ⟨w.heap.size, 1, none⟩) (Nat.le_refl _) u1) (p := ⟨w.heap.size, 2, none⟩) (Nat.le_refl _) u2⟩
      clear hI hO hX hGr
      go_wp2
      exact bodyPost_ret (v := .agg #[.int .i64 (W : Int), .int .i64 (H : Int), .slice A1 (img W H 1 (fun x y _ => f x y)).length c1]) (by simp [results, Try.results41, go_sem, r0, r1, r2]) rfl ⟨_, rfl, (HE.out _ _ _).1, (HE.out _ _ _).2⟩
end Go.Proofs.Ytjcohmljpokgcaa
