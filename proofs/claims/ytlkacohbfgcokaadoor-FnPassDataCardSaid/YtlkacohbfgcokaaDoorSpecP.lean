/- Contracts of pixels in the model: reading and writing one. -/
import Derived.Test.YtlkacohbfgcokaaDoorGridB
import Derived.Test.YtlkacohbfgcokaaDoorInvI
import Derived.RegionTactic
import Derived.BigRegion
namespace Go.Proofs.YtlkacohbfgcokaaDoor
open Go.RowKit
set_option linter.unusedSimpArgs false
set_option linter.unusedVariables false

theorem copyInts_at (A : Option Addr) (c n : Nat) (q : List Int) (hn : n = q.length) (w : World) (h : Rds .i64 w w.heap.size A q) (hl : n ≤ 2000000) :
    Calls Tryd.prog 66 #[.slice A n c] w (Made q w) := by
  subst hn
  exact copyInts_any A c q w h hl
set_option maxRecDepth 20000 in
set_option maxHeartbeats 8000000 in
theorem pixelAt_any (W H P : Nat) (hW : W ≤ 16) (hH : H ≤ 16) (hP : 1 ≤ P) (hP4 : P ≤ 4) (A : Option Addr) (c : Nat) (xs : List Int) (hl : xs.length = W * H * P) (hlc : xs.length ≤ c) (x y : Nat) (hx : x < W) (hy : y < H) (w : World) (hr : Rds .i64 w w.heap.size A xs) :
    Calls Tryd.prog 65 #[.agg #[.int .i64 (W : Int), .int .i64 (H : Int), .int .i64 (P : Int), .slice A xs.length c], .int .i64 (x : Int), .int .i64 (y : Int)] w (Made (pxl W P xs x y) w) := by
  have hs := pxl_slice hl hx hy
  obtain ⟨b, off, rfl, hb, hc⟩ := hr.cells_ (j := 0) (by omega)
  have hyW : y * W ≤ 256 := by have := Nat.mul_le_mul (Nat.le_of_lt hy) (Nat.le_refl W); have := Nat.mul_le_mul hH hW; omega
  have hxs : xs.length ≤ 1024 := by rw [hl]; have h1 := Nat.mul_le_mul hW hH; have := Nat.mul_le_mul h1 hP4; omega
  have i1 : 0 ≤ (y : Int) * (W : Int) ∧ (y : Int) * (W : Int) ≤ 256 := by rw [← Int.natCast_mul]; omega
  have i2 : 0 ≤ ((y : Int) * (W : Int) + (x : Int)) * (P : Int) ∧ ((y : Int) * (W : Int) + (x : Int)) * (P : Int) + (P : Int) ≤ (xs.length : Int) := by
    rw [← Int.natCast_mul, ← Int.natCast_add, ← Int.natCast_mul]; omega
  obtain ⟨i1, i1'⟩ := i1
  obtain ⟨i2, i2'⟩ := i2
  have HR := Lib.hid ((Rds.part (w := w) (B := w.heap.size) hb hc hs).alloc (Nat.le_refl _) (.cells #[.int .i64 (W : Int), .int .i64 (H : Int), .int .i64 (P : Int), .slice (some ⟨b, off, none⟩) xs.length c] 25))
  have HB := Lib.hid ((Below.refl w.heap.size w).alloc (Nat.le_refl _) (.cells #[.int .i64 (W : Int), .int .i64 (H : Int), .int .i64 (P : Int), .slice (some ⟨b, off, none⟩) xs.length c] 25))
  clear hc hr hl
  go_enter Tryd.func65, Tryd.ntmps65
  go_wp2_with fail
  refine (copyInts_at _ _ _ (pxl W P xs x y) (pxl_len W P xs x y).symm _ (HR.out.more (by simp)) (by omega)).mono ?_
  rintro e w2 ⟨v2, rfl, hO2, hB2⟩
  have HZ := Lib.hid (show Own w2 w.heap.size v2 (pxl W P xs x y) ∧ Below w.heap.size w w2 from ⟨hO2.base_le (by simp), HB.out.trans (hB2.mono (by simp))⟩)
  clear hO2 hB2
  go_wp2
  go_ret
  exact ⟨v2, rfl, HZ.out.1, HZ.out.2⟩
set_option maxRecDepth 20000 in
set_option maxHeartbeats 8000000 in
theorem setPixel_any (W H P : Nat) (hW : W ≤ 16) (hH : H ≤ 16) (hP4 : P ≤ 4) (base g c n : Nat) (ys : List Int) (hn : n = ys.length) (hl : ys.length = W * H * P) (x y : Nat) (hx : x < W) (hy : y < H) (A : Option Addr) (c' m : Nat) (q : List Int) (hm : m = q.length) (hq : q.length = P)
    (w : World) (hO : Own w base (.slice (some ⟨g, 0, none⟩) n c) ys) (hr : Rds .i64 w w.heap.size A q) (hA : ∀ a : Addr, A = some a → a.block ≠ g) :
    Calls Tryd.prog 70 #[.agg #[.int .i64 (W : Int), .int .i64 (H : Int), .int .i64 (P : Int), .slice (some ⟨g, 0, none⟩) n c], .int .i64 (x : Int), .int .i64 (y : Int), .slice A m c'] w
      fun e w' => e = .returned (.tuple #[]) ∧ Own w' base (.slice (some ⟨g, 0, none⟩) n c) (setk W P x y q ys P) ∧ w.grownBy w' (some g) := by
  subst hn hm
  have hs := pxl_slice hl hx hy
  have hyW : y * W ≤ 256 := by have := Nat.mul_le_mul (Nat.le_of_lt hy) (Nat.le_refl W); have := Nat.mul_le_mul hH hW; omega
  have hys : ys.length ≤ 1024 := by rw [hl]; have h1 := Nat.mul_le_mul hW hH; have := Nat.mul_le_mul h1 hP4; omega
  have i1 : 0 ≤ (y : Int) * (W : Int) ∧ (y : Int) * (W : Int) ≤ 256 := by rw [← Int.natCast_mul]; omega
  have i2 : 0 ≤ ((y : Int) * (W : Int) + (x : Int)) * (P : Int) ∧ ((y : Int) * (W : Int) + (x : Int)) * (P : Int) + (P : Int) ≤ (ys.length : Int) := by
    rw [← Int.natCast_mul, ← Int.natCast_add, ← Int.natCast_mul]; omega
  obtain ⟨i1, i1'⟩ := i1
  obtain ⟨i2, i2'⟩ := i2
  have hgw := (hO.lt g rfl).2
  have H0 := Lib.hid (show Own (w.alloc (.cells (imC W H P (.slice (some ⟨g, 0, none⟩) ys.length c)) 25)) base (.slice (some ⟨g, 0, none⟩) ys.length c) (setk W P x y q ys 0) from hO.alloc _)
  have HX := Lib.hid (Bx.new w 25 (imC W H P (.slice (some ⟨g, 0, none⟩) ys.length c)))
  have HG := Lib.hid (World.grownBy_alloc w (.cells (imC W H P (.slice (some ⟨g, 0, none⟩) ys.length c)) 25) (some g))
  have Hr := Lib.hid hr
  have HA := Lib.hid hA
  have Hq := Lib.hid hq
  clear hO hr hA hl hq
  go_enter Tryd.func70, Tryd.ntmps70
  go_wp2
  go_loopw [8] (fun i wr => ∃ k : Nat, k ≤ P ∧ i = .int .i64 k ∧ Hid (Own wr base (.slice (some ⟨g, 0, none⟩) ys.length c) (setk W P x y q ys k) ∧ Bx wr w.heap.size 25 (imC W H P (.slice (some ⟨g, 0, none⟩) ys.length c)) ∧ w.grownBy wr (some g))) (fun i _ => P - (intOf i).toNat)
  case atStart => exact ⟨0, Nat.zero_le _, rfl, Lib.hid ⟨H0.out, HX.out, HG.out⟩⟩
  case round =>
    obtain ⟨k, hk, rfl, hI⟩ := hrel
    obtain ⟨hO, hX, hG⟩ := hI.out
    obtain ⟨m0, m1, m2, m3⟩ := hX.im
    by_cases hlt : k < P
    · have hsl := setk_len W P x y q ys k
      obtain ⟨b, off, rfl, hb, hc⟩ := Hr.out.cells_ (j := k) (by rw [Hq.out]; exact hlt)
      have hbg := HA.out _ rfl
      simp only at hbg
      have hcj : wr.cell? ⟨b, off + k, none⟩ = some (.int .i64 (q.getD k 0)) := (World.cell?_of_block (hG.block b hb (by simpa using hbg))).trans (hc k (by rw [Hq.out]; exact hlt))
      have hcw := hO.cell hsl.symm (j := (y * W + x) * P + k) (by omega)
      have hfw := hO.frozen hsl.symm ((y * W + x) * P + k)
      have hql : k < q.length := by rw [Hq.out]; exact hlt
      have hOd : Own wr.drew base (.slice (some ⟨g, 0, none⟩) ys.length c) (setk W P x y q ys k) := hO
      have hput := hOd.put hsl.symm ((y * W + x) * P + k) (q.getD k 0)
      have HN : Hid (Own (wr.drew.setCell ⟨g, (y * W + x) * P + k, none⟩ (.int .i64 (q.getD k 0))) base (.slice (some ⟨g, 0, none⟩) ys.length c) (setk W P x y q ys (k + 1)) ∧ Bx (wr.drew.setCell ⟨g, (y * W + x) * P + k, none⟩ (.int .i64 (q.getD k 0))) w.heap.size 25 (imC W H P (.slice (some ⟨g, 0, none⟩) ys.length c)) ∧ w.grownBy (wr.drew.setCell ⟨g, (y * W + x) * P + k, none⟩ (.int .i64 (q.getD k 0))) (some g)) :=
        Lib.hid ⟨hput.1, Bx.mark (w := wr.drew) hX (by decide) hOd hput.2, gtrans (b := wr.drew) ⟨hG.os, hG.tape, hG.output, hG.size, hG.block⟩ hput.2⟩
      clear hO hOd hX hG hput hc hsl hI H0 HX HG
      generalize q.getD k 0 = z at *
      generalize (setk W P x y q ys k).getD ((y * W + x) * P + k) 0 = z' at *
      go_wp2
      go_region
      all_goals
        (try go_wp2)
        go_roundw
        case rel => exact ⟨k + 1, by omega, by go_num, HN⟩
        case measure => simp [intOf]; omega
    · have hkP : k = P := by omega
      subst hkP
      have HO := Lib.hid hO
      have HG2 := Lib.hid hG
      clear hO hX hG hI
      go_wp2
      go_end0
      exact ⟨rfl, HO.out, HG2.out⟩
end Go.Proofs.YtlkacohbfgcokaaDoor
