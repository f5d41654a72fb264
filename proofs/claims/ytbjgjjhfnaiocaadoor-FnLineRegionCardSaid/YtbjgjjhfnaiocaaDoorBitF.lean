/- The rows of bits of a region. -/
import Derived.Test.YtbjgjjhfnaiocaaDoorBitO
namespace Go.Proofs.YtbjgjjhfnaiocaaDoor
open Go.RowKit
set_option linter.unusedSimpArgs false
set_option linter.unusedVariables false
set_option maxRecDepth 100000

/-- The rows of bits of the first k runs. -/
def btR (xs : List Int) : Nat → Nat → Nat
  | 0 => fun _ => 0
  | k + 1 => upB (btR xs k) (gY xs k).toNat (btR xs k (gY xs k).toNat ||| mskB (gF xs k).toNat (gT xs k).toNat)
theorem btR_lt (xs : List Int) : ∀ k y, btR xs k y < 65536
  | 0, y => by show 0 < 65536; omega
  | k + 1, y => by
    unfold btR upB
    split
    · exact Nat.or_lt_two_pow (n := 16) (btR_lt xs k _) (msk_lt _ _)
    · exact btR_lt xs k y
theorem btR_bit {xs : List Int} {n : Nat} (h : reg xs n) : ∀ k, k ≤ n → ∀ x y : Nat, x < 16 → y < 16 → (btR xs k y).testBit x = rh xs x y k
  | 0, _, x, y, _, _ => by show (0 : Nat).testBit x = false; exact Nat.zero_testBit x
  | k + 1, hk, x, y, hx, hy => by
    have ih := btR_bit h k (by omega)
    obtain ⟨⟨y0, y1⟩, ⟨f0, f1⟩, t0, t1⟩ := bnds h (show k < n by omega)
    obtain ⟨Y, hY⟩ : ∃ Y : Nat, gY xs k = Y := ⟨(gY xs k).toNat, by omega⟩
    obtain ⟨F, hF⟩ : ∃ F : Nat, gF xs k = F := ⟨(gF xs k).toNat, by omega⟩
    obtain ⟨T, hT⟩ : ∃ T : Nat, gT xs k = T := ⟨(gT xs k).toNat, by omega⟩
    unfold btR rh runB upB
    rw [hY, hF, hT]
    simp only [Int.toNat_natCast]
    by_cases e : y = Y
    · subst e
      rw [if_pos rfl, Nat.testBit_or, ih x y hx hy, msk_bits (by omega) (by omega) hx]
      congr 1
      rw [Bool.eq_iff_iff]
      simp only [Bool.and_eq_true, decide_eq_true_eq]
      constructor
      · rintro ⟨a, b⟩; exact ⟨trivial, by omega, by omega⟩
      · rintro ⟨_, a, b⟩; omega
    · rw [if_neg e, ih x y hx hy, decide_eq_false (show ¬ (y : Int) = Y by omega), Bool.false_and, Bool.or_false]
set_option maxHeartbeats 16000000 in
theorem i_bitsOf (A : Option Addr) (n c : Nat) (xs : List Int) (w : World) (hx : xs.length = 3 * n) (h : Rds .i64 w w.heap.size A xs) (hr : reg xs n) (hl : n ≤ 2000000) :
    Calls Tryd.prog 42 #[.slice A n c] w fun e w' => e = .returned (.agg (btC (btR xs n))) ∧ Below w.heap.size w w' := by
  obtain ⟨u, hu⟩ : ∃ u, u = (w.alloc (.cells #[.int .u16 0, .int .u16 0, .int .u16 0, .int .u16 0, .int .u16 0, .int .u16 0, .int .u16 0, .int .u16 0, .int .u16 0, .int .u16 0, .int .u16 0, .int .u16 0, .int .u16 0, .int .u16 0, .int .u16 0, .int .u16 0] 56)).alloc (.cells #[.int .u16 0, .int .u16 0, .int .u16 0, .int .u16 0, .int .u16 0, .int .u16 0, .int .u16 0, .int .u16 0, .int .u16 0, .int .u16 0, .int .u16 0, .int .u16 0, .int .u16 0, .int .u16 0, .int .u16 0, .int .u16 0] 56) := ⟨_, rfl⟩
  obtain ⟨b2, hb2⟩ : ∃ b, b = w.heap.size := ⟨_, rfl⟩
  obtain ⟨b3, hb3⟩ : ∃ b, b = w.heap.size + 1 := ⟨_, rfl⟩
  have HI0 : Hid (Bx u b3 56 (btC (btR xs 0)) ∧ Bx u b2 56 (btC fun _ => 0) ∧ Below w.heap.size w u) := Lib.hid (by
    rw [hu, hb2, hb3]
    have e : Bx ((w.alloc (.cells #[.int .u16 0, .int .u16 0, .int .u16 0, .int .u16 0, .int .u16 0, .int .u16 0, .int .u16 0, .int .u16 0, .int .u16 0, .int .u16 0, .int .u16 0, .int .u16 0, .int .u16 0, .int .u16 0, .int .u16 0, .int .u16 0] 56)).alloc (.cells #[.int .u16 0, .int .u16 0, .int .u16 0, .int .u16 0, .int .u16 0, .int .u16 0, .int .u16 0, .int .u16 0, .int .u16 0, .int .u16 0, .int .u16 0, .int .u16 0, .int .u16 0, .int .u16 0, .int .u16 0, .int .u16 0] 56)) (w.heap.size + 1) 56 #[.int .u16 0, .int .u16 0, .int .u16 0, .int .u16 0, .int .u16 0, .int .u16 0, .int .u16 0, .int .u16 0, .int .u16 0, .int .u16 0, .int .u16 0, .int .u16 0, .int .u16 0, .int .u16 0, .int .u16 0, .int .u16 0] := by simpa using Bx.new (w.alloc (.cells #[.int .u16 0, .int .u16 0, .int .u16 0, .int .u16 0, .int .u16 0, .int .u16 0, .int .u16 0, .int .u16 0, .int .u16 0, .int .u16 0, .int .u16 0, .int .u16 0, .int .u16 0, .int .u16 0, .int .u16 0, .int .u16 0] 56)) 56 #[.int .u16 0, .int .u16 0, .int .u16 0, .int .u16 0, .int .u16 0, .int .u16 0, .int .u16 0, .int .u16 0, .int .u16 0, .int .u16 0, .int .u16 0, .int .u16 0, .int .u16 0, .int .u16 0, .int .u16 0, .int .u16 0]
    exact ⟨e, (Bx.new w _ _).alloc _, ((Below.refl _ _).alloc (Nat.le_refl _) _).alloc (by simp) _⟩)
  have HU := Lib.hid hu
  have Hb2 := Lib.hid hb2
  have Hb3 := Lib.hid hb3
  have HR := Lib.hid h
  have HX := Lib.hid hx
  have HG := Lib.hid hr
  clear hu hb2 hb3 h hx hr
  go_enter Tryd.func42, Tryd.ntmps42
  go_wp2
  rw [← HU.out, ← Hb3.out, ← Hb2.out]
  clear HU
  go_loopw [8] (fun i wr => ∃ k : Nat, k ≤ n ∧ i = .int .i64 (k : Int) ∧ Hid (Bx wr b3 56 (btC (btR xs k)) ∧ Bx wr b2 56 (btC fun _ => 0) ∧ Below w.heap.size w wr)) (fun i _ => n - (intOf i).toNat)
  case atStart => exact ⟨0, Nat.zero_le _, rfl, HI0⟩
  case round =>
    clear HI0
    obtain ⟨k, hk, rfl, hI⟩ := hrel
    rename World => wr
    by_cases hlt : k < n
    · obtain ⟨t0, t1, t2⟩ := trio hlt HX.out
      obtain ⟨b, off, rfl, hb, hc⟩ := HR.out.cells_ t0
      obtain ⟨⟨y0, y1⟩, ⟨f0, f1⟩, g0, g1⟩ := bnds HG.out hlt
      have hc0 : wr.cell? ⟨b, off + k * 3, none⟩ = some (.int .i64 (gY xs k)) := (World.cell?_of_block (hI.out.2.2.block b hb)).trans (hc _ t0)
      have hc1 : wr.cell? ⟨b, off + k * 3 + 1, none⟩ = some (.int .i64 (gF xs k)) := (World.cell?_of_block (hI.out.2.2.block b hb)).trans (hc _ t1)
      have hc2 : wr.cell? ⟨b, off + k * 3 + 2, none⟩ = some (.int .i64 (gT xs k)) := (World.cell?_of_block (hI.out.2.2.block b hb)).trans (hc _ t2)
      have HStep : Hid (btR xs (k + 1) = upB (btR xs k) (gY xs k).toNat (btR xs k (gY xs k).toNat ||| mskB (gF xs k).toNat (gT xs k).toNat)) := Lib.hid rfl
      have HLt := Lib.hid (btR_lt xs k)
      clear hc t0 t1 t2
      obtain ⟨Y, hY⟩ : ∃ Y : Nat, gY xs k = Y := ⟨(gY xs k).toNat, by omega⟩
      obtain ⟨F, hF⟩ : ∃ F : Nat, gF xs k = F := ⟨(gF xs k).toNat, by omega⟩
      obtain ⟨T, hT⟩ : ∃ T : Nat, gT xs k = T := ⟨(gT xs k).toNat, by omega⟩
      rw [hY] at hc0 HStep y0 y1
      rw [hF] at hc1 HStep f0 f1 g0
      rw [hT] at hc2 HStep g0 g1
      simp only [Int.toNat_natCast] at HStep
      clear hY hF hT
      have hY16 : Y < 16 := by omega
      obtain ⟨u5, hu5⟩ : ∃ u, u = wr.alloc (.cells #[.int .i64 (Y : Int), .int .i64 (F : Int), .int .i64 (T : Int)] 35) := ⟨_, rfl⟩
      obtain ⟨b5, hb5⟩ : ∃ b, b = wr.heap.size := ⟨_, rfl⟩
      have HX5 : Hid (Bx u5 b5 35 #[.int .i64 (Y : Int), .int .i64 (F : Int), .int .i64 (T : Int)]) := Lib.hid (by rw [hu5, hb5]; exact Bx.new _ _ _)
      have HA5 : Hid (Bx u5 b3 56 (btC (btR xs k))) := Lib.hid (by rw [hu5]; exact hI.out.1.alloc _)
      have HZ5 : Hid (Bx u5 b2 56 (btC fun _ => 0)) := Lib.hid (by rw [hu5]; exact hI.out.2.1.alloc _)
      have HB5 : Hid (Below w.heap.size w u5) := Lib.hid (by rw [hu5]; exact hI.out.2.2.alloc hI.out.2.2.size _)
      have HU5 := Lib.hid hu5
      have HBk5 := Lib.hid hb5
      clear hI hu5 hb5
      go_upto_region 5 with fail
      rw [← HU5.out, ← HBk5.out]
      clear HU5 HBk5 hc0 hc1 hc2
      have m0 : u5.cell? ⟨b5, 0, none⟩ = some (.int .i64 (Y : Int)) := (cell_of_row _ _ 0 _ _ _ HX5.out).trans rfl
      have m1 : u5.cell? ⟨b5, 1, none⟩ = some (.int .i64 (F : Int)) := (cell_of_row _ _ 1 _ _ _ HX5.out).trans rfl
      have m2 : u5.cell? ⟨b5, 2, none⟩ = some (.int .i64 (T : Int)) := (cell_of_row _ _ 2 _ _ _ HX5.out).trans rfl
      have ha := bx_cell HA5.out hY16
      have hf : u5.frozen? ⟨b3, Y, none⟩ = false := frozen_of_row u5 b3 Y _ _ HA5.out
      have hlt3 := HA5.out.lt
      have hlt5 := HX5.out.lt
      have hF16 : (2 : Nat) ^ F ≤ 2 ^ 15 := Nat.pow_le_pow_right (by omega) (by omega)
      have hv : bits .or .u16 (btR xs k Y : Int) (IntKind.u16.wrap (IntKind.u16.wrap (2 ^ T) - IntKind.u16.wrap (2 ^ F))) = ((btR xs k Y ||| mskB F T : Nat) : Int) := by
        have e : IntKind.u16.wrap (IntKind.u16.wrap (2 ^ T) - IntKind.u16.wrap (2 ^ F)) = ((mskB F T : Nat) : Int) := by
          rw [IntKind.wrap_u16, IntKind.wrap_u16, IntKind.wrap_u16]
          unfold mskB
          have e1 : (2 : Int) ^ T = ((2 ^ T : Nat) : Int) := by push_cast; rfl
          have e2 : (2 : Int) ^ F = ((2 ^ F : Nat) : Int) := by push_cast; rfl
          rw [e1, e2]
          generalize (2 : Nat) ^ T = a at *
          generalize (2 : Nat) ^ F = c at *
          omega
        rw [e]
        exact or16 (HLt.out Y) (msk_lt F T)
      have HN : Hid (Bx (u5.setCell ⟨b3, Y, none⟩ (.int .u16 (bits .or .u16 (btR xs k Y : Int) (IntKind.u16.wrap (IntKind.u16.wrap (2 ^ T) - IntKind.u16.wrap (2 ^ F)))))).drew b3 56 (btC (btR xs (k + 1))) ∧
          Bx (u5.setCell ⟨b3, Y, none⟩ (.int .u16 (bits .or .u16 (btR xs k Y : Int) (IntKind.u16.wrap (IntKind.u16.wrap (2 ^ T) - IntKind.u16.wrap (2 ^ F)))))).drew b2 56 (btC fun _ => 0) ∧
          Below w.heap.size w (u5.setCell ⟨b3, Y, none⟩ (.int .u16 (bits .or .u16 (btR xs k Y : Int) (IntKind.u16.wrap (IntKind.u16.wrap (2 ^ T) - IntKind.u16.wrap (2 ^ F)))))).drew) := Lib.hid (by
        rw [hv, HStep.out]
        refine ⟨bx_up HA5.out hY16 _, ?_, (HB5.out.setCell (show w.heap.size ≤ b3 by have := Hb3.out; omega) _).drew⟩
        exact (heap_setCell_other u5 ⟨b3, Y, none⟩ b2 _ (fun e => by have e' : b2 = b3 := e; have h1 := Hb2.out; have h2 := Hb3.out; omega)).trans HZ5.out)
      clear hv hF16 HX5 HA5 HZ5 HB5 HStep HLt
      go_region
      go_wp2
      go_roundw
      case rel => exact ⟨k + 1, by omega, by go_num, HN⟩
      case measure => simp [intOf]; omega
    · obtain rfl : k = n := by omega
      obtain ⟨c0, c1, c2, c3, c4, c5, c6, c7, c8, c9, c10, c11, c12, c13, c14, c15⟩ := b16 hI.out.1
      obtain ⟨z0, z1, z2, z3, z4, z5, z6, z7, z8, z9, z10, z11, z12, z13, z14, z15⟩ := b16 hI.out.2.1
      have z0' : wr.frozen? ⟨b2, 0, none⟩ = false := frozen_of_row wr b2 0 _ _ hI.out.2.1
      have z1' : wr.frozen? ⟨b2, 1, none⟩ = false := frozen_of_row wr b2 1 _ _ hI.out.2.1
      have z2' : wr.frozen? ⟨b2, 2, none⟩ = false := frozen_of_row wr b2 2 _ _ hI.out.2.1
      have z3' : wr.frozen? ⟨b2, 3, none⟩ = false := frozen_of_row wr b2 3 _ _ hI.out.2.1
      have z4' : wr.frozen? ⟨b2, 4, none⟩ = false := frozen_of_row wr b2 4 _ _ hI.out.2.1
      have z5' : wr.frozen? ⟨b2, 5, none⟩ = false := frozen_of_row wr b2 5 _ _ hI.out.2.1
      have z6' : wr.frozen? ⟨b2, 6, none⟩ = false := frozen_of_row wr b2 6 _ _ hI.out.2.1
      have z7' : wr.frozen? ⟨b2, 7, none⟩ = false := frozen_of_row wr b2 7 _ _ hI.out.2.1
      have z8' : wr.frozen? ⟨b2, 8, none⟩ = false := frozen_of_row wr b2 8 _ _ hI.out.2.1
      have z9' : wr.frozen? ⟨b2, 9, none⟩ = false := frozen_of_row wr b2 9 _ _ hI.out.2.1
      have z10' : wr.frozen? ⟨b2, 10, none⟩ = false := frozen_of_row wr b2 10 _ _ hI.out.2.1
      have z11' : wr.frozen? ⟨b2, 11, none⟩ = false := frozen_of_row wr b2 11 _ _ hI.out.2.1
      have z12' : wr.frozen? ⟨b2, 12, none⟩ = false := frozen_of_row wr b2 12 _ _ hI.out.2.1
      have z13' : wr.frozen? ⟨b2, 13, none⟩ = false := frozen_of_row wr b2 13 _ _ hI.out.2.1
      have z14' : wr.frozen? ⟨b2, 14, none⟩ = false := frozen_of_row wr b2 14 _ _ hI.out.2.1
      have z15' : wr.frozen? ⟨b2, 15, none⟩ = false := frozen_of_row wr b2 15 _ _ hI.out.2.1
      have hF := s16_box hI.out.2.1 (btR xs k)
      obtain ⟨p0, p1, p2, p3, p4, p5, p6, p7, p8, p9, p10, p11, p12, p13, p14, p15⟩ := b16 hF
      dsimp only [s16] at p0 p1 p2 p3 p4 p5 p6 p7 p8 p9 p10 p11 p12 p13 p14 p15
      have hlt2 := hI.out.2.1.lt
      have hlt3 := hI.out.1.lt
      have HE : Hid (Below w.heap.size w (s16 wr b2 (btR xs k))) := Lib.hid (s16_below hI.out.2.2 (by rw [Hb2.out]; exact Nat.le_refl _) _)
      have hkI : ¬ (k : Int) < (k : Int) := by omega
      clear hI hF
      dsimp only [s16] at HE
      go_wp2
      exact bodyPost_ret (v := .agg (btC (btR xs k))) (by simp [results, Tryd.results42, go_sem, p0, p1, p2, p3, p4, p5, p6, p7, p8, p9, p10, p11, p12, p13, p14, p15]) rfl ⟨rfl, HE.out⟩
end Go.Proofs.YtbjgjjhfnaiocaaDoor
