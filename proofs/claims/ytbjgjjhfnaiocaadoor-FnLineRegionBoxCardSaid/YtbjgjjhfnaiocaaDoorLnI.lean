/- Lines in the program. -/
import Derived.Test.YtbjgjjhfnaiocaaDoorLnL
import Derived.Test.YtbjgjjhfnaiocaaDoorLnS
import Derived.Test.YtbjgjjhfnaiocaaDoorBitR
import Derived.Test.YtbjgjjhfnaiocaaDoorBitO
import Derived.Laws.CopyOwn
namespace Go.Proofs.YtbjgjjhfnaiocaaDoor
open Go.RowKit
set_option linter.unusedSimpArgs false
set_option linter.unusedVariables false
set_option maxRecDepth 100000

theorem gsetD (r : Nat) (u : World) (i : Nat) (x : Value) : u.grownBy (u.setCell ⟨r, i, none⟩ x).drew (some r) := ⟨rfl, rfl, rfl, by simp [World.setCell], fun k _ hk => heap_setCell_other u ⟨r, i, none⟩ k x (fun e => hk (by simp [e]))⟩
theorem gdrew (u : World) (row : Option Nat) : u.grownBy u.drew row := ⟨rfl, rfl, rfl, Nat.le_refl _, fun _ _ _ => rfl⟩
theorem bxput {w : World} {b : Nat} {T : TypeId} {cs : Array Value} (h : Bx w b T cs) (i : Nat) (v : Value) : Bx (w.setCell ⟨b, i, none⟩ v) b T (cs.setIfInBounds i v) := heap_setCell_same w b i _ _ _ h
/-- Rows of bits that are the pixels of a grid. -/
def asR (B : Nat → Nat) (F : Nat → Bool) : Prop := (∀ y, B y < 65536) ∧ ∀ j, j < 256 → (B (j / 16)).testBit (j % 16) = F j
theorem asR_zero (p : Nat → Nat) : asR (fun _ => 0) (ptB p 0) := ⟨fun _ => by show 0 < 65536; omega, fun j _ => by rw [Nat.zero_testBit]; rfl⟩
theorem pow_lt16 {X : Nat} (hX : X < 16) : 2 ^ X < 65536 := Nat.lt_of_le_of_lt (Nat.pow_le_pow_right (by omega) (show X ≤ 15 by omega)) (by omega)
theorem asR_put {B : Nat → Nat} {F : Nat → Bool} (h : asR B F) {X Y P : Nat} (hX : X < 16) (hY : Y < 16) (hP : P = Y * 16 + X) : asR (upB B Y (B Y ||| 2 ^ X)) (fun j => F j || decide (j = P)) := by
  refine ⟨fun y => ?_, fun j hj => ?_⟩
  · unfold upB
    split
    · exact Nat.or_lt_two_pow (n := 16) (h.1 Y) (pow_lt16 hX)
    · exact h.1 y
  · show (upB B Y (B Y ||| 2 ^ X) (j / 16)).testBit (j % 16) = (F j || decide (j = P))
    unfold upB
    have hj' := h.2 j hj
    by_cases e : j / 16 = Y
    · rw [if_pos e, Nat.testBit_or, Nat.testBit_two_pow, ← e, hj']
      congr 1
      exact decide_eq_decide.2 (by omega)
    · rw [if_neg e, hj', decide_eq_false (show ¬ j = P by omega), Bool.or_false]
theorem asR_grid {B : Nat → Nat} {F : Nat → Bool} (h : asR B F) (x y : Nat) (hx : x < 16) (hy : y < 16) : bGr B x y = F (y * 16 + x) := by
  unfold bGr
  rw [bG_eq (h.1 y)]
  have := h.2 (y * 16 + x) (by omega)
  rwa [show (y * 16 + x) / 16 = y by omega, show (y * 16 + x) % 16 = x by omega] at this
theorem ln_bits {B : Nat → Nat} {Y X : Nat} (hB : B Y < 65536) (hX : X < 16) : bits .or .u16 (B Y : Int) (IntKind.u16.wrap (2 ^ X)) = ((B Y ||| 2 ^ X : Nat) : Int) := by
  have e : IntKind.u16.wrap (2 ^ X) = ((2 ^ X : Nat) : Int) := by
    have := pow_lt16 hX
    have e1 : (2 : Int) ^ X = ((2 ^ X : Nat) : Int) := by push_cast; rfl
    rw [IntKind.wrap_u16, e1]
    generalize (2 : Nat) ^ X = a at *
    omega
  rw [e]
  exact or16 hB (pow_lt16 hX)
set_option maxHeartbeats 1000000 in
theorem i_dst (a b : Int) (w : World) (h0 : 0 ≤ a ∧ a ≤ 100) (h1 : 0 ≤ b ∧ b ≤ 100) : Calls Tryd.prog 28 #[.int .i64 a, .int .i64 b] w fun e w' => e = .returned (.int .i64 ((b - a).natAbs : Nat)) ∧ w = w' := by
  by_cases h : a < b
  all_goals
    go_enter Tryd.func28, Tryd.ntmps28
    go_wp2
    go_ret
    exact ⟨ret_int (by omega), rfl⟩
set_option maxHeartbeats 8000000 in
theorem i_put (r X Y : Nat) (hX : X < 16) (hY : Y < 16) (B : Nat → Nat) (hB : ∀ y, B y < 65536) (w : World) (h : Bx w r 56 (btC B)) :
    Calls Tryd.prog 30 #[.pointer (some ⟨r, 0, none⟩), .int .i64 (X : Int), .int .i64 (Y : Int)] w fun e w' => e = .returned (.tuple #[]) ∧ Bx w' r 56 (btC (upB B Y (B Y ||| 2 ^ X))) ∧ w.grownBy w' (some r) := by
  have ha := bx_cell h hY
  have hf : w.frozen? ⟨r, Y, none⟩ = false := frozen_of_row w r Y _ _ h
  have hlt := h.lt
  have hv := ln_bits (hB Y) hX
  have HN : Hid (Bx (w.setCell ⟨r, Y, none⟩ (.int .u16 (bits .or .u16 (B Y : Int) (IntKind.u16.wrap (2 ^ X))))).drew r 56 (btC (upB B Y (B Y ||| 2 ^ X))) ∧ w.grownBy (w.setCell ⟨r, Y, none⟩ (.int .u16 (bits .or .u16 (B Y : Int) (IntKind.u16.wrap (2 ^ X))))).drew (some r)) := Lib.hid (by
    rw [hv]
    exact ⟨bx_up h hY _, gsetD r w Y _⟩)
  have hyI : (Y : Int) < 16 := by omega
  have hxI : (X : Int) < 16 := by omega
  clear h hv
  go_enter Tryd.func30, Tryd.ntmps30
  go_region
  go_end0
  exact ⟨rfl, HN.out⟩
/-- The cells of a walker. -/
abbrev wkC (a b : Int) (n i : Nat) : Array Value := #[.int .i64 (lnX a b n i), .int .i64 (wkP a b n i), .int .i64 (2 * (b - a)), .int .i64 (2 * (n : Int))]
theorem wk_info : (Tryd.prog.info? 51).map (·.size) = some 4 := by kernel_rfl
set_option maxHeartbeats 4000000 in
theorem i_newWalker (a b : Int) (n : Nat) (ha : 0 ≤ a ∧ a ≤ 15) (hb : 0 ≤ b ∧ b ≤ 15) (hn : n ≤ 15) (w : World) : Calls Tryd.prog 29 #[.int .i64 a, .int .i64 b, .int .i64 (n : Int)] w fun e w' => e = .returned (.agg (wkC a b n 0)) ∧ Below w.heap.size w w' := by
  have e1 := lnX_start a b n
  have e2 := wkP_start a b n
  unfold wkC
  rw [e1, e2]
  have hX : Bx (w.alloc (.cells #[.int .i64 0, .int .i64 0, .int .i64 0, .int .i64 0] 51)) w.heap.size 51 #[.int .i64 0, .int .i64 0, .int .i64 0, .int .i64 0] := Bx.new _ _ _
  have f0 := frozen_of_row _ w.heap.size 0 _ _ hX
  have f1 := frozen_of_row _ w.heap.size 1 _ _ hX
  have f2 := frozen_of_row _ w.heap.size 2 _ _ hX
  have f3 := frozen_of_row _ w.heap.size 3 _ _ hX
  clear hX e1 e2
  go_enter Tryd.func29, Tryd.ntmps29
  go_wp2
  exact bodyPost_ret (v := .agg #[.int .i64 a, .int .i64 (n : Int), .int .i64 (2 * (b - a)), .int .i64 (2 * (n : Int))]) (results_cell_row rfl _ _ w.heap.size 51 _ (0, 0) _ rfl (heap_alloc_new w _) Tryd.underlying51 rfl wk_info) rfl ⟨rfl, (Below.refl _ _).alloc (Nat.le_refl _) _⟩
set_option maxHeartbeats 8000000 in
theorem i_step (r : Nat) (a b : Int) (n i : Nat) (ha : 0 ≤ a ∧ a ≤ 15) (hb : 0 ≤ b ∧ b ≤ 15) (hn0 : 0 < n) (hn : n ≤ 15) (hd : (b - a).natAbs ≤ n) (hi : i < n) (w : World) (h : Bx w r 51 (wkC a b n i)) :
    Calls Tryd.prog 31 #[.pointer (some ⟨r, 0, none⟩)] w fun e w' => e = .returned (.tuple #[]) ∧ Bx w' r 51 (wkC a b n (i + 1)) ∧ w.grownBy w' (some r) := by
  obtain ⟨n1, n2, n3⟩ := wk_next (a := a) (b := b) (n := n) (i := i) hn0 (by omega)
  have hX := lnX_in ha hb hd (show i ≤ n by omega)
  obtain ⟨p0, p1⟩ := wkP_bd a b hn0 i
  unfold wkC at h
  obtain ⟨A, hA⟩ : ∃ A, A = lnX a b n i := ⟨_, rfl⟩
  obtain ⟨Q, hQ⟩ : ∃ Q, Q = wkP a b n i := ⟨_, rfl⟩
  obtain ⟨C, hC⟩ : ∃ C, C = 2 * (b - a) := ⟨_, rfl⟩
  have HC := Lib.hid hC
  rw [← hA, ← hQ, ← hC] at h
  rw [← hQ] at p0 p1
  rw [← hA] at hX
  rw [← hA, ← hQ, ← hC] at n1 n2 n3
  have c0 : w.cell? ⟨r, 0, none⟩ = some (.int .i64 A) := (cell_of_row w r 0 _ _ _ h).trans rfl
  have c1 : w.cell? ⟨r, 1, none⟩ = some (.int .i64 Q) := (cell_of_row w r 1 _ _ _ h).trans rfl
  have c2 : w.cell? ⟨r, 2, none⟩ = some (.int .i64 C) := (cell_of_row w r 2 _ _ _ h).trans rfl
  have c3 : w.cell? ⟨r, 3, none⟩ = some (.int .i64 (2 * (n : Int))) := (cell_of_row w r 3 _ _ _ h).trans rfl
  have f0 : w.frozen? ⟨r, 0, none⟩ = false := frozen_of_row w r 0 _ _ h
  have f1 : w.frozen? ⟨r, 1, none⟩ = false := frozen_of_row w r 1 _ _ h
  have hlt := h.lt
  have hCb : -30 ≤ C ∧ C ≤ 30 := by omega
  clear hA hQ hC c0 c1 c2 c3 f0 f1 hlt
  have hTr : ∀ u : World, ∀ A' Q' : Int, Bx u r 51 #[.int .i64 A', .int .i64 Q', .int .i64 C, .int .i64 (2 * (n : Int))] →
      u.cell? ⟨r, 0, none⟩ = some (.int .i64 A') ∧ u.cell? ⟨r, 1, none⟩ = some (.int .i64 Q') ∧ u.cell? ⟨r, 2, none⟩ = some (.int .i64 C) ∧ u.cell? ⟨r, 3, none⟩ = some (.int .i64 (2 * (n : Int))) ∧ u.frozen? ⟨r, 0, none⟩ = false ∧ u.frozen? ⟨r, 1, none⟩ = false := fun u A' Q' h =>
    ⟨(cell_of_row u r 0 _ _ _ h).trans rfl, (cell_of_row u r 1 _ _ _ h).trans rfl, (cell_of_row u r 2 _ _ _ h).trans rfl, (cell_of_row u r 3 _ _ _ h).trans rfl, frozen_of_row u r 0 _ _ h, frozen_of_row u r 1 _ _ h⟩
  have HTr := Lib.hid hTr
  clear hTr
  have HX0 := Lib.hid h
  clear h
  obtain ⟨c0, c1, c2, c3, f0, f1⟩ := HTr.out w A Q HX0.out
  have hlt := HX0.out.lt
  have HX1 : Hid (Bx (w.setCell ⟨r, 1, none⟩ (.int .i64 (Q + C))).drew r 51 #[.int .i64 A, .int .i64 (Q + C), .int .i64 C, .int .i64 (2 * (n : Int))] ∧ w.grownBy (w.setCell ⟨r, 1, none⟩ (.int .i64 (Q + C))).drew (some r)) := Lib.hid ⟨bxput HX0.out 1 _, gsetD r w 1 _⟩
  go_enter Tryd.func31, Tryd.ntmps31
  go_upto_region 0 with fail
  go_region
  generalize (w.setCell ⟨r, 1, none⟩ (.int .i64 (Q + C))).drew = u1 at *
  clear c0 c1 c2 c3 f0 f1 hlt
  obtain ⟨d0, d1, d2, d3, e0, e1⟩ := HTr.out u1 A (Q + C) HX1.out.1
  have hlt := HX1.out.1.lt
  by_cases hz : Q + C < 0
  · obtain ⟨m1, m2⟩ := n1 hz
    have HX2 : Hid (Bx (u1.setCell ⟨r, 1, none⟩ (.int .i64 (Q + C + 2 * (n : Int)))).drew r 51 #[.int .i64 A, .int .i64 (Q + C + 2 * (n : Int)), .int .i64 C, .int .i64 (2 * (n : Int))] ∧ w.grownBy (u1.setCell ⟨r, 1, none⟩ (.int .i64 (Q + C + 2 * (n : Int)))).drew (some r)) := Lib.hid ⟨bxput HX1.out.1 1 _, gtrans HX1.out.2 (gsetD r u1 1 _)⟩
    go_upto_region 2 with fail
    go_region
    generalize (u1.setCell ⟨r, 1, none⟩ (.int .i64 (Q + C + 2 * (n : Int)))).drew = u2 at *
    clear d0 d1 d2 d3 e0 e1 hlt
    obtain ⟨d0, d1, d2, d3, e0, e1⟩ := HTr.out u2 A (Q + C + 2 * (n : Int)) HX2.out.1
    have hlt := HX2.out.1.lt
    have HE : Hid (Bx (u2.setCell ⟨r, 0, none⟩ (.int .i64 (A - 1))) r 51 (wkC a b n (i + 1)) ∧ w.grownBy (u2.setCell ⟨r, 0, none⟩ (.int .i64 (A - 1))) (some r)) := Lib.hid ⟨by
      unfold wkC
      rw [m1, m2, ← HC.out]
      exact bxput HX2.out.1 0 _, gtrans HX2.out.2 (gset r u2 0 _)⟩
    clear m1 m2 n1 n2 n3
    go_wp2
    go_end0
    exact ⟨rfl, HE.out⟩
  · go_upto_region 4 with fail
    go_region
    by_cases hz2 : 2 * (n : Int) ≤ Q + C
    · obtain ⟨m1, m2⟩ := n2 hz2
      have HX2 : Hid (Bx (u1.setCell ⟨r, 1, none⟩ (.int .i64 (Q + C - 2 * (n : Int)))).drew.drew r 51 #[.int .i64 A, .int .i64 (Q + C - 2 * (n : Int)), .int .i64 C, .int .i64 (2 * (n : Int))] ∧ w.grownBy (u1.setCell ⟨r, 1, none⟩ (.int .i64 (Q + C - 2 * (n : Int)))).drew.drew (some r)) := Lib.hid ⟨bxput HX1.out.1 1 _, gtrans (gtrans HX1.out.2 (gsetD r u1 1 _)) (gdrew _ _)⟩
      go_upto_region 5 with fail
      go_region
      generalize (u1.setCell ⟨r, 1, none⟩ (.int .i64 (Q + C - 2 * (n : Int)))).drew.drew = u2 at *
      clear d0 d1 d2 d3 e0 e1 hlt
      obtain ⟨d0, d1, d2, d3, e0, e1⟩ := HTr.out u2 A (Q + C - 2 * (n : Int)) HX2.out.1
      have hlt := HX2.out.1.lt
      have HE : Hid (Bx (u2.setCell ⟨r, 0, none⟩ (.int .i64 (A + 1))) r 51 (wkC a b n (i + 1)) ∧ w.grownBy (u2.setCell ⟨r, 0, none⟩ (.int .i64 (A + 1))) (some r)) := Lib.hid ⟨by
        unfold wkC
        rw [m1, m2, ← HC.out]
        exact bxput HX2.out.1 0 _, gtrans HX2.out.2 (gset r u2 0 _)⟩
      clear m1 m2 n1 n2 n3
      go_wp2
      go_end0
      exact ⟨rfl, HE.out⟩
    · obtain ⟨m1, m2⟩ := n3 (by omega) (by omega)
      have HE : Hid (Bx u1.drew r 51 (wkC a b n (i + 1)) ∧ w.grownBy u1.drew (some r)) := Lib.hid ⟨by
        unfold wkC
        rw [m1, m2, ← HC.out]
        exact HX1.out.1, gtrans HX1.out.2 (gdrew u1 (some r))⟩
      clear m1 m2 n1 n2 n3
      go_wp2
      go_end0
      exact ⟨rfl, HE.out⟩
end Go.Proofs.YtbjgjjhfnaiocaaDoor
