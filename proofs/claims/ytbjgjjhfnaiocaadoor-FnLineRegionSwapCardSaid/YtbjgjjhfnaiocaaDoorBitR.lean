/- The runs of rows of bits. -/
import Derived.Test.YtbjgjjhfnaiocaaDoorBitI
import Derived.Test.YtbjgjjhfnaiocaaDoorRnI
namespace Go.Proofs.YtbjgjjhfnaiocaaDoor
open Go.RowKit
set_option linter.unusedSimpArgs false
set_option linter.unusedVariables false
set_option maxRecDepth 100000

/-- Sixteen rows of bits, as an array. -/
abbrev btC (B : Nat → Nat) : Array Value := #[.int .u16 (B 0 : Nat), .int .u16 (B 1 : Nat), .int .u16 (B 2 : Nat), .int .u16 (B 3 : Nat), .int .u16 (B 4 : Nat), .int .u16 (B 5 : Nat), .int .u16 (B 6 : Nat), .int .u16 (B 7 : Nat), .int .u16 (B 8 : Nat), .int .u16 (B 9 : Nat), .int .u16 (B 10 : Nat), .int .u16 (B 11 : Nat), .int .u16 (B 12 : Nat), .int .u16 (B 13 : Nat), .int .u16 (B 14 : Nat), .int .u16 (B 15 : Nat)]
theorem btC_get (B : Nat → Nat) : ∀ y : Nat, y < 16 → (btC B)[y]? = some (.int .u16 (B y : Nat))
  | 0, _ => rfl | 1, _ => rfl | 2, _ => rfl | 3, _ => rfl | 4, _ => rfl | 5, _ => rfl | 6, _ => rfl | 7, _ => rfl
  | 8, _ => rfl | 9, _ => rfl | 10, _ => rfl | 11, _ => rfl | 12, _ => rfl | 13, _ => rfl | 14, _ => rfl | 15, _ => rfl
  | n + 16, h => by omega
theorem bt_index (B : Nat → Nat) (w : World) : ∀ y : Nat, y < 16 → (Instr.index 56 (.agg (btC B)) (.int .i64 (y : Int))).run Tryd.prog w = .ok (.int .u16 (B y : Nat)) w
  | 0, _ => by kernel_rfl | 1, _ => by kernel_rfl | 2, _ => by kernel_rfl | 3, _ => by kernel_rfl | 4, _ => by kernel_rfl | 5, _ => by kernel_rfl | 6, _ => by kernel_rfl | 7, _ => by kernel_rfl
  | 8, _ => by kernel_rfl | 9, _ => by kernel_rfl | 10, _ => by kernel_rfl | 11, _ => by kernel_rfl | 12, _ => by kernel_rfl | 13, _ => by kernel_rfl | 14, _ => by kernel_rfl | 15, _ => by kernel_rfl
  | n + 16, h => by omega
/-- The grid of rows of bits. -/
def bGr (B : Nat → Nat) (x y : Nat) : Bool := bG (B y) x
set_option maxHeartbeats 4000000 in
theorem i_runs (B : Nat → Nat) (hB : ∀ y, B y < 65536) (w : World) (hT : Tab w) :
    Calls Tryd.prog 32 #[.agg (btC B)] w (RunsI (bGr B) w) := by
  have HT := Lib.hid hT
  have HB : Hid (Below w.heap.size w (w.alloc (.cells (btC B) 56))) := Lib.hid ((Below.refl _ _).alloc (Nat.le_refl _) _)
  clear hT
  go_enter Tryd.func32, Tryd.ntmps32
  go_wp2
  go_loopw [3, 9] (fun v i wr => ∃ y n : Nat, y ≤ 16 ∧ n ≤ 17 * y ∧ i = .int .i64 (y : Int) ∧ Hid (OwnT 35 3 wr w.heap.size v n (rnk (bGr B) y) ∧ Below w.heap.size w wr)) (fun _ i _ => (16 - intOf i).toNat)
  case atStart => exact ⟨0, 0, by omega, by omega, rfl, Lib.hid ⟨OwnT.nil _ _ _ _, HB.out⟩⟩
  case round =>
    clear HB
    obtain ⟨y, n, hy, hn, rfl, hI⟩ := hrel
    rename World => wy
    obtain ⟨A1, c1, rfl, hc1⟩ := hI.out.1.slice
    by_cases hlt : y < 16
    · have hyI : (y : Int) < 16 := by omega
      have hix := bt_index B wy y hlt
      obtain ⟨b, hb⟩ : ∃ b, b = B y := ⟨_, rfl⟩
      have hb16 := hB y
      rw [← hb] at hix hb16
      have Hbb := Lib.hid hb
      clear hb
      go_wp2
      clear hix
      go_loopw [3, 6] (fun v i wr => ∃ f m : Nat, f ≤ 16 ∧ m ≤ 17 * y + f ∧ i = .int .i64 (f : Int) ∧ (f = 0 ∨ b.testBit f = false) ∧ Hid (OwnT 35 3 wr w.heap.size v m (rnk (bGr B) y ++ rowF (bG b) (y : Int) f) ∧ Below w.heap.size w wr)) (fun _ i _ => (16 - intOf i).toNat)
      case atStart => exact ⟨0, n, by omega, by omega, rfl, .inl rfl, Lib.hid ⟨by rw [show rowF (bG b) (y : Int) 0 = [] from rfl, List.append_nil]; exact hI.out.1, hI.out.2⟩⟩
      case round =>
        clear hI
        obtain ⟨f, m, hf, hm, rfl, h0, hI⟩ := hrel
        rename World => wx
        obtain ⟨A2, c2, rfl, hc2⟩ := hI.out.1.slice
        by_cases hne : b / 2 ^ f = 0
        · have hdv : (b : Int) / 2 ^ f = ((b / 2 ^ f : Nat) : Int) := by push_cast; rfl
          have hnI : ((b : Int) / 2 ^ f != 0) = false := by rw [hdv, hne]; rfl
          have HN : Hid (OwnT 35 3 wx w.heap.size (.slice A2 m c2) m (rnk (bGr B) (y + 1)) ∧ Below w.heap.size w wx) := Lib.hid ⟨by
            have e : rowG (bGr B) y = bG b := by
              funext x; unfold rowG bGr bG; rw [← Hbb.out]
              cases decide (x < 16) <;> simp
            rw [rnk_row (W := 16) (Nat.le_refl _) (fun x hx => by unfold bGr bG; rw [decide_eq_false (by omega), Bool.false_and]), e, runs_last hb16 hf hne]
            exact hI.out.1, hI.out.2⟩
          clear hI hdv
          go_wp2
          go_roundw
          case rel => exact ⟨y + 1, m, by omega, by omega, by go_num, HN⟩
          case measure => simp [intOf]; omega
        · have hdv : (b : Int) / 2 ^ f = ((b / 2 ^ f : Nat) : Int) := by push_cast; rfl
          have hnI : ((b : Int) / 2 ^ f != 0) = true := by
            rw [hdv]
            generalize b / 2 ^ f = q at *
            exact bne_iff_ne.2 (by omega)
          have Hdv := Lib.hid hdv
          clear hdv
          obtain ⟨n1, n2, n3, n4, n5, n6⟩ := runs_next (y := (y : Int)) hb16 hf h0 hne
          have hdl : b / 2 ^ f < 65536 := Nat.lt_of_le_of_lt (Nat.div_le_self _ _) hb16
          have HTx := Lib.hid (HT.out.below hI.out.2)
          go_wp2_with fail
          rw [Hdv.out]
          refine (tz_any (b / 2 ^ f) hdl wx HTx.out).mono ?_
          rintro e w5 ⟨rfl, rfl⟩
          generalize tz (b / 2 ^ f) = a at *
          obtain ⟨p, hp⟩ : ∃ p, p = f + a := ⟨_, rfl⟩
          have hdv2 : bits .xor .u16 IntKind.u16.max ((b : Int) / 2 ^ (f + a)) = ((65535 ^^^ (b / 2 ^ (f + a)) : Nat) : Int) := by
            have e : (b : Int) / 2 ^ (f + a) = ((b / 2 ^ (f + a) : Nat) : Int) := by push_cast; rfl
            rw [e]
            exact xor16 (a := 65535) (by omega) (Nat.lt_of_le_of_lt (Nat.div_le_self _ _) hb16)
          have hxl : 65535 ^^^ (b / 2 ^ (f + a)) < 65536 := Nat.xor_lt_two_pow (n := 16) (by omega) (Nat.lt_of_le_of_lt (Nat.div_le_self _ _) hb16)
          have Hdv2 := Lib.hid hdv2
          clear hdv2
          go_wp2_with fail
          rw [Hdv2.out]
          refine (tz_any (65535 ^^^ (b / 2 ^ (f + a))) hxl w5 HTx.out).mono ?_
          rintro e w6 ⟨rfl, rfl⟩
          generalize tz (65535 ^^^ (b / 2 ^ (f + a))) = d at *
          have HN6 := Lib.hid n6
          have H56 := Lib.hid n5
          have hz6 := hI.out.2.size
          have HO6 := Lib.hid (hI.out.1.alloc (.cells #[.int .i64 (y : Int), .int .i64 ((f : Int) + (a : Int)), .int .i64 ((f : Int) + (a : Int) + (d : Int))] 35))
          have HB6 := Lib.hid (hI.out.2.alloc hI.out.2.size (.cells #[.int .i64 (y : Int), .int .i64 ((f : Int) + (a : Int)), .int .i64 ((f : Int) + (a : Int) + (d : Int))] 35))
          have HC := Lib.hid (run_cells w6 (y : Int) ((f : Int) + (a : Int)) ((f : Int) + (a : Int) + (d : Int)) 35)
          have Hz6 := Lib.hid hz6
          clear n5 n6 hz6 hI hnI Hdv Hdv2 hxl
          go_wp2_with (at_builtin; refine wpList_appRun rfl (.tmp 30) (.tmp 35) rfl w.heap.size (.slice A2 m c2) m (rnk (bGr B) y ++ rowF (bG b) (y : Int) f) rfl HO6.out w6.heap.size 1 1 [(y : Int), (f : Int) + (a : Int), (f : Int) + (a : Int) + (d : Int)] rfl (by simp) HC.out (by omega) (by have := Hz6.out; simp; omega) ?_; intro v7 w7 hO7 hG7)
          have HN : Hid (OwnT 35 3 w7 w.heap.size v7 (m + 1) (rnk (bGr B) y ++ rowF (bG b) (y : Int) (f + a + d)) ∧ Below w.heap.size w w7) := Lib.hid ⟨by
            have e := HN6.out
            push_cast at e
            rw [e, ← List.append_assoc]; exact hO7, HB6.out.grown hG7 HB6.out.size (fun j hj => (HO6.out.lt j hj).1)⟩
          have h5 : (f + a + d = 0 ∨ b.testBit (f + a + d) = false) := H56.out
          clear hO7 hG7 HO6 HB6 HC Hz6 HN6 H56 HTx
          go_wp2
          go_roundw
          case rel => exact ⟨f + a + d, m + 1, by omega, by omega, by push_cast; rfl, h5, HN⟩
          case measure => simp [intOf]; omega
    · have hyI : ¬ (y : Int) < 16 := by omega
      obtain rfl : y = 16 := by omega
      have HE : Hid (RunsI (bGr B) w (.returned (.slice A1 n c1)) wy) := Lib.hid ⟨_, rfl, by
        have hl := hI.out.1.len
        have e : n = rnN (bGr B) := by have := (rnL_len (bGr B)).1; unfold rnL at this; omega
        rw [← e]; exact hI.out.1, hI.out.2⟩
      clear hI
      go_wp2
      go_ret
      exact HE.out
end Go.Proofs.YtbjgjjhfnaiocaaDoor
