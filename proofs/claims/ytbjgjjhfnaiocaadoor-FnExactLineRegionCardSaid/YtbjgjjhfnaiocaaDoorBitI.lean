/- TrailingZeros16; rows of bits in the program. -/
import Derived.Test.YtbjgjjhfnaiocaaDoorDoor
import Derived.Test.YtbjgjjhfnaiocaaDoorBitM
namespace Go.Proofs.YtbjgjjhfnaiocaaDoor
open Go.RowKit
set_option linter.unusedSimpArgs false
set_option linter.unusedVariables false
set_option maxRecDepth 100000

theorem ofI16 {x : Nat} (h : x < 65536) : (BitVec.ofInt 16 (x : Int)).toNat = x := by
  rw [BitVec.ofInt_natCast, BitVec.toNat_ofNat]; exact Nat.mod_eq_of_lt h
theorem wrap16 {x : Nat} (h : x < 65536) : IntKind.u16.wrap (x : Int) = (x : Int) := by
  rw [IntKind.wrap_u16]; omega
theorem and16 {a b : Nat} (ha : a < 65536) (hb : b < 65536) : bits .and .u16 (a : Int) (b : Int) = ((a &&& b : Nat) : Int) := by
  show IntKind.u16.wrap ((BitVec.ofInt 16 (a : Int) &&& BitVec.ofInt 16 (b : Int)).toNat : Int) = _
  rw [BitVec.toNat_and, ofI16 ha, ofI16 hb]
  exact wrap16 (Nat.lt_of_le_of_lt Nat.and_le_left ha)
theorem or16 {a b : Nat} (ha : a < 65536) (hb : b < 65536) : bits .or .u16 (a : Int) (b : Int) = ((a ||| b : Nat) : Int) := by
  show IntKind.u16.wrap ((BitVec.ofInt 16 (a : Int) ||| BitVec.ofInt 16 (b : Int)).toNat : Int) = _
  rw [BitVec.toNat_or, ofI16 ha, ofI16 hb]
  exact wrap16 (Nat.or_lt_two_pow (n := 16) ha hb)
theorem xor16 {a b : Nat} (ha : a < 65536) (hb : b < 65536) : bits .xor .u16 (a : Int) (b : Int) = ((a ^^^ b : Nat) : Int) := by
  show IntKind.u16.wrap ((BitVec.ofInt 16 (a : Int) ^^^ BitVec.ofInt 16 (b : Int)).toNat : Int) = _
  rw [BitVec.toNat_xor, ofI16 ha, ofI16 hb]
  exact wrap16 (Nat.xor_lt_two_pow (n := 16) ha hb)
theorem deB_nat : ∀ j : Nat, j < 32 → deB.getD j 0 = ((deBN.getD j 0 : Nat) : Int) := by decide +kernel
set_option maxHeartbeats 4000000 in
theorem tz_any (x : Nat) (hx : x < 65536) (w : World) (hT : Tab w) :
    Calls Tryd.prog 53 #[.int .u16 (x : Int)] w fun e w' => e = .returned (.int .i64 (tz x : Nat)) ∧ w' = w := by
  by_cases h0 : x = 0
  · subst h0
    go_enter Tryd.func53, Tryd.ntmps53
    go_wp2
    go_ret
    exact ⟨rfl, rfl⟩
  · obtain ⟨t1, t2⟩ := tz_tab hx h0
    have hT' := Lib.hid hT
    have hxi : ((x : Int) == 0) = false := beq_eq_false_iff_ne.2 (by omega)
    have e1 : IntKind.u16.wrap (-(x : Int)) = ((65536 - x : Nat) : Int) := by rw [IntKind.wrap_u16]; omega
    have e2 : bits .and .u16 (x : Int) (IntKind.u16.wrap (-(x : Int))) = ((x &&& (65536 - x) : Nat) : Int) := by rw [e1]; exact and16 hx (by omega)
    have hal : x &&& (65536 - x) < 65536 := Nat.lt_of_le_of_lt Nat.and_le_left hx
    have e3 : bits .and .u16 (x : Int) (IntKind.u16.wrap (-(x : Int))) % 4294967296 * 125613361 % 4294967296 / 134217728 = ((tzI x : Nat) : Int) := by
      rw [e2]
      unfold tzI
      generalize x &&& (65536 - x) = a at *
      omega
    have hc : w.cell? ⟨0, (bits .and .u16 (x : Int) (IntKind.u16.wrap (-(x : Int))) % 4294967296 * 125613361 % 4294967296 / 134217728).toNat, none⟩ = some (.int .u8 ((tz x : Nat) : Int)) := by
      rw [e3, Int.toNat_natCast, hT.2 _ t1, ← t2, deB_nat _ t1]
    have hlo : 0 ≤ bits .and .u16 (x : Int) (IntKind.u16.wrap (-(x : Int))) % 4294967296 * 125613361 % 4294967296 / 134217728 := by rw [e3]; omega
    have hhi : bits .and .u16 (x : Int) (IntKind.u16.wrap (-(x : Int))) % 4294967296 * 125613361 % 4294967296 / 134217728 < 32 := by rw [e3]; omega
    have htz := tz_le x
    clear hT e1 e2 e3 t1 t2
    go_enter Tryd.func53, Tryd.ntmps53
    go_wp2
    go_ret
    exact ⟨rfl, rfl⟩
end Go.Proofs.YtbjgjjhfnaiocaaDoor
