/- Rows of bits that grow and shrink: the values. -/
import Derived.Test.YtoeifhflbgfcjaaDoorBitO
namespace Go.Proofs.YtoeifhflbgfcjaaDoor
open Go.RowKit
set_option linter.unusedSimpArgs false
set_option linter.unusedVariables false

/-- A row with its neighbours, a row without its edge. -/
def gwV (B : Nat → Nat) (k : Nat) : Nat := B k ||| B k * 2 % 65536 ||| B k / 2 ||| bRow B ((k : Int) - 1) ||| bRow B ((k : Int) + 1)
def skV (B : Nat → Nat) (k : Nat) : Nat := B k &&& B k * 2 % 65536 &&& B k / 2 &&& bRow B ((k : Int) - 1) &&& bRow B ((k : Int) + 1)
def gwB (B : Nat → Nat) (k q : Nat) : Nat := if q < k then gwV B q else 0
def skB (B : Nat → Nat) (k q : Nat) : Nat := if q < k then skV B q else 0
theorem or_lt16 {a b : Nat} (ha : a < 65536) (hb : b < 65536) : a ||| b < 65536 := Nat.or_lt_two_pow (n := 16) ha hb
theorem and_lt16 {a b : Nat} (ha : a < 65536) (hb : b < 65536) : a &&& b < 65536 := Nat.lt_of_le_of_lt Nat.and_le_left ha
theorem bRowLt {B : Nat → Nat} (hB : ∀ y, B y < 65536) (y : Int) : bRow B y < 65536 := by
  unfold bRow
  split
  · exact hB _
  · omega
theorem gwV_lt {B : Nat → Nat} (hB : ∀ y, B y < 65536) (k : Nat) : gwV B k < 65536 :=
  Nat.or_lt_two_pow (n := 16) (Nat.or_lt_two_pow (n := 16) (Nat.or_lt_two_pow (n := 16) (Nat.or_lt_two_pow (n := 16) (hB k) (Nat.mod_lt _ (by omega))) (Nat.lt_of_le_of_lt (Nat.div_le_self _ _) (hB k))) (bRowLt hB _)) (bRowLt hB _)
theorem skV_lt {B : Nat → Nat} (hB : ∀ y, B y < 65536) (k : Nat) : skV B k < 65536 :=
  Nat.lt_of_le_of_lt Nat.and_le_right (bRowLt hB _)
theorem gwB_lt {B : Nat → Nat} (hB : ∀ y, B y < 65536) (k q : Nat) : gwB B k q < 65536 := by
  unfold gwB; split
  · exact gwV_lt hB q
  · omega
theorem skB_lt {B : Nat → Nat} (hB : ∀ y, B y < 65536) (k q : Nat) : skB B k q < 65536 := by
  unfold skB; split
  · exact skV_lt hB q
  · omega
theorem gwB_up (B : Nat → Nat) (k : Nat) : upB (gwB B k) k (gwV B k) = gwB B (k + 1) := by
  funext q
  unfold upB gwB
  by_cases e : q = k
  · subst e; rw [if_pos rfl, if_pos (Nat.lt_succ_self q)]
  · rw [if_neg e]
    by_cases h : q < k
    · rw [if_pos h, if_pos (by omega)]
    · rw [if_neg h, if_neg (by omega)]
theorem skB_up (B : Nat → Nat) (k : Nat) : upB (skB B k) k (skV B k) = skB B (k + 1) := by
  funext q
  unfold upB skB
  by_cases e : q = k
  · subst e; rw [if_pos rfl, if_pos (Nat.lt_succ_self q)]
  · rw [if_neg e]
    by_cases h : q < k
    · rw [if_pos h, if_pos (by omega)]
    · rw [if_neg h, if_neg (by omega)]
end Go.Proofs.YtoeifhflbgfcjaaDoor
