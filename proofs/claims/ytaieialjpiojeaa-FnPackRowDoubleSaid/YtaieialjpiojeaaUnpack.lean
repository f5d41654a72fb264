/- Contracts of UnpackRow, in the model and in the program. -/
import Derived.Test.YtaieialjpiojeaaPackI
import Derived.Deep.RegionLaw
namespace Go.Proofs.Ytaieialjpiojeaa
open Go.RowKit
set_option linter.unusedSimpArgs false
set_option linter.unusedVariables false

/-- Number i of packed bytes. -/
def un (D : Nat) (bs : List Int) (i : Nat) : Int := bs.getD (i * D / 8) 0 / 2 ^ (8 - D - i * D % 8) % 2 ^ D
def uns (D : Nat) (bs : List Int) (n : Nat) : List Int := (List.range n).map (un D bs)
def unOk (bs : List Int) (d c : Int) : Bool := decide (vd d = true ∧ 0 ≤ c ∧ c ≤ 64 ∧ (bs.length : Int) = (c * d + 7) / 8 ∧ pk d.toNat (uns d.toNat bs c.toNat) = bs)
def unList (bs : List Int) (d c : Int) : List Int := if unOk bs d c = true then uns d.toNat bs c.toNat else []
def Unp (bs : List Int) (d c : Int) (w : World) (e : Ending) (w' : World) : Prop :=
  ∃ v, e = .returned (.tuple #[v, .bool (unOk bs d c)]) ∧ Own w' w.heap.size v (unList bs d c) ∧ Below w.heap.size w w'

theorem uns_len (D : Nat) (bs : List Int) (n : Nat) : (uns D bs n).length = n := by simp [uns]
theorem uns_succ (D : Nat) (bs : List Int) (n : Nat) : uns D bs (n + 1) = uns D bs n ++ [un D bs n] := by simp [uns, List.range_succ]
theorem pow_pos' (D : Nat) : (0 : Int) < 2 ^ D := Int.pow_pos (by decide)
theorem un_range (D : Nat) (bs : List Int) (i : Nat) : 0 ≤ un D bs i ∧ un D bs i < 2 ^ D := ⟨Int.emod_nonneg _ (by have := pow_pos' D; omega), Int.emod_lt_of_pos _ (pow_pos' D)⟩
theorem uns_fits (D : Nat) (bs : List Int) (n : Nat) : Fits D (uns D bs n) := by
  intro x hx
  simp only [uns, List.mem_map] at hx
  obtain ⟨i, _, rfl⟩ := hx
  exact un_range D bs i
theorem bt_nonneg {D : Nat} {xs : List Int} (hx : Fits D xs) (k j : Nat) : 0 ≤ bt D xs k j := by
  induction k with
  | zero => simp [bt]
  | succ k ih =>
    simp only [bt]
    have h1 := (hx.get k).1
    have h2 : (0 : Int) ≤ xs.getD k 0 * 2 ^ sh D k := Int.mul_nonneg h1 (Int.le_of_lt (pow_pos' _))
    split <;> omega
/-- No byte is greater than 255. -/
theorem bt_le {D : Nat} (hD : Dep D) {xs : List Int} (hx : Fits D xs) (k j : Nat) : bt D xs k j ≤ 255 := by
  induction k with
  | zero => simp [bt]
  | succ k ih =>
    simp only [bt]
    by_cases e : k * D / 8 = j
    · subst e
      have := bt_range hD hx k
      rw [if_pos rfl]; omega
    · rw [if_neg e]; omega
theorem pk_bytes {D : Nat} (hD : Dep D) {xs : List Int} (hx : Fits D xs) : allB 0 255 (pk D xs) = true := by
  apply decide_eq_true
  intro b hb
  simp only [pk, pkTo, List.mem_map] at hb
  obtain ⟨j, _, rfl⟩ := hb
  exact ⟨bt_nonneg hx _ _, bt_le hD hx _ _⟩
theorem and_mod {D : Nat} (h : Dep D) (x : Int) : bits .and .i64 x (2 ^ D - 1) = x % 2 ^ D := by
  have hx : (BitVec.ofInt 64 x).toNat = (x % 18446744073709551616).toNat := by
    rw [BitVec.toNat_ofInt]; rfl
  rcases h with rfl | rfl | rfl | rfl
  · show IntKind.i64.wrap ((BitVec.ofInt 64 x &&& BitVec.ofInt 64 (2 ^ 1 - 1)).toNat : Int) = _
    rw [BitVec.toNat_and, hx, show (BitVec.ofInt 64 ((2 : Int) ^ 1 - 1)).toNat = 2 ^ 1 - 1 from by decide, Nat.and_two_pow_sub_one_eq_mod, IntKind.wrap_i64]
    omega
  · show IntKind.i64.wrap ((BitVec.ofInt 64 x &&& BitVec.ofInt 64 (2 ^ 2 - 1)).toNat : Int) = _
    rw [BitVec.toNat_and, hx, show (BitVec.ofInt 64 ((2 : Int) ^ 2 - 1)).toNat = 2 ^ 2 - 1 from by decide, Nat.and_two_pow_sub_one_eq_mod, IntKind.wrap_i64]
    omega
  · show IntKind.i64.wrap ((BitVec.ofInt 64 x &&& BitVec.ofInt 64 (2 ^ 4 - 1)).toNat : Int) = _
    rw [BitVec.toNat_and, hx, show (BitVec.ofInt 64 ((2 : Int) ^ 4 - 1)).toNat = 2 ^ 4 - 1 from by decide, Nat.and_two_pow_sub_one_eq_mod, IntKind.wrap_i64]
    omega
  · show IntKind.i64.wrap ((BitVec.ofInt 64 x &&& BitVec.ofInt 64 (2 ^ 8 - 1)).toNat : Int) = _
    rw [BitVec.toNat_and, hx, show (BitVec.ofInt 64 ((2 : Int) ^ 8 - 1)).toNat = 2 ^ 8 - 1 from by decide, Nat.and_two_pow_sub_one_eq_mod, IntKind.wrap_i64]
    omega
theorem unp_no {bs : List Int} {d c : Int} {w w' : World} (h : unOk bs d c = false) (hb : Below w.heap.size w w') : Unp bs d c w (.returned (.tuple #[.slice none 0 0, .bool false])) w' :=
  ⟨_, by rw [h], by unfold unList; rw [h]; exact own_nil _ _, hb⟩
theorem sz_cast (n D : Nat) : ((sz D n : Nat) : Int) = ((n : Int) * (D : Int) + 7) / 8 := by unfold sz; push_cast; rfl

end Go.Proofs.Ytaieialjpiojeaa
