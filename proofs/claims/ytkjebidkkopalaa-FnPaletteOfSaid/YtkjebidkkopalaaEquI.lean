/- Contracts of EqualizeImage in the program: the sums of counts, the greatest number, the closures. -/
import Derived.Test.YtkjebidkkopalaaHisI
import Derived.Test.YtkjebidkkopalaaEquM
import Derived.Deep.QuietTactic
import Derived.BigQuiet
namespace Go.Proofs.Ytkjebidkkopalaa
open Go.RowKit Go.Shelf
set_option linter.unusedSimpArgs false
set_option linter.unusedVariables false
set_option maxRecDepth 20000

theorem lsZ_get (xs : List Int) (k m : Nat) : (lsL xs (k + 1) ++ zeros m).getD k 0 = sm (hist xs) k := by
  rw [List.getD_eq_getElem?_getD, List.getElem?_append_left (by rw [lsL_len]; omega), ← List.getD_eq_getElem?_getD, lsL_get xs (by omega)]
theorem lsZ_one (xs : List Int) : lsL xs 1 ++ zeros 255 = zeros 256 := by
  show [sm (hist xs) 0] ++ List.replicate 255 0 = List.replicate 256 0
  rw [show (256 : Nat) = 255 + 1 from rfl, List.replicate_succ]
  rfl
theorem lsZ_set (xs : List Int) (k m : Nat) (hm : 0 < m) : (lsL xs (k + 1) ++ zeros m).set (k + 1) (sm (hist xs) k + (hist xs).getD k 0) = lsL xs (k + 1 + 1) ++ zeros (m - 1) := by
  rw [set_nxt _ _ _ _ hm (lsL_len _ _).symm, lsL_next xs (k + 1)]
  rfl
set_option maxHeartbeats 4000000 in
theorem smax_any (A : Option Addr) (c : Nat) (xs : List Int) (w : World) (h0 : 0 < xs.length) (hx : Rds .i64 w w.heap.size A xs) (hl : xs.length ≤ 2000000) (hb : ∀ j, j < xs.length → 0 ≤ xs.getD j 0 ∧ xs.getD j 0 ≤ 255) :
    Calls Try.prog 53 #[.slice A xs.length c] w fun e w' => e = .returned (.int .i64 (mx xs xs.length)) ∧ w' = w := by
  have HX := Lib.hid hx
  have HB := Lib.hid hb
  have H1 : Hid (mx xs 1 = xs.getD 0 0) := Lib.hid (mx_one xs)
  have HMB : Hid (∀ k, k ≤ xs.length → 0 ≤ mx xs k ∧ mx xs k ≤ 255) := Lib.hid (mx_bd xs h0 hb)
  obtain ⟨b, off, rfl, hb1, hc⟩ := hx.cells_ h0
  have hc0 := hc 0 h0
  rw [← H1.out, Nat.add_zero] at hc0
  have hlen : ¬ (xs.length : Int) < 1 := by omega
  have HC := Lib.hid hc
  clear hx hb hc
  go_enter Try.func53, Try.ntmps53
  go_wp2
  clear hc0
  go_loopw [3, 4] (fun m i wr => ∃ k : Nat, 1 ≤ k ∧ k ≤ xs.length ∧ i = .int .i64 k ∧ m = .int .i64 (mx xs k) ∧ wr = w) (fun _ i _ => xs.length - (intOf i).toNat)
  case atStart => exact ⟨1, Nat.le_refl _, h0, rfl, rfl, rfl⟩
  case round =>
    obtain ⟨k, hk1, hk, rfl, rfl, rfl⟩ := hrel
    by_cases hlt : k < xs.length
    · have hck := HC.out k hlt
      have hb1 := HMB.out k hk
      have hb2 := HB.out k hlt
      have HE : Hid (mx xs (k + 1) = max (mx xs k) (xs.getD k 0)) := Lib.hid rfl
      generalize xs.getD k 0 = y at *
      generalize mx xs k = T at *
      by_cases hm : y ≤ T
      · have e : max T y = T := by omega
        rw [e] at HE
        go_wp2
        go_roundw
        case rel => exact ⟨k + 1, by omega, by omega, by go_num, by rw [HE.out] <;> go_num, by trivial⟩
        case measure => simp [intOf]; omega
      · have e : max T y = y := by omega
        rw [e] at HE
        go_wp2
        go_roundw
        case rel => exact ⟨k + 1, by omega, by omega, by go_num, by rw [HE.out] <;> go_num, by trivial⟩
        case measure => simp [intOf]; omega
    · have hk' : k = xs.length := by omega
      have HK : Hid (mx xs k = mx xs xs.length) := Lib.hid (by rw [hk'])
      clear hk'
      go_wp2
      go_ret
      exact ⟨ret_int HK.out, rfl⟩
end Go.Proofs.Ytkjebidkkopalaa
