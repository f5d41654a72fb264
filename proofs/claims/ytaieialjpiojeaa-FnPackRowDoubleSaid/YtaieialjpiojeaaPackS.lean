/- Contracts of PackRow in the model. -/
import Derived.Test.YtaieialjpiojeaaProg
import Derived.WalkKit
import Derived.RegionTactic
import Derived.ChangeAlike
import Derived.BigRegion
import Derived.StillTailTactics
import Derived.Deep.QuietTactic
import Derived.BigQuiet
import Derived.Deep.Light
import Derived.Test.YtaieialjpiojeaaPackM
import Derived.Test.YtaieialjpiojeaaDepthA
import Derived.Test.YtaieialjpiojeaaLists
namespace Go.Proofs.Ytaieialjpiojeaa
open Go.RowKit
set_option linter.unusedSimpArgs false
set_option linter.unusedVariables false

theorem mul_bd (k d : Nat) (hk : k ≤ 64) (hd : d ≤ 8) : k * d ≤ 512 := Nat.le_trans (Nat.mul_le_mul hk hd) (by decide)
theorem mul_bdI (k d : Nat) (hk : k ≤ 64) (hd : d ≤ 8) : (k : Int) * (d : Int) ≤ 512 := by
  have h := mul_bd k d hk hd
  have e : ((k * d : Nat) : Int) = (k : Int) * (d : Int) := Int.natCast_mul k d
  omega
theorem pk_make (n d : Nat) (hn : n ≤ 64) (hd : d ≤ 8) (W : World) : (Instr.makeSlice 22 (.int .i64 (((n : Int) * (d : Int) + 7) / 8)) (.int .i64 (((n : Int) * (d : Int) + 7) / 8))).run Try.prog W = .ok (.slice (some ⟨W.heap.size, 0, none⟩) (sz d n) (sz d n)) (W.alloc (.cells (row (zeros (sz d n))) 3)) := by
  have h := make_ints (sz d n) (by have := mul_bd n d hn hd; unfold sz; omega) W
  have e : ((sz d n : Nat) : Int) = ((n : Int) * (d : Int) + 7) / 8 := by unfold sz; push_cast; rfl
  rw [e] at h
  exact h

set_option maxHeartbeats 4000000 in
theorem s_packRow (A : Option Addr) (c : Nat) (xs : List Int) (d : Nat) (w : World) (h : Rds .i64 w w.heap.size A xs) (hl : xs.length ≤ 64) (hd : Dep d) (hf : Fits d xs) :
    Calls Try.prog 65 #[.slice A xs.length c, .int .i64 d] w (Made (pk d xs) w) := by
  have hdd := dep_le hd
  have hmk := fun W => pk_make xs.length d hl hdd.2 W
  have H0 := Lib.hid (Blk.new w (zeros (sz d xs.length)))
  have Hh := Lib.hid h
  have Hd := Lib.hid hd
  have Hf := Lib.hid hf
  have hm0 : 0 ≤ (xs.length : Int) * (d : Int) := Int.mul_nonneg (by omega) (by omega)
  have hm1 : (xs.length : Int) * (d : Int) ≤ 512 := mul_bdI _ _ hl hdd.2
  have hszb : sz d xs.length ≤ 64 := by have := mul_bd xs.length d hl hdd.2; unfold sz; omega
  clear h hd hf
  go_enter Try.func65, Try.ntmps65
  go_wp2
  go_loopw [6] (fun i wr => ∃ k : Nat, k ≤ xs.length ∧ i = .int .i64 k ∧ Blk wr w.heap.size (spTo d xs k) ∧ Below w.heap.size w wr) (fun i _ => xs.length - (intOf i).toNat)
  case atStart => exact ⟨0, Nat.zero_le _, rfl, by rw [spTo_zero]; exact H0.out, (Below.refl _ _).alloc (Nat.le_refl _) _⟩
  case round =>
    obtain ⟨k, hk, rfl, hB, hbel⟩ := hrel
    clear hmk
    by_cases hlt : k < xs.length
    · obtain ⟨b, off, rfl, hb, hc⟩ := Hh.out.cells_ hlt
      have hck := (hbel.cell (p := ⟨b, off + k, none⟩) hb).trans (hc k hlt)
      have hidx : k * d / 8 < sz d xs.length := by
        have := Nat.mul_le_mul_right d hlt
        rw [Nat.succ_mul] at this
        unfold sz; omega
      have hcw := hB.cell (i := k * d / 8) (by rw [spTo_len]; exact hidx)
      rw [spTo_get d xs k _ hidx] at hcw
      have hfw := hB.frozen (k * d / 8)
      have hput := hB.put (k * d / 8) (bt d xs k (k * d / 8) + xs.getD k 0 * 2 ^ sh d k)
      rw [spTo_set Hd.out xs k hlt] at hput
      have HN := Lib.hid hput
      have HBel := Lib.hid (hbel.setCell (p := ⟨w.heap.size, k * d / 8, none⟩) (Nat.le_refl _) (.int .i64 (bt d xs k (k * d / 8) + xs.getD k 0 * 2 ^ sh d k)))
      have hrng := bt_range Hd.out Hf.out k
      have hxr := sh_small Hd.out Hf.out k
      have hroom : (d : Int) + ((k : Int) * (d : Int)) % 8 ≤ 8 := by have := dep_room Hd.out k; exact_mod_cast this
      have hk0 : 0 ≤ (k : Int) * (d : Int) := Int.mul_nonneg (by omega) (by omega)
      have hk1 : (k : Int) * (d : Int) ≤ 512 := mul_bdI _ _ (by omega) hdd.2
      have hidx' : (k : Int) * (d : Int) / 8 < (sz d xs.length : Int) := by exact_mod_cast hidx
      have hx0 := hxr.1
      simp only [sh] at hrng hx0
      simp only [sh] at HN HBel
      clear hc hB hbel hput hxr
      generalize xs.getD k 0 = x at *
      generalize bt d xs k (k * d / 8) = y at *
      go_wp2
      go_region
      go_wp2
      go_roundw
      case rel => exact ⟨k + 1, by omega, by go_num, HN.out, HBel.out.drew⟩
      case measure => simp [intOf]; omega
    · have hk' : k = xs.length := by omega
      have HO := Lib.hid (hB.own (Nat.le_refl _) (by rw [spTo_len]; unfold maxLen; omega))
      rw [spTo_len] at HO
      go_wp2
      go_ret
      subst hk'
      exact ⟨_, rfl, HO.out, hbel⟩

theorem fits_of_allB {d : Nat} {xs : List Int} (h : allB 0 (2 ^ d - 1) xs = true) : Fits d xs := by
  intro x hx
  have := of_decide_eq_true h x hx
  omega
theorem allB_of_fits {d : Nat} {xs : List Int} (h : Fits d xs) : allB 0 (2 ^ d - 1) xs = true := by
  apply decide_eq_true
  intro x hx
  have := h x hx
  omega
/-- What PackRow answers. -/
def pack (xs : List Int) (d : Int) : List Int := if vd d = true ∧ xs.length ≤ 64 ∧ allB 0 (2 ^ d.toNat - 1) xs = true then pk d.toNat xs else []
theorem own_nil (w : World) (base : Nat) : Own w base (.slice none 0 0) [] := World.ownsRow_nil _ _ _ _
theorem vd_nat {d : Int} (h : vd d = true) : ∃ D : Nat, d = D ∧ Dep D := by
  have h' : d = 1 ∨ d = 2 ∨ d = 4 ∨ d = 8 := of_decide_eq_true h
  rcases h' with rfl | rfl | rfl | rfl
  · exact ⟨1, rfl, .inl rfl⟩
  · exact ⟨2, rfl, .inr (.inl rfl)⟩
  · exact ⟨4, rfl, .inr (.inr (.inl rfl))⟩
  · exact ⟨8, rfl, .inr (.inr (.inr rfl))⟩
theorem dep_pow {D : Nat} (h : Dep D) : (2 : Int) ≤ 2 ^ D ∧ (2 : Int) ^ D ≤ 256 := by rcases h with rfl | rfl | rfl | rfl <;> decide
set_option maxHeartbeats 1000000 in
theorem sValidDepth_any (d : Int) (w : World) : Calls Try.prog 63 #[.int .i64 d] w fun e w' => e = .returned (.bool (vd d)) ∧ w = w' := by
  rcases vd_cases d with h | h
  · rcases h with rfl | rfl | rfl | rfl
    all_goals
      go_enter Try.func63, Try.ntmps63
      go_wp2
      go_ret
      exact ⟨ret_bool (by decide), rfl⟩
  · have H := Lib.hid h
    have h1 : (d == 1) = false := by simp [vd] at h ⊢; omega
    have h2 : (d == 2) = false := by simp [vd] at h ⊢; omega
    have h4 : (d == 4) = false := by simp [vd] at h ⊢; omega
    have h8 : (d == 8) = false := by simp [vd] at h ⊢; omega
    clear h
    go_enter Try.func63, Try.ntmps63
    go_wp2
    go_ret
    exact ⟨ret_bool H.out.symm, rfl⟩
set_option maxHeartbeats 1000000 in
theorem iValidDepth_any (d : Int) (w : World) : Calls Try.prog 59 #[.int .i64 d] w fun e w' => e = .returned (.bool (vd d)) ∧ w = w' := by
  rcases vd_cases d with h | h
  · rcases h with rfl | rfl | rfl | rfl
    all_goals
      go_enter Try.func59, Try.ntmps59
      go_wp2
      go_ret
      exact ⟨ret_bool (by decide), rfl⟩
  · have H := Lib.hid h
    have h1 : (d == 1) = false := by simp [vd] at h ⊢; omega
    have h2 : (d == 2) = false := by simp [vd] at h ⊢; omega
    have h4 : (d == 4) = false := by simp [vd] at h ⊢; omega
    have h8 : (d == 8) = false := by simp [vd] at h ⊢; omega
    clear h
    go_enter Try.func59, Try.ntmps59
    go_wp2
    go_ret
    exact ⟨ret_bool H.out.symm, rfl⟩
set_option maxHeartbeats 4000000 in
theorem s_PackRow (A : Option Addr) (c : Nat) (xs : List Int) (d : Int) (w : World) (h : Rds .i64 w w.heap.size A xs) (hl : xs.length ≤ 10000000) :
    Calls Try.prog 34 #[.slice A xs.length c, .int .i64 d] w (Made (pack xs d) w) := by
  have Hh := Lib.hid h
  clear h
  by_cases hv : vd d = true
  · obtain ⟨D, rfl, hD⟩ := vd_nat hv
    have hp := dep_pow hD
    have HD := Lib.hid hD
    have hd8 := dep_le hD
    clear hD
    by_cases h64 : xs.length ≤ 64
    · by_cases ha : allB 0 (2 ^ D - 1) xs = true
      · have HP : Hid (pack xs D = pk D xs) := Lib.hid (if_pos ⟨hv, h64, ha⟩)
        have Hf := Lib.hid (fits_of_allB ha)
        go_enter Try.func34, Try.ntmps34
        go_wp2_with fail
        refine (sValidDepth_any D w).mono ?_
        rintro e w' ⟨rfl, rfl⟩
        go_wp2_with fail
        refine (sAllIn_any A c _ xs _ _ w Hh.out hl).mono ?_
        rintro e w' ⟨rfl, rfl⟩
        go_wp2_with fail
        refine (s_packRow A c xs D w Hh.out h64 HD.out Hf.out).mono ?_
        rintro e w' ⟨v, rfl, hO, hB⟩
        go_wp2
        go_ret
        exact ⟨v, rfl, by rw [HP.out]; exact hO, hB⟩
      · have ha' : allB 0 (2 ^ D - 1) xs = false := by simpa using ha
        have HP : Hid (pack xs D = []) := Lib.hid (if_neg (fun h => ha h.2.2))
        clear ha
        go_enter Try.func34, Try.ntmps34
        go_wp2_with fail
        refine (sValidDepth_any D w).mono ?_
        rintro e w' ⟨rfl, rfl⟩
        go_wp2_with fail
        refine (sAllIn_any A c _ xs _ _ w Hh.out hl).mono ?_
        rintro e w' ⟨rfl, rfl⟩
        go_wp2
        go_ret
        exact ⟨_, rfl, by rw [HP.out]; exact own_nil _ _, Below.refl _ _⟩
    · have HP : Hid (pack xs D = []) := Lib.hid (if_neg (fun h => h64 h.2.1))
      go_enter Try.func34, Try.ntmps34
      go_wp2_with fail
      refine (sValidDepth_any D w).mono ?_
      rintro e w' ⟨rfl, rfl⟩
      go_wp2
      go_ret
      exact ⟨_, rfl, by rw [HP.out]; exact own_nil _ _, Below.refl _ _⟩
  · have HP : Hid (pack xs d = []) := Lib.hid (if_neg (fun h => hv h.1))
    have hv' : vd d = false := by simpa using hv
    clear hv
    go_enter Try.func34, Try.ntmps34
    go_wp2_with fail
    refine (sValidDepth_any d w).mono ?_
    rintro e w' ⟨rfl, rfl⟩
    go_wp2
    go_ret
    exact ⟨_, rfl, by rw [HP.out]; exact own_nil _ _, Below.refl _ _⟩
end Go.Proofs.Ytaieialjpiojeaa
