/- Contract of ShiftRegion in the program. -/
import Derived.Test.YtbjgjjhfnaiocaaDoorBitF
import Derived.Test.YtbjgjjhfnaiocaaDoorBitS
import Derived.Test.YtbjgjjhfnaiocaaDoorDsc
import Derived.Test.YtbjgjjhfnaiocaaDoorReg2
namespace Go.Proofs.YtbjgjjhfnaiocaaDoor
open Go.RowKit
set_option linter.unusedSimpArgs false
set_option linter.unusedVariables false
set_option maxRecDepth 100000

def sftOk (xs : List Int) (n : Nat) (x y : Int) : Bool := regB xs n && (decide (-16 ≤ x ∧ x ≤ 16) && decide (-16 ≤ y ∧ y ≤ 16))
/-- The pixels of a shifted region. -/
def sftG (xs : List Int) (n : Nat) (x y : Int) (a b : Nat) : Bool := rh xs ((a : Int) - x) ((b : Int) - y) n
theorem rh_in {xs : List Int} {n : Nat} (h : reg xs n) {x y : Int} : ∀ k, k ≤ n → rh xs x y k = true → (0 ≤ x ∧ x ≤ 15) ∧ 0 ≤ y ∧ y ≤ 15
  | 0, _, hr => by cases hr
  | k + 1, hk, hr => by
    unfold rh at hr
    rw [Bool.or_eq_true] at hr
    rcases hr with hr | hr
    · exact rh_in h k (by omega) hr
    · obtain ⟨⟨y0, y1⟩, ⟨f0, f1⟩, t0, t1⟩ := bnds h (show k < n by omega)
      unfold runB at hr
      simp only [Bool.and_eq_true, decide_eq_true_eq] at hr
      omega
theorem sft_grid {xs : List Int} {n : Nat} (h : reg xs n) {x y : Int} (hx : -16 ≤ x ∧ x ≤ 16) (hy : -16 ≤ y ∧ y ≤ 16) (a b : Nat) (ha : a < 16) (hb : b < 16) : bGr (shB (btR xs n) x y 16) a b = sftG xs n x y a b := by
  unfold bGr
  rw [bG_eq (shB_lt (btR_lt xs n) x y 16 b)]
  unfold shB
  rw [if_pos hb, shV_bit x _ a (bRow_lt (btR_lt xs n) _) ha hx]
  unfold sftG bRow
  by_cases h1 : 0 ≤ (a : Int) - x ∧ (a : Int) - x ≤ 15
  · rw [decide_eq_true h1, Bool.true_and]
    by_cases h2 : 0 ≤ (b : Int) - y ∧ (b : Int) - y ≤ 15
    · rw [if_pos h2, btR_bit h n (Nat.le_refl _) _ _ (by omega) (by omega), show (((a : Int) - x).toNat : Int) = (a : Int) - x by omega, show (((b : Int) - y).toNat : Int) = (b : Int) - y by omega]
    · rw [if_neg h2, Nat.zero_testBit]
      cases hr : rh xs ((a : Int) - x) ((b : Int) - y) n
      · rfl
      · exact absurd (rh_in h n (Nat.le_refl _) hr).2 h2
  · rw [decide_eq_false h1, Bool.false_and]
    cases hr : rh xs ((a : Int) - x) ((b : Int) - y) n
    · rfl
    · exact absurd (rh_in h n (Nat.le_refl _) hr).1 h1
set_option maxHeartbeats 4000000 in
theorem i_isNear (x y : Int) (w : World) : Calls Tryd.prog 41 #[.int .i64 x, .int .i64 y] w fun e w' => e = .returned (.bool (decide (-16 ≤ x ∧ x ≤ 16) && decide (-16 ≤ y ∧ y ≤ 16))) ∧ w' = w := by
  cases h1 : decide (-16 ≤ x ∧ x ≤ 16)
  · go_enter Tryd.func41, Tryd.ntmps41
    go_wp2_with fail
    refine (iIr_any x (-16) 16 _).mono ?_
    rintro e w1 ⟨rfl, rfl⟩
    rw [h1]
    go_wp2
    go_ret
    exact ⟨rfl, rfl⟩
  · go_enter Tryd.func41, Tryd.ntmps41
    go_wp2_with fail
    refine (iIr_any x (-16) 16 _).mono ?_
    rintro e w1 ⟨rfl, rfl⟩
    rw [h1]
    go_wp2_with fail
    refine (iIr_any y (-16) 16 _).mono ?_
    rintro e w1 ⟨rfl, rfl⟩
    go_wp2
    go_ret
    exact ⟨by simp, rfl⟩
set_option maxHeartbeats 8000000 in
theorem i_ShiftRegion (A : Option Addr) (n c : Nat) (xs : List Int) (x y : Int) (w : World) (hx : xs.length = 3 * n) (h : Rds .i64 w w.heap.size A xs) (hl : n ≤ 2000000) (hT : Tab w) :
    Calls Tryd.prog 20 #[.slice A n c, .int .i64 x, .int .i64 y] w (RunsIf (sftOk xs n x y) (sftG xs n x y) w) := by
  have HV := Lib.hid (i_ValidRegion A n c w.heap.size xs w hx h (Nat.le_refl _) hl)
  have HR := Lib.hid h
  have HX := Lib.hid hx
  have HT := Lib.hid hT
  clear h hx hT
  cases hr : regB xs n
  · have H : Hid (sftOk xs n x y = false) := Lib.hid (by unfold sftOk; rw [hr, Bool.false_and])
    go_enter Tryd.func20, Tryd.ntmps20
    go_wp2_with fail
    refine HV.out.mono ?_
    rintro e w1 ⟨rfl, hb1⟩
    rw [hr]
    go_wp2
    go_ret
    exact RunsIf.no H.out hb1
  · cases hn : (decide (-16 ≤ x ∧ x ≤ 16) && decide (-16 ≤ y ∧ y ≤ 16))
    · have H : Hid (sftOk xs n x y = false) := Lib.hid (by unfold sftOk; rw [hn, Bool.and_false])
      go_enter Tryd.func20, Tryd.ntmps20
      go_wp2_with fail
      refine HV.out.mono ?_
      rintro e w1 ⟨rfl, hb1⟩
      rw [hr]
      go_wp2_with fail
      refine (i_isNear x y w1).mono ?_
      rintro e w2 ⟨rfl, rfl⟩
      rw [hn]
      go_wp2
      go_ret
      exact RunsIf.no H.out hb1
    · have H : Hid (sftOk xs n x y = true) := Lib.hid (by unfold sftOk; rw [hr, hn]; rfl)
      have hxy := hn
      simp only [Bool.and_eq_true, decide_eq_true_eq] at hxy
      obtain ⟨hx, hy⟩ := hxy
      have HG := Lib.hid (regB_of hr)
      go_enter Tryd.func20, Tryd.ntmps20
      go_wp2_with fail
      refine HV.out.mono ?_
      rintro e w1 ⟨rfl, hb1⟩
      rw [hr]
      have HB1 := Lib.hid hb1
      clear hb1
      go_wp2_with fail
      refine (i_isNear x y w1).mono ?_
      rintro e w2 ⟨rfl, rfl⟩
      rw [hn]
      go_wp2_with fail
      refine (i_bitsOf A n c xs w2 HX.out ((HR.out.below HB1.out).more HB1.out.size) HG.out hl).mono ?_
      rintro e w3 ⟨rfl, hb3⟩
      have HB3 := Lib.hid (HB1.out.trans (hb3.mono HB1.out.size))
      clear hb3 HB1
      go_wp2_with fail
      refine (i_shifted (btR xs n) (btR_lt xs n) x y hx hy w3).mono ?_
      rintro e w4 ⟨rfl, hb4⟩
      have HB4 := Lib.hid (HB3.out.trans (hb4.mono HB3.out.size))
      clear hb4 HB3
      go_wp2_with fail
      refine (i_runs (shB (btR xs n) x y 16) (shB_lt (btR_lt xs n) x y 16) w4 (HT.out.below HB4.out)).mono ?_
      rintro e w5 hR
      have HE := Lib.hid (RunsIf.yes (w := w) (G := sftG xs n x y) H.out (fun a b ha hb => sft_grid HG.out hx hy a b ha hb) HB4.out hR)
      obtain ⟨v5, rfl, _, _⟩ := hR
      clear HB4
      go_wp2
      go_ret
      exact HE.out
end Go.Proofs.YtbjgjjhfnaiocaaDoor
