/- Contracts of AreaOf, in the model and in the program. -/
import Derived.Test.YtbjgjjhfnaiocaaDoorReg2
import Derived.Test.YtbjgjjhfnaiocaaDoorReg3
namespace Go.Proofs.YtbjgjjhfnaiocaaDoor
open Go.RowKit
set_option linter.unusedSimpArgs false
set_option linter.unusedVariables false
set_option maxRecDepth 20000

def area (xs : List Int) : Nat → Int
  | 0 => 0
  | k + 1 => area xs k + (gT xs k - gF xs k)
theorem area_bd {xs : List Int} {n : Nat} (h : reg xs n) : ∀ k, k ≤ n → 0 ≤ area xs k ∧ area xs k ≤ 16 * k
  | 0, _ => by simp [area]
  | k + 1, hk => by
    have ih := area_bd h k (by omega)
    obtain ⟨_, hf, ht⟩ := vrunB_bd (regAt_parts (h k (by omega))).1
    unfold area
    omega
def areaV (xs : List Int) (n : Nat) : Int := if regB xs n = true then area xs n else -1
set_option maxHeartbeats 8000000 in
theorem i_AreaOf (A : Option Addr) (n c B : Nat) (xs : List Int) (w : World) (hx : xs.length = 3 * n) (h : Rds .i64 w B A xs) (hB : B ≤ w.heap.size) (hl : n ≤ 2000000) :
    Calls Tryd.prog 16 #[.slice A n c] w fun e w' => e = .returned (.int .i64 (areaV xs n)) ∧ Below w.heap.size w w' := by
  have HV := Lib.hid (i_ValidRegion A n c B xs w hx h hB hl)
  have Hh0 := Lib.hid h
  have HX := Lib.hid hx
  clear h hx
  cases hr : regB xs n
  · have HN : Hid (areaV xs n = -1) := Lib.hid (by unfold areaV; rw [hr]; rfl)
    go_enter Tryd.func16, Tryd.ntmps16
    go_wp2_with fail
    refine HV.out.mono ?_
    rintro e w1 ⟨rfl, hb1⟩
    rw [hr]
    go_wp2
    go_ret
    exact ⟨ret_int HN.out.symm, hb1⟩
  · have HN : Hid (areaV xs n = area xs n) := Lib.hid (by unfold areaV; rw [hr]; rfl)
    have HR := Lib.hid (regB_of hr)
    go_enter Tryd.func16, Tryd.ntmps16
    go_wp2_with fail
    refine HV.out.mono ?_
    rintro e w1 ⟨rfl, hb1⟩
    rw [hr]
    clear hr
    go_wp2
    go_loopw [11, 3] (fun i s wr => ∃ k : Nat, k ≤ n ∧ i = .int .i64 k ∧ s = .int .i64 (area xs k) ∧ Below w.heap.size w wr) (fun i _ _ => n - (intOf i).toNat)
    case atStart => exact ⟨0, Nat.zero_le _, rfl, rfl, hb1⟩
    case round =>
      obtain ⟨k, hk, rfl, rfl, hbel⟩ := hrel
      obtain ⟨ar0, ar1⟩ := area_bd HR.out k hk
      by_cases hlt : k < n
      · obtain ⟨t0, t1, t2⟩ := trio hlt HX.out
        obtain ⟨b, off, rfl, hb, hc⟩ := Hh0.out.cells_ t0
        have HS : Hid (area xs (k + 1) = area xs k + (gT xs k - gF xs k)) := Lib.hid rfl
        obtain ⟨_, hf2, ht2⟩ := vrunB_bd (regAt_parts (HR.out k hlt)).1
        have Hbel := Lib.hid hbel
        have hold : ∀ (o : Nat) (v : Option Value), w.cell? ⟨b, o, none⟩ = v → wr.cell? ⟨b, o, none⟩ = v := fun o v hv => (hbel.cell (p := ⟨b, o, none⟩) (by show b < _; omega)).trans hv
        have hc0 := hold _ _ (hc _ t0)
        have hc1 : wr.cell? ⟨b, off + k * 3 + 1, none⟩ = _ := hold _ _ (hc _ t1)
        have hc2 : wr.cell? ⟨b, off + k * 3 + 2, none⟩ = _ := hold _ _ (hc _ t2)
        have Hold := Lib.hid hold
        have Hc := Lib.hid hc
        have Hy : Hid (gY xs k = xs.getD (k * 3) 0) := Lib.hid rfl
        have Hf : Hid (gF xs k = xs.getD (k * 3 + 1) 0) := Lib.hid rfl
        have Ht : Hid (gT xs k = xs.getD (k * 3 + 2) 0) := Lib.hid rfl
        clear hc hold
        generalize xs.getD (k * 3) 0 = y at *
        generalize xs.getD (k * 3 + 1) 0 = f at *
        generalize xs.getD (k * 3 + 2) 0 = t at *
        have Hbu := Lib.hid (hbel.alloc hbel.size (.cells #[.int .i64 y, .int .i64 f, .int .i64 t] 35))
        have Hg : Hid ((wr.alloc (.cells #[.int .i64 y, .int .i64 f, .int .i64 t] 35)).heap[wr.heap.size]? = some (.cells #[.int .i64 y, .int .i64 f, .int .i64 t] 35 (0, 0))) := Lib.hid (heap_alloc_new wr _)
        have Hsz : Hid (b < w.heap.size ∧ w.heap.size ≤ wr.heap.size ∧ wr.heap.size < (wr.alloc (.cells #[.int .i64 y, .int .i64 f, .int .i64 t] 35)).heap.size) := Lib.hid ⟨by omega, hbel.size, by simp⟩
        have Hkeep : Hid (∀ (o : Nat) (v : Option Value), w.cell? ⟨b, o, none⟩ = v → (wr.alloc (.cells #[.int .i64 y, .int .i64 f, .int .i64 t] 35)).cell? ⟨b, o, none⟩ = v) := Lib.hid (fun o v hv => (Hbu.out.cell (p := ⟨b, o, none⟩) (by show b < _; omega)).trans hv)
        clear hbel Hold
        rw [Hf.out, Ht.out] at HS
        rw [Hf.out] at hf2 ht2
        rw [Ht.out] at ht2
        generalize area xs k = S at *
        clear hb1
        go_wp2
        go_roundw
        case rel => exact ⟨k + 1, by omega, by go_num, by rw [HS.out] <;> go_num, Hbu.out⟩
        case measure => simp [intOf]; omega
      · have hk' : k = n := by omega
        have HY : Hid (areaV xs n = area xs k) := Lib.hid (by rw [hk']; exact HN.out)
        clear hk'
        go_wp2
        go_ret
        exact ⟨ret_int HY.out.symm, hbel⟩
end Go.Proofs.YtbjgjjhfnaiocaaDoor
