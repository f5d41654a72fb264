/- Contracts of the model's grid of a region, and of RegionHas in the model. -/
import Derived.Test.YtbjgjjhfnaiocaaDoorHas
namespace Go.Proofs.YtbjgjjhfnaiocaaDoor
open Go.RowKit
set_option linter.unusedSimpArgs false
set_option linter.unusedVariables false
set_option maxRecDepth 20000

/-- Block g holds the bools gs. -/
def GB (w : World) (g : Nat) (gs : List Bool) : Prop := w.heap[g]? = some (.cells (gs.map Value.bool).toArray 4 (0, 0))
theorem GB.cell {w : World} {g : Nat} {gs : List Bool} (h : GB w g gs) {j : Nat} (hj : j < gs.length) : w.cell? ⟨g, j, none⟩ = some (.bool (gs.getD j false)) := by
  rw [cell_of_row w g j _ _ _ h]; simp [hj]
theorem GB.frozen {w : World} {g : Nat} {gs : List Bool} (h : GB w g gs) (j : Nat) : w.frozen? ⟨g, j, none⟩ = false := frozen_of_row w g j _ _ h
theorem GB.put {w : World} {g : Nat} {gs : List Bool} (h : GB w g gs) (j : Nat) (b : Bool) : GB (w.setCell ⟨g, j, none⟩ (.bool b)) g (gs.set j b) := by
  unfold GB
  rw [heap_setCell_same w g j _ _ _ h]
  congr 2
  apply Array.toList_inj.1
  simp [List.map_set]
/-- 256 cells with false. -/
def gz : Array Value := ((List.replicate 256 false).map Value.bool).toArray
theorem info_bool : (Tryd.prog.info? 4).map (fun i => (i.zero, i.size, i.bytes)) = some (some (.bool false), 1, 1) := by kernel_rfl
theorem make_grid (W : World) : (Instr.makeSlice 46 (.int .i64 256) (.int .i64 256)).run Tryd.prog W = .ok (.slice (some ⟨W.heap.size, 0, none⟩) 256 256) (W.alloc (.cells gz 4)) := by
  obtain ⟨i, hi, hz, hs, hb⟩ := info_parts info_bool
  have h := run_make (P := Tryd.prog) W 46 4 i _ Tryd.underlying46 hi hz .i64 .i64 256 256 (by omega) (Int.le_refl _) (by rw [hb]; omega) (by omega)
  rw [hs] at h
  rw [h]
  have e : madeCells (Value.bool false).cells (Int.toNat 256 * 1) = gz := by
    unfold gz
    apply Array.toList_inj.1
    rw [show (Value.bool false).cells = #[Value.bool false] from rfl, toList_madeCells_one]
    simp
  rw [e]
  rfl
/-- Which cells the first k runs have. -/
def gd (xs : List Int) : Nat → Nat → Bool
  | 0, _ => false
  | k + 1, j => gd xs k j || decide (gY xs k * 16 + gF xs k ≤ j ∧ (j : Int) < gY xs k * 16 + gT xs k)
/-- .. and run k up to column z. -/
def gdx (xs : List Int) (k : Nat) (z : Int) (j : Nat) : Bool := gd xs k j || decide (gY xs k * 16 + gF xs k ≤ j ∧ (j : Int) < gY xs k * 16 + z)
theorem gdx_start (xs : List Int) (k j : Nat) : gdx xs k (gF xs k) j = gd xs k j := by
  unfold gdx; rw [decide_eq_false (by omega), Bool.or_false]
theorem gdx_end (xs : List Int) (k j : Nat) : gdx xs k (gT xs k) j = gd xs (k + 1) j := rfl
theorem gd_has {xs : List Int} {x y : Nat} (hx : x ≤ 15) (hy : y ≤ 15) : ∀ {n : Nat}, reg xs n → gd xs n (y * 16 + x) = rh xs x y n
  | 0, _ => rfl
  | k + 1, h => by
    have ih := gd_has hx hy (n := k) (fun j hj => h j (by omega))
    obtain ⟨⟨a0, a1⟩, ⟨b0, b1⟩, c0, c1⟩ := bnds h (show k < k + 1 by omega)
    unfold gd rh
    rw [ih]
    congr 1
    unfold runB
    rw [← Bool.decide_and]
    congr 1
    apply propext
    push_cast
    constructor
    · rintro ⟨h1, h2⟩
      have : (y : Int) = gY xs k := by omega
      exact ⟨this, by omega, by omega⟩
    · rintro ⟨h1, h2, h3⟩
      omega
def GridIs (xs : List Int) (k : Nat) (z : Int) (w : World) (g : Nat) : Prop := ∃ gs, GB w g gs ∧ gs.length = 256 ∧ ∀ j, j < 256 → gs.getD j false = gdx xs k z j
theorem GridIs.step {xs : List Int} {k : Nat} {z : Int} {w : World} {g j0 : Nat} (h : GridIs xs k z w g) (hz : (j0 : Int) = gY xs k * 16 + z) (hF : gF xs k ≤ z) (hj : j0 < 256) : GridIs xs k (z + 1) (w.setCell ⟨g, j0, none⟩ (.bool true)) g := by
  obtain ⟨gs, hg, hl, hv⟩ := h
  refine ⟨gs.set j0 true, hg.put j0 true, by simpa using hl, fun j hj' => ?_⟩
  have ho := hv j hj'
  by_cases e : j = j0
  · subst e
    have : (gs.set j true).getD j false = true := by simp [List.getD_eq_getElem?_getD, hl, hj']
    rw [this]
    unfold gdx
    rw [decide_eq_true (by omega), Bool.or_true]
  · have : (gs.set j0 true).getD j false = gs.getD j false := by simp [List.getD_eq_getElem?_getD, List.getElem?_set, Ne.symm e]
    rw [this, ho]
    unfold gdx
    congr 1
    congr 1
    apply propext
    have : (j : Int) ≠ j0 := by omega
    omega
set_option maxHeartbeats 8000000 in
theorem s_gridOf (A : Option Addr) (n c : Nat) (xs : List Int) (w : World) (hx : xs.length = 3 * n) (h : Rds .i64 w w.heap.size A xs) (hl : n ≤ 2000000) (hr : reg xs n) :
    Calls Tryd.prog 46 #[.slice A n c] w fun e w' => e = .returned (.slice (some ⟨w.heap.size, 0, none⟩) 256 256) ∧ (∀ x y : Nat, x ≤ 15 → y ≤ 15 → w'.cell? ⟨w.heap.size, y * 16 + x, none⟩ = some (.bool (rh xs x y n))) ∧ Below w.heap.size w w' := by
  have hmk := make_grid
  have H0 : Hid (GridIs xs 0 (gF xs 0) (w.alloc (.cells gz 4)) w.heap.size) := Lib.hid ⟨List.replicate 256 false, heap_alloc_new w _, by simp, fun j hj => by
    rw [gdx_start]
    have e : (List.replicate 256 false).getD j false = false := by
      rw [List.getD_eq_getElem?_getD, List.getElem?_replicate]; split <;> rfl
    rw [e]; rfl⟩
  have HB0 := Lib.hid ((Below.refl w.heap.size w).alloc (Nat.le_refl _) (.cells gz 4))
  have Hh := Lib.hid h
  have HX := Lib.hid hx
  have HR := Lib.hid hr
  clear h hx hr
  go_enter Tryd.func46, Tryd.ntmps46
  go_wp2
  clear hmk
  generalize w.alloc (.cells gz 4) = u at *
  go_loopw [4] (fun i wr => ∃ k : Nat, k ≤ n ∧ i = .int .i64 k ∧ Hid (GridIs xs k (gF xs k) wr w.heap.size) ∧ Below w.heap.size w wr) (fun i _ => n - (intOf i).toNat)
  case atStart => exact ⟨0, Nat.zero_le _, rfl, H0, HB0.out⟩
  case round =>
    obtain ⟨k, hk, rfl, hG, hbel⟩ := hrel
    by_cases hlt : k < n
    · obtain ⟨t0, t1, t2⟩ := trio hlt HX.out
      obtain ⟨b, off, rfl, hb, hc⟩ := Hh.out.cells_ t0
      have d1 : wr.cell? ⟨b, off + k * 3 + 1, none⟩ = _ := (hbel.cell (p := ⟨b, off + k * 3 + 1, none⟩) hb).trans (hc _ t1)
      obtain ⟨⟨a0, a1⟩, ⟨b0, b1⟩, p0, p1⟩ := bnds HR.out hlt
      have Hy : Hid (gY xs k = xs.getD (k * 3) 0) := Lib.hid rfl
      have Hf : Hid (gF xs k = xs.getD (k * 3 + 1) 0) := Lib.hid rfl
      have Ht : Hid (gT xs k = xs.getD (k * 3 + 2) 0) := Lib.hid rfl
      have Hc0 := Lib.hid (hc _ t0)
      have Hc1 := Lib.hid (hc _ t1)
      have Hc2 := Lib.hid (hc _ t2)
      rw [Hy.out] at a0 a1
      rw [Hf.out] at b0 b1 p0
      rw [Ht.out] at p0 p1
      rw [Hf.out] at hG
      clear hc
      generalize xs.getD (k * 3) 0 = y at *
      generalize xs.getD (k * 3 + 1) 0 = f at *
      generalize xs.getD (k * 3 + 2) 0 = t at *
      go_wp2
      clear d1
      go_loopw [5] (fun z wr => ∃ q : Int, f ≤ q ∧ q ≤ t ∧ z = .int .i64 q ∧ Hid (GridIs xs k q wr w.heap.size) ∧ Below w.heap.size w wr) (fun z _ => (t - intOf z).toNat)
      case atStart => exact ⟨f, Int.le_refl _, by omega, rfl, hG, hbel⟩
      case round =>
        obtain ⟨q, hq0, hq1, rfl, hI, hbel⟩ := hrel
        have c0 : wr.cell? ⟨b, off + k * 3, none⟩ = some (.int .i64 y) := (hbel.cell (p := ⟨b, off + k * 3, none⟩) hb).trans Hc0.out
        have c2 : wr.cell? ⟨b, off + k * 3 + 2, none⟩ = some (.int .i64 t) := (hbel.cell (p := ⟨b, off + k * 3 + 2, none⟩) hb).trans Hc2.out
        by_cases hlt2 : q < t
        · obtain ⟨j0, hj0⟩ : ∃ j0 : Nat, (j0 : Int) = y * 16 + q := ⟨(y * 16 + q).toNat, by omega⟩
          have hj1 : j0 < 256 := by omega
          have HN := Lib.hid (hI.out.step (j0 := j0) (by rw [Hy.out]; exact hj0) (by rw [Hf.out]; exact hq0) hj1)
          obtain ⟨gs, hg, hgl, hgv⟩ := hI.out
          have cj := hg.cell (j := j0) (by omega)
          have fj := hg.frozen j0
          have HBn := Lib.hid (hbel.setCell (p := ⟨w.heap.size, j0, none⟩) (Nat.le_refl _) (.bool true))
          generalize gs.getD j0 false = bb at *
          have r1 : (y * 16 + q).toNat = j0 := by omega
          have r2 : 0 ≤ y * 16 + q := by omega
          have r3 : y * 16 + q < 256 := by omega
          clear hg hgv hI hbel hj0
          go_wp2
          go_roundw
          case rel => exact ⟨q + 1, by omega, by omega, by go_num, HN, HBn.out⟩
          case measure => simp [intOf]; omega
        · have hq : q = t := by omega
          have HN : Hid (GridIs xs (k + 1) (gF xs (k + 1)) wr w.heap.size) := Lib.hid (by
            obtain ⟨gs, hg, hgl, hgv⟩ := hI.out
            refine ⟨gs, hg, hgl, fun j hj => ?_⟩
            rw [hgv j hj, gdx_start, ← gdx_end, Ht.out, hq])
          clear hq hI
          go_wp2
          go_roundw
          case rel => exact ⟨k + 1, by omega, by go_num, HN, hbel⟩
          case measure => simp [intOf]; omega
    · have hk' : k = n := by omega
      have HE : Hid (∀ x y : Nat, x ≤ 15 → y ≤ 15 → wr.cell? ⟨w.heap.size, y * 16 + x, none⟩ = some (.bool (rh xs x y n))) := Lib.hid (fun x y hx hy => by
        obtain ⟨gs, hg, hgl, hgv⟩ := hG.out
        rw [hg.cell (by omega), hgv _ (by omega), gdx_start, hk', gd_has hx hy HR.out])
      clear hk' hG
      go_wp2
      go_ret
      exact ⟨rfl, HE.out, hbel⟩
end Go.Proofs.YtbjgjjhfnaiocaaDoor
