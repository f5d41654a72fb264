/- The door: the table of math/bits as the program's own text lays it; TrailingZeros16. -/
import Derived.Test.YtbjgjjhfnaiocaaDoorRows
import Derived.LaidMore
import Derived.ProofKit
import Derived.OpenShut
import Derived.Stop.Joined
import Derived.Test.YtbjgjjhfnaiocaaDoorLists
namespace Go.Proofs.YtbjgjjhfnaiocaaDoor
open Go.ChangeShapes Go.WideShapes Go.ChangeAt Go.WideMaps Go.WideElems Go.RowKit
set_option linter.unusedSimpArgs false
set_option linter.unusedVariables false
set_option maxRecDepth 100000

abbrev laidTab : List (String × DataW Unit) := [("math/bits.deBruijn32tab", Rows.laid_math_bits_deBruijn32tab)]
abbrev doorSteps : Nat := 400
/-- The table's block. -/
abbrev tabG : Nat := 0
theorem gTab : Tryd.prog.globalNamed "math/bits.deBruijn32tab" = some tabG := by kernel_rfl
theorem tTab : (Tryd.prog.globals[tabG]?).map (·.type) = some 88 := by kernel_rfl
/-- The numbers of the table. -/
def deB : List Int := [0, 1, 28, 2, 29, 14, 24, 3, 30, 22, 20, 15, 25, 17, 4, 8, 31, 27, 13, 23, 21, 19, 16, 7, 26, 12, 18, 6, 11, 5, 10, 9]
/-- The table lies in the world. -/
def Tab (w : World) : Prop := tabG < w.heap.size ∧ ∀ j : Nat, j < 32 → w.cell? ⟨tabG, j, none⟩ = some (.int .u8 (deB.getD j 0))
theorem Tab.below {w w' : World} (h : Tab w) (hb : Below w.heap.size w w') : Tab w' :=
  ⟨Nat.lt_of_lt_of_le h.1 hb.size, fun j hj => (World.cell?_of_block (hb.block tabG h.1)).trans (h.2 j hj)⟩
theorem door_met (os : Os) (args : Array Value) : laidMetH Tryd.prog laidTab ((World.doorLaid Tryd.prog doorSteps os).forCall (fun _ _ => 0) ⟨#[], args, []⟩).memory :=
  laidMetH_of_parts3 (fuel := 8) (laidMet_of_run' 8 (by kernel_rfl) (by kernel_rfl)) (by kernel_rfl) (by kernel_rfl)
theorem tab_of {W : World} (h : laidMetH Tryd.prog laidTab W) : Tab W := by
  rw [MakeChecks.laidMetH_plain _ _ _ (by kernel_rfl)] at h
  obtain ⟨ps, ⟨g0, t0, cs0, f0, p0, q0, hg0, ht0, hv0, hd0, _, _⟩, _⟩ := h
  obtain rfl := Option.some.inj (gTab.symm.trans hg0)
  obtain rfl := Option.some.inj (tTab.symm.trans ht0)
  obtain ⟨xs, m1, rfl, hx1, hlen, hn3, hel⟩ := DataW.trod_array Tryd.underlying88 hd0
  have c1 : Tryd.prog.cellsOf 5 = 1 := by kernel_rfl
  have hmap : xs.map (·.1) = deB.map (fun n => (DataW.lit (.int .u8 n) : DataW Unit)) := by
    simp only [Prod.mk.injEq, Rows.laid_math_bits_deBruijn32tab, DataW.agg.injEq] at hx1
    exact hx1.1.symm
  have key : ∀ j : Nat, j < 32 → W.cell? ⟨tabG, j, none⟩ = some (.int .u8 (deB.getD j 0)) := fun j hj => by
    rw [World.var?_cell hg0 hv0 j]
    have h := hel j hj
    rw [c1, Nat.mul_one] at h
    obtain ⟨x, hx⟩ : ∃ x, xs[j]? = some x := ⟨xs[j]'(by omega), List.getElem?_eq_getElem (by omega)⟩
    rw [hx] at h
    obtain ⟨n, e1, e2, _⟩ := DataW.trod_int Tryd.underlying5 h
    have e3 : (xs.map (·.1))[j]? = some (DataW.lit (.int .u8 n)) := by rw [List.getElem?_map, hx, e2]; rfl
    rw [hmap, List.getElem?_map] at e3
    have hdl : j < deB.length := hj
    rw [List.getElem?_eq_getElem hdl] at e3
    have e4 : deB[j] = n := by simpa using e3
    have e5 : deB.getD j 0 = n := by rw [List.getD_eq_getElem?_getD, List.getElem?_eq_getElem hdl]; exact e4
    have e6 : ((cs0.toList.drop j).take 1)[0]? = some (.int .u8 n) := by rw [e1]; rfl
    rw [List.getElem?_take_of_lt (by omega), List.getElem?_drop, Nat.add_zero] at e6
    rw [e5, ← Array.getElem?_toList]
    exact e6
  refine ⟨?_, key⟩
  have h0 := key 0 (by omega)
  rcases Nat.lt_or_ge tabG W.heap.size with h | h
  · exact h
  · exfalso
    have : W.heap[tabG]? = none := by simpa using h
    simp [World.cell?, this] at h0
end Go.Proofs.YtbjgjjhfnaiocaaDoor
