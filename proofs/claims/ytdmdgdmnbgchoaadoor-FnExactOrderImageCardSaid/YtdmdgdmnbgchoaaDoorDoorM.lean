/- The door: the ordered matrix as the program's own text lays it. -/
import Derived.Test.YtdmdgdmnbgchoaaDoorRows
import Derived.LaidMore
import Derived.ProofKit
import Derived.OpenShut
import Derived.Stop.Joined
import Derived.ChangeSame
import Derived.Test.YtdmdgdmnbgchoaaDoorOrdM
namespace Go.Proofs.YtdmdgdmnbgchoaaDoor
open Go.ChangeShapes Go.WideShapes Go.ChangeAt Go.WideMaps Go.WideElems Go.RowKit
set_option linter.unusedSimpArgs false
set_option linter.unusedVariables false
set_option maxRecDepth 100000

abbrev laidTab : List (String × DataW Unit) := [("loop.example/pixelworks/impl.matrix", Rows.laid_loop_example_pixelworks_impl_matrix)]
abbrev doorSteps : Nat := 400
abbrev tabG : Nat := 0
theorem gTab : Tryd.prog.globalNamed "loop.example/pixelworks/impl.matrix" = some tabG := by kernel_rfl
theorem tTab : (Tryd.prog.globals[tabG]?).map (·.type) = some 45 := by kernel_rfl
theorem door_met (os : Os) (args : Array Value) : laidMetH Tryd.prog laidTab ((World.doorLaid Tryd.prog doorSteps os).forCall (fun _ _ => 0) ⟨#[], args, []⟩).memory :=
  laidMetH_of_parts3 (fuel := 8) (laidMet_of_run' 8 (by kernel_rfl) (by kernel_rfl)) (by kernel_rfl) (by kernel_rfl)
/-- The table lies in the world. -/
def Tab (w : World) : Prop := tabG < w.heap.size ∧ ∀ y x : Nat, y < 4 → x < 4 → w.cell? ⟨tabG, y * 4 + x, none⟩ = some (.int .i64 (bay x y))
theorem Tab.below {w w' : World} (h : Tab w) (hb : Below w.heap.size w w') : Tab w' :=
  ⟨Nat.lt_of_lt_of_le h.1 hb.size, fun y x hy hx => (World.cell?_of_block (hb.block tabG h.1)).trans (h.2 y x hy hx)⟩
def rowD (y : Nat) : DataW Unit := .agg ((List.range 4).map fun x => .lit (.int .i64 (bay x y)))
theorem laid_mat : (Rows.laid_loop_example_pixelworks_impl_matrix : DataW Unit) = .agg ((List.range 4).map rowD) := by kernel_rfl
section
variable {enc : TypeId × Value → Unit} {w : World} {base : Nat} {spare : Nat → Bool} {held : Bool}
theorem row_of {cs : List Value} {y : Nat} {x : DataW Unit × List MemPlace} {n : Nat} (h : DataW.trod enc Tryd.prog w base spare held n 44 cs = some x) (hx1 : x.1 = rowD y) :
    ∀ j, j < 4 → cs[j]? = some (.int .i64 (bay j y)) := by
  obtain ⟨xs, m1, rfl, hx2, hlen, hn3, hel⟩ := DataW.trod_array Tryd.underlying44 h
  have c1 : Tryd.prog.cellsOf 3 = 1 := by kernel_rfl
  have hmap : xs.map (·.1) = (List.range 4).map fun x => (DataW.lit (.int .i64 (bay x y)) : DataW Unit) := by
    have h0 := congrArg Prod.fst hx2
    rw [hx1] at h0
    simp only [rowD, DataW.agg.injEq] at h0
    exact h0.symm
  intro j hj
  have hh := hel j hj
  rw [c1, Nat.mul_one] at hh
  obtain ⟨x, hx⟩ : ∃ x, xs[j]? = some x := ⟨xs[j]'(by omega), List.getElem?_eq_getElem (by omega)⟩
  rw [hx] at hh
  obtain ⟨n, e1, e2, _⟩ := DataW.trod_int Tryd.underlying3 hh
  have e3 : (xs.map (·.1))[j]? = some (DataW.lit (.int .i64 n)) := by rw [List.getElem?_map, hx, e2]; rfl
  rw [hmap, List.getElem?_map, List.getElem?_range hj] at e3
  have e4 : bay j y = n := by simpa using e3
  have e6 : ((cs.drop j).take 1)[0]? = some (.int .i64 n) := by rw [e1]; rfl
  rw [List.getElem?_take_of_lt (by omega), List.getElem?_drop, Nat.add_zero] at e6
  rw [e4]
  exact e6
end
theorem tab_of {W : World} (h : laidMetH Tryd.prog laidTab W) : Tab W := by
  rw [MakeChecks.laidMetH_plain _ _ _ (by kernel_rfl)] at h
  obtain ⟨ps, ⟨g0, t0, cs0, f0, p0, q0, hg0, ht0, hv0, hd0, _, _⟩, _⟩ := h
  obtain rfl := Option.some.inj (gTab.symm.trans hg0)
  obtain rfl := Option.some.inj (tTab.symm.trans ht0)
  obtain ⟨xs, m1, rfl, hx1, hlen, hn3, hel⟩ := DataW.trod_array Tryd.underlying45 hd0
  have c4 : Tryd.prog.cellsOf 44 = 4 := by kernel_rfl
  have hmap : xs.map (·.1) = (List.range 4).map rowD := by
    have h0 := congrArg Prod.fst hx1
    rw [laid_mat] at h0
    simp only [DataW.agg.injEq] at h0
    exact h0.symm
  have key : ∀ y x : Nat, y < 4 → x < 4 → W.cell? ⟨tabG, y * 4 + x, none⟩ = some (.int .i64 (bay x y)) := fun y x hy hx => by
    have hh := hel y hy
    rw [c4] at hh
    obtain ⟨z, hz⟩ : ∃ z, xs[y]? = some z := ⟨xs[y]'(by omega), List.getElem?_eq_getElem (by omega)⟩
    rw [hz] at hh
    have e3 : (xs.map (·.1))[y]? = some z.1 := by rw [List.getElem?_map, hz]; rfl
    rw [hmap, List.getElem?_map, List.getElem?_range hy] at e3
    have a := row_of hh (Option.some.inj e3).symm x hx
    rw [List.getElem?_take_of_lt (by omega), List.getElem?_drop] at a
    rw [World.var?_cell hg0 hv0 (y * 4 + x), ← Array.getElem?_toList]
    exact a
  refine ⟨?_, key⟩
  have h0 := key 0 0 (by omega) (by omega)
  rcases Nat.lt_or_ge tabG W.heap.size with h | h
  · exact h
  · exfalso
    have : W.heap[tabG]? = none := by simpa using h
    simp [World.cell?, this] at h0
end Go.Proofs.YtdmdgdmnbgchoaaDoor
