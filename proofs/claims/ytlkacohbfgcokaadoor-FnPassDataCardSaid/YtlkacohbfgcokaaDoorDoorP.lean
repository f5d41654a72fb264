/- The door: the table of passes as the program's own text lays it. -/
import Derived.Test.YtlkacohbfgcokaaDoorRows
import Derived.LaidMore
import Derived.ProofKit
import Derived.OpenShut
import Derived.Stop.Joined
import Derived.ChangeSame
import Derived.Test.YtlkacohbfgcokaaDoorPassI
namespace Go.Proofs.YtlkacohbfgcokaaDoor
open Go.ChangeShapes Go.WideShapes Go.ChangeAt Go.WideMaps Go.WideElems Go.RowKit
set_option linter.unusedSimpArgs false
set_option linter.unusedVariables false
set_option maxRecDepth 100000

abbrev laidTab : List (String × DataW Unit) := [("loop.example/pixelworks/impl.patterns", Rows.laid_loop_example_pixelworks_impl_patterns)]
abbrev doorSteps : Nat := 400
abbrev tabG : Nat := 0
theorem gTab : Tryd.prog.globalNamed "loop.example/pixelworks/impl.patterns" = some tabG := by kernel_rfl
theorem tTab : (Tryd.prog.globals[tabG]?).map (·.type) = some 66 := by kernel_rfl
theorem door_met (os : Os) (args : Array Value) : laidMetH Tryd.prog laidTab ((World.doorLaid Tryd.prog doorSteps os).forCall (fun _ _ => 0) ⟨#[], args, []⟩).memory :=
  laidMetH_of_parts3 (fuel := 8) (laidMet_of_run' 8 (by kernel_rfl) (by kernel_rfl)) (by kernel_rfl) (by kernel_rfl)
def patD (p : Nat) : DataW Unit := .agg [.agg [.lit (.int .i64 (psx p)), .lit (.int .i64 (pdx p))], .agg [.lit (.int .i64 (psy p)), .lit (.int .i64 (pdy p))]]
theorem laid_pat : (Rows.laid_loop_example_pixelworks_impl_patterns : DataW Unit) = .agg ((List.range 7).map patD) := rfl
section
variable {enc : TypeId × Value → Unit} {w : World} {base : Nat} {spare : Nat → Bool} {held : Bool}
/-- An axis of two numbers. -/
theorem ax_of {cs : List Value} {a b : Int} {x : DataW Unit × List MemPlace} {n : Nat} (h : DataW.trod enc Tryd.prog w base spare held n 63 cs = some x) (hx1 : x.1 = .agg [.lit (.int .i64 a), .lit (.int .i64 b)]) :
    cs[0]? = some (.int .i64 a) ∧ cs[1]? = some (.int .i64 b) := by
  have c1 : Tryd.prog.cellsOf 3 = 1 := by kernel_rfl
  obtain ⟨y0, y1, m, hx, hl, h0, h1⟩ := trod_struct2 Tryd.underlying63 h
  obtain ⟨z0, e0, d0, _⟩ := DataW.trod_int Tryd.underlying3 h0
  obtain ⟨z1, e1, d1, _⟩ := DataW.trod_int Tryd.underlying3 h1
  subst hx d0 d1
  simp only [DataW.agg.injEq, List.cons.injEq, DataW.lit.injEq, Lit.int.injEq, true_and, and_true] at hx1
  obtain ⟨rfl, rfl⟩ := hx1
  rw [c1] at e0 e1
  have f0 : ((cs.drop 0).take 1)[0]? = some (.int .i64 z0) := by rw [show (cs.drop 0).take 1 = _ from e0]; rfl
  have f1 : ((cs.drop 1).take 1)[0]? = some (.int .i64 z1) := by rw [show (cs.drop 1).take 1 = _ from e1]; rfl
  rw [List.getElem?_take_of_lt (by omega), List.getElem?_drop] at f0 f1
  exact ⟨f0, f1⟩
/-- A pattern of two axes. -/
theorem pat_of {cs : List Value} {p : Nat} {x : DataW Unit × List MemPlace} {n : Nat} (h : DataW.trod enc Tryd.prog w base spare held n 65 cs = some x) (hx1 : x.1 = patD p) :
    cs[0]? = some (.int .i64 (psx p)) ∧ cs[1]? = some (.int .i64 (pdx p)) ∧ cs[2]? = some (.int .i64 (psy p)) ∧ cs[3]? = some (.int .i64 (pdy p)) := by
  have c2 : Tryd.prog.cellsOf 63 = 2 := by kernel_rfl
  obtain ⟨y0, y1, m, hx, hl, h0, h1⟩ := trod_struct2 Tryd.underlying65 h
  subst hx
  simp only [patD, DataW.agg.injEq, List.cons.injEq, and_true] at hx1
  obtain ⟨a0, a1⟩ := ax_of h0 hx1.1
  obtain ⟨b0, b1⟩ := ax_of h1 hx1.2
  rw [c2] at a0 a1 b0 b1
  rw [List.getElem?_take_of_lt (by omega), List.getElem?_drop] at a0 a1 b0 b1
  exact ⟨a0, a1, b0, b1⟩
end
theorem tab_of {W : World} (h : laidMetH Tryd.prog laidTab W) : Pats W := by
  rw [MakeChecks.laidMetH_plain _ _ _ (by kernel_rfl)] at h
  obtain ⟨ps, ⟨g0, t0, cs0, f0, p0, q0, hg0, ht0, hv0, hd0, _, _⟩, _⟩ := h
  obtain rfl := Option.some.inj (gTab.symm.trans hg0)
  obtain rfl := Option.some.inj (tTab.symm.trans ht0)
  obtain ⟨xs, m1, rfl, hx1, hlen, hn3, hel⟩ := DataW.trod_array Tryd.underlying66 hd0
  have c4 : Tryd.prog.cellsOf 65 = 4 := by kernel_rfl
  have hmap : xs.map (·.1) = (List.range 7).map patD := by
    have h0 := congrArg Prod.fst hx1
    rw [laid_pat] at h0
    simp only [DataW.agg.injEq] at h0
    exact h0.symm
  intro p hp
  have hh := hel p (by omega)
  rw [c4] at hh
  obtain ⟨x, hx⟩ : ∃ x, xs[p]? = some x := ⟨xs[p]'(by omega), List.getElem?_eq_getElem (by omega)⟩
  rw [hx] at hh
  have e3 : (xs.map (·.1))[p]? = some x.1 := by rw [List.getElem?_map, hx]; rfl
  rw [hmap, List.getElem?_map, List.getElem?_range (by omega)] at e3
  obtain ⟨a0, a1, a2, a3⟩ := pat_of hh (Option.some.inj e3).symm
  rw [List.getElem?_take_of_lt (by omega), List.getElem?_drop, Nat.mul_comm p 4] at a0 a1 a2 a3
  refine ⟨?_, ?_, ?_, ?_⟩
  · rw [World.var?_cell hg0 hv0 (4 * p), ← Array.getElem?_toList]; exact a0
  · rw [World.var?_cell hg0 hv0 (4 * p + 1), ← Array.getElem?_toList]; exact a1
  · rw [World.var?_cell hg0 hv0 (4 * p + 2), ← Array.getElem?_toList]; exact a2
  · rw [World.var?_cell hg0 hv0 (4 * p + 3), ← Array.getElem?_toList]; exact a3
theorem Pats.below {w w' : World} (h : Pats w) (hl : 0 < w.heap.size) (hb : Below w.heap.size w w') : Pats w' := fun p hp => by
  obtain ⟨h0, h1, h2, h3⟩ := h p hp
  have hk := hb.block _ hl
  exact ⟨(World.cell?_of_block hk).trans h0, (World.cell?_of_block hk).trans h1, (World.cell?_of_block hk).trans h2, (World.cell?_of_block hk).trans h3⟩
theorem Pats.lt {w : World} (h : Pats w) : 0 < w.heap.size := by
  rcases Nat.lt_or_ge 0 w.heap.size with h' | h'
  · exact h'
  · exfalso
    have e0 : w.heap[0]? = none := by simpa using h'
    have h0 := (h 0 (by omega)).1
    simp [World.cell?, e0] at h0
/-- The table's facts, as a property of worlds. -/
abbrev Tab (w : World) : Prop := Pats w
end Go.Proofs.YtlkacohbfgcokaaDoor
