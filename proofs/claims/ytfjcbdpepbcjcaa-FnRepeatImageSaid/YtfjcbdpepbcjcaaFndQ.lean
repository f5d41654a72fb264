/- More of what FindImage and CountImage need. -/
import Derived.Test.YtfjcbdpepbcjcaaFndP
namespace Go.Proofs.Ytfjcbdpepbcjcaa
open Go.RowKit Go.Shelf
set_option linter.unusedSimpArgs false
set_option linter.unusedVariables false

theorem GS.fill1F {W0 w : World} {L : List Rg} {Bs : List Bxg} {g : Nat} {T : TypeId} {a0 : Value} (h : GS W0 w L (⟨g, T, #[a0]⟩ :: Bs)) (c0 : Value) : GS W0 (w.setCell ⟨g, 0, none⟩ c0) L (⟨g, T, #[c0]⟩ :: Bs) := by
  have hb := h.bx (List.Mem.head _)
  have h1 := heap_setCell_same w g 0 _ T c0 hb
  exact h.fill (by simpa [Bx] using h1) (grown_set w g 0 c0)
theorem GS.fill4X {W0 w : World} {L : List Rg} {Bs : List Bxg} {g : Nat} {T : TypeId} {o : Option Nat} {N PW PH : Nat} (h : GS W0 w L (⟨g, T, bX N PW PH o⟩ :: Bs)) (c0 c1 c2 c3 : Value) : GS W0 ((((w.setCell ⟨g, 0, none⟩ c0).setCell ⟨g, 1, none⟩ c1).setCell ⟨g, 2, none⟩ c2).setCell ⟨g, 3, none⟩ c3) L (⟨g, T, #[c0, c1, c2, c3]⟩ :: Bs) := by
  cases o with
  | none => exact GS.fill4 (a0 := .int .i64 0) (a1 := .int .i64 0) (a2 := .int .i64 0) (a3 := .int .i64 0) h c0 c1 c2 c3
  | some k => exact GS.fill4 (a0 := .int .i64 ((k % N : Nat) : Int)) (a1 := .int .i64 ((k / N : Nat) : Int)) (a2 := .int .i64 (PW : Int)) (a3 := .int .i64 (PH : Int)) h c0 c1 c2 c3
theorem sc4F {u : World} {a b o : Nat} (h : a ≠ b) (v0 v1 v2 v3 : Value) : ((((u.setCell ⟨b, 0, none⟩ v0).setCell ⟨b, 1, none⟩ v1).setCell ⟨b, 2, none⟩ v2).setCell ⟨b, 3, none⟩ v3).cell? ⟨a, o, none⟩ = u.cell? ⟨a, o, none⟩ := by
  rw [World.cell?_setCell_other _ ⟨b, 3, none⟩ ⟨a, o, none⟩ v3 (fun e => h (by injection e with e1; exact e1.symm)), sc3F h]
theorem bX_four (N PW PH : Nat) (o : Option Nat) : ∃ z0 z1 z2 z3, bX N PW PH o = #[z0, z1, z2, z3] := by
  cases o with
  | none => exact ⟨_, _, _, _, rfl⟩
  | some k => exact ⟨_, _, _, _, rfl⟩
theorem PB.put {bp bw bh fx dx fy dy X Y : Nat} {V V' : World} {q : Nat} (h : PB bp bw bh fx dx fy dy X Y V) (hG : V.grownBy V' (some q)) (h1 : q < bp ∨ V.heap.size ≤ q) (h2 : q < bw ∨ V.heap.size ≤ q) (h3 : q < bh ∨ V.heap.size ≤ q) : PB bp bw bh fx dx fy dy X Y V' :=
  h.kept fun b hb he => hG.block b hb (fun e => by injection e with e; rcases he with rfl | rfl | rfl <;> omega)
theorem PB.call {bp bw bh fx dx fy dy X Y : Nat} {V V' : World} (h : PB bp bw bh fx dx fy dy X Y V) (hB : Below V.heap.size V V') : PB bp bw bh fx dx fy dy X Y V' := h.kept fun b hb _ => hB.block b hb
end Go.Proofs.Ytfjcbdpepbcjcaa
