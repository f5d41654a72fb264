/- Boxes: blocks that hold just the cells of a struct; the state of rows beside them. -/
import Derived.Test.YtolifmgkkkclkaaExact
namespace Go.Proofs.Ytolifmgkkkclkaa
open Go.RowKit
set_option linter.unusedSimpArgs false
set_option linter.unusedVariables false

/-- Block g is a box of type t with just the cells cs. -/
def Bx (w : World) (g : Nat) (t : TypeId) (cs : Array Value) : Prop := w.heap[g]? = some (.cells cs t (0, 0))
/-- The cells of an image. -/
def imC (W H P : Int) (v : Value) : Array Value := #[.int .i64 W, .int .i64 H, .int .i64 P, v]
section
variable {w w' : World} {g : Nat} {t : TypeId} {cs : Array Value}
theorem Bx.lt (h : Bx w g t cs) : g < w.heap.size := by
  rcases Nat.lt_or_ge g w.heap.size with hlt | hge
  · exact hlt
  · unfold Bx at h; rw [Array.getElem?_eq_none hge] at h; cases h
theorem Bx.below (h : Bx w g t cs) (hb : Below w.heap.size w w') : Bx w' g t cs := (hb.block g h.lt).trans h
theorem Bx.drewN (h : Bx w g t cs) (n : Nat) : Bx (w.drewN n) g t cs := h
theorem Bx.alloc (h : Bx w g t cs) (o : Obj) : Bx (w.alloc o) g t cs := (Below.heap_alloc w o g h.lt).trans h
theorem Bx.new (w : World) (t : TypeId) (cs : Array Value) : Bx (w.alloc (.cells cs t)) w.heap.size t cs := heap_alloc_new w _
theorem Bx.mark (h : Bx w g t cs) (hne : t ≠ 3) {base : Nat} {v : Value} {xs : List Int} (hO : Own w base v xs) (hG : w.grownBy w' v.ownBlock) : Bx w' g t cs := by
  refine (hG.block g h.lt (fun e => ?_)).trans h
  rcases hO.2 with ⟨rfl, _⟩ | ⟨g', cap, cur, rfl, _, hh, _⟩
  · simp [Value.ownBlock] at e
  · have : g' = g := by simpa [Value.ownBlock] using e.symm
    subst this
    unfold Bx at h
    rw [hh] at h
    injection h with h
    injection h with _ ht
    exact hne ht.symm
theorem Bx.im {W H P : Int} {v : Value} (h : Bx w g t (imC W H P v)) : w.cell? ⟨g, 0, none⟩ = some (.int .i64 W) ∧ w.cell? ⟨g, 1, none⟩ = some (.int .i64 H) ∧ w.cell? ⟨g, 2, none⟩ = some (.int .i64 P) ∧ w.cell? ⟨g, 3, none⟩ = some v :=
  ⟨cell_of_row w g 0 _ _ _ h, cell_of_row w g 1 _ _ _ h, cell_of_row w g 2 _ _ _ h, cell_of_row w g 3 _ _ _ h⟩
end
theorem St.alloc {W0 w : World} {L : List Rw} (h : St W0 w L) (o : Obj) : St W0 (w.alloc o) L := h.call ((Below.refl _ _).alloc (Nat.le_refl _) _)
theorem St.drew {W0 w : World} {L : List Rw} (h : St W0 w L) : St W0 w.drew L := ⟨⟨h.1.os, h.1.tape, h.1.output, h.1.size, h.1.block⟩, h.2⟩
theorem St.markG {W0 w w' : World} {L1 L2 : List Rw} {t : Rw} (h : St W0 w (L1 ++ t :: L2)) {ys : List Int} (hO : Own w' t.lo t.v ys) (hg : w.grownBy w' t.v.ownBlock) : St W0 w' (L1 ++ ⟨t.lo, t.hi, t.v, ys⟩ :: L2) := by
  have hs := hg.size
  have ht := h.2.1 t (by simp)
  have hp := List.pairwise_append.1 h.2.2
  have hp2 := List.pairwise_cons.1 hp.2.1
  refine ⟨h.1.grown hg h.1.size (fun k hk => by have := (ht.1.1.lt k hk).1; have := ht.2.1; omega), ?_, ?_⟩
  · intro s hs'
    have hold : ∀ s ∈ L1 ++ t :: L2, (s.hi ≤ t.lo ∨ t.hi ≤ s.lo) → s.ok w' ∧ W0.heap.size ≤ s.lo ∧ s.hi ≤ w'.heap.size := by
      intro s hm hd
      have hs2 := h.2.1 s hm
      refine ⟨hs2.1.keep fun g h1 h2 => hg.block g (by omega) (fun e => ?_), hs2.2.1, by omega⟩
      have h3 := (ht.1.1.lt g e.symm).1
      have h4 := ht.1.2 g e.symm
      omega
    rcases List.mem_append.1 hs' with hm | hm
    · exact hold s (by simp [hm]) (.inr (hp.2.2 s hm t (by simp)))
    · rcases List.mem_cons.1 hm with rfl | hm
      · exact ⟨⟨hO, ht.1.2⟩, ht.2.1, by show t.hi ≤ _; have := ht.2.2; omega⟩
      · exact hold s (by simp [hm]) (.inl (hp2.1 s hm))
  · refine List.pairwise_append.2 ⟨hp.1, List.pairwise_cons.2 ⟨hp2.1, hp2.2⟩, fun a ha b hb => ?_⟩
    rcases List.mem_cons.1 hb with rfl | hb
    · exact hp.2.2 a ha t (by simp)
    · exact hp.2.2 a ha b (by simp [hb])
end Go.Proofs.Ytolifmgkkkclkaa
