/- A box that is made before the calls that fill it, in the state of an exact law; contract of toBox. -/
import Derived.Test.YtolifmgkkkclkaaImgS
import Derived.Test.YtolifmgkkkclkaaGenP
import Derived.Test.YtolifmgkkkclkaaGridC
import Derived.Deep.RegionHeld3
namespace Go.Proofs.Ytolifmgkkkclkaa
open Go.RowKit
set_option linter.unusedSimpArgs false
set_option linter.unusedVariables false

theorem bx4K {u : World} {b : Nat} {T : TypeId} {c0 c1 c2 c3 : Value} (h : Bx u b T #[c0, c1, c2, c3]) : u.cell? ⟨b, 0, none⟩ = some c0 ∧ u.cell? ⟨b, 1, none⟩ = some c1 ∧ u.cell? ⟨b, 2, none⟩ = some c2 ∧ u.cell? ⟨b, 3, none⟩ = some c3 :=
  ⟨cell_of_row u b 0 _ _ _ h, cell_of_row u b 1 _ _ _ h, cell_of_row u b 2 _ _ _ h, cell_of_row u b 3 _ _ _ h⟩
theorem bx_put4' {w : World} {b : Nat} {T : TypeId} {a0 a1 a2 a3 : Value} (h : Bx w b T #[a0, a1, a2, a3]) (c0 c1 c2 c3 : Value) : Bx ((((w.setCell ⟨b, 0, none⟩ c0).setCell ⟨b, 1, none⟩ c1).setCell ⟨b, 2, none⟩ c2).setCell ⟨b, 3, none⟩ c3) b T #[c0, c1, c2, c3] := by
  have h1 := heap_setCell_same w b 0 _ T c0 h
  have h2 := heap_setCell_same _ b 1 _ T c1 h1
  have h3 := heap_setCell_same _ b 2 _ T c2 h2
  have h4 := heap_setCell_same _ b 3 _ T c3 h3
  simpa [Bx] using h4
theorem own_ne_box' {w : World} {g : Nat} {T : TypeId} {cs : Array Value} {base : Nat} {v : Value} {xs : List Int} (h : Bx w g T cs) (hne : T ≠ 3) (hO : Own w base v xs) : v.ownBlock ≠ some g := by
  intro e
  rcases hO.2 with ⟨rfl, _⟩ | ⟨g', cap, cur, rfl, _, hh, _⟩
  · simp [Value.ownBlock] at e
  · have : g' = g := by simpa [Value.ownBlock] using e
    subst this
    unfold Bx at h
    rw [hh] at h
    injection h with h
    injection h with _ ht
    exact hne ht.symm
/-- A box was made at b0, then calls ran, the last of which made a row, then the box was filled. -/
theorem ISt.late {W0 u u' : World} {L : List Rw} {Bs : List Bxs} {A : Option Addr} {n c b0 : Nat} {xs : List Int} (hS : ISt W0 u L Bs) (hb0 : b0 = u.heap.size) (T : TypeId) (hT : T ≠ 3) (a0 a1 a2 a3 : Value)
    (hB : Below (u.alloc (.cells #[a0, a1, a2, a3] T)).heap.size (u.alloc (.cells #[a0, a1, a2, a3] T)) u') (hO : Own u' (u.alloc (.cells #[a0, a1, a2, a3] T)).heap.size (.slice A n c) xs) (c0 c1 c2 c3 : Value) :
    ∃ lo hi, ISt W0 ((((u'.setCell ⟨b0, 0, none⟩ c0).setCell ⟨b0, 1, none⟩ c1).setCell ⟨b0, 2, none⟩ c2).setCell ⟨b0, 3, none⟩ c3) (⟨lo, hi, .slice A n c, xs⟩ :: L) (⟨b0, T, #[c0, c1, c2, c3]⟩ :: Bs) := by
  subst hb0
  have h1 : ISt W0 u' (⟨(u.alloc (.cells #[a0, a1, a2, a3] T)).heap.size, u'.heap.size, .slice A n c, xs⟩ :: L) (⟨u.heap.size, T, #[a0, a1, a2, a3]⟩ :: Bs) := (hS.box T #[a0, a1, a2, a3] hT).add hO hB
  have hX := h1.2 ⟨u.heap.size, T, #[a0, a1, a2, a3]⟩ (List.Mem.head _)
  have hg : ∀ (w : World) (i : Nat) (x : Value), w.grownBy (w.setCell ⟨u.heap.size, i, none⟩ x) (some u.heap.size) := fun w i x => ⟨rfl, rfl, rfl, by simp [World.setCell], fun k _ hk => heap_setCell_other w ⟨u.heap.size, i, none⟩ k x (fun e => hk (by simp [e]))⟩
  have hG := gtrans (gtrans (gtrans (hg u' 0 c0) (hg _ 1 c1)) (hg _ 2 c2)) (hg _ 3 c3)
  have hX' := bx_put4' hX.1 c0 c1 c2 c3
  refine ⟨_, _, ⟨⟨h1.1.1.grown hG h1.1.1.size (fun k hk => by injection hk with hk; have := hS.1.1.size; omega), fun t ht => ?_, h1.1.2.2⟩, fun b hm => ?_⟩⟩
  · have ht' := h1.1.2.1 t ht
    refine ⟨⟨ht'.1.1.keep fun k hk => hG.block k (ht'.1.1.lt k hk).2 (fun e => own_ne_box' hX.1 hT ht'.1.1 (by rw [hk]; exact e)), ht'.1.2⟩, ht'.2.1, Nat.le_trans ht'.2.2 hG.size⟩
  · rcases List.mem_cons.1 hm with rfl | hm
    · exact ⟨hX', hT⟩
    · have hb := hS.2 b hm
      have hne : b.g ≠ u.heap.size := by have := hb.1.lt; omega
      have hb' := h1.2 b (List.mem_cons.2 (.inr hm))
      exact ⟨hb'.1.kept hG (by simpa using hne), hb'.2⟩
theorem ISt.box' {W0 w : World} {L : List Rw} {Bs : List Bxs} (h : ISt W0 w L Bs) (T : TypeId) (cs : Array Value) (ht : T ≠ 3) (g : Nat) (hg : g = w.heap.size) : ISt W0 (w.alloc (.cells cs T)) L (⟨g, T, cs⟩ :: Bs) := by
  subst hg; exact h.box T cs ht
theorem ISt.fresh {W0 w : World} {L : List Rw} {Bs : List Bxs} (h : ISt W0 w L Bs) {g : Nat} (hg : g = w.heap.size) : (∀ b ∈ Bs, b.g ≠ g) ∧ W0.heap.size ≤ g := by
  subst hg
  exact ⟨fun b hb => by have := (h.2 b hb).1.lt; omega, h.1.1.size⟩
/-- A box that was made before is filled. -/
theorem ISt.fill {W0 u : World} {L : List Rw} {Bs : List Bxs} {g : Nat} {T : TypeId} {a0 a1 a2 a3 : Value} (h : ISt W0 u L (⟨g, T, #[a0, a1, a2, a3]⟩ :: Bs)) (hf : (∀ b ∈ Bs, b.g ≠ g) ∧ W0.heap.size ≤ g) (c0 c1 c2 c3 : Value) :
    ISt W0 ((((u.setCell ⟨g, 0, none⟩ c0).setCell ⟨g, 1, none⟩ c1).setCell ⟨g, 2, none⟩ c2).setCell ⟨g, 3, none⟩ c3) L (⟨g, T, #[c0, c1, c2, c3]⟩ :: Bs) := by
  have hX := h.2 ⟨g, T, #[a0, a1, a2, a3]⟩ (List.Mem.head _)
  have hg : ∀ (w : World) (i : Nat) (x : Value), w.grownBy (w.setCell ⟨g, i, none⟩ x) (some g) := fun w i x => ⟨rfl, rfl, rfl, by simp [World.setCell], fun k _ hk => heap_setCell_other w ⟨g, i, none⟩ k x (fun e => hk (by simp [e]))⟩
  have hG := gtrans (gtrans (gtrans (hg u 0 c0) (hg _ 1 c1)) (hg _ 2 c2)) (hg _ 3 c3)
  have hX' := bx_put4' hX.1 c0 c1 c2 c3
  refine ⟨⟨h.1.1.grown hG h.1.1.size (fun k hk => by injection hk with hk; have := hf.2; omega), fun t ht => ?_, h.1.2.2⟩, fun b hm => ?_⟩
  · have ht' := h.1.2.1 t ht
    refine ⟨⟨ht'.1.1.keep fun k hk => hG.block k (ht'.1.1.lt k hk).2 (fun e => own_ne_box' hX.1 hX.2 ht'.1.1 (by rw [hk]; exact e)), ht'.1.2⟩, ht'.2.1, Nat.le_trans ht'.2.2 hG.size⟩
  · rcases List.mem_cons.1 hm with rfl | hm'
    · exact ⟨hX', hX.2⟩
    · have hb' := h.2 b (List.mem_cons.2 (.inr hm'))
      exact ⟨hb'.1.kept hG (by simpa using hf.1 b hm'), hb'.2⟩
section
variable {W0 u : World} {L : List Rw} {Bs : List Bxs} {g1 g2 : Nat} {p0 p1 p2 p3 q0 q1 q2 q3 : Value}
theorem cells8 (h : ISt W0 u L Bs) (T1 T2 : TypeId) (h1 : ⟨g1, T1, #[p0, p1, p2, p3]⟩ ∈ Bs) (h2 : ⟨g2, T2, #[q0, q1, q2, q3]⟩ ∈ Bs) :
    (u.cell? ⟨g1, 0, none⟩ = some p0 ∧ u.cell? ⟨g1, 1, none⟩ = some p1 ∧ u.cell? ⟨g1, 2, none⟩ = some p2 ∧ u.cell? ⟨g1, 3, none⟩ = some p3) ∧ u.cell? ⟨g2, 0, none⟩ = some q0 ∧ u.cell? ⟨g2, 1, none⟩ = some q1 ∧ u.cell? ⟨g2, 2, none⟩ = some q2 ∧ u.cell? ⟨g2, 3, none⟩ = some q3 :=
  ⟨bx4K (h.2 _ h1).1, bx4K (h.2 _ h2).1⟩
theorem cells8b (h : ISt W0 u L Bs) (T T1 T2 : TypeId) (ht : T ≠ 3) {c0 c1 c2 c3 : Value} (h1 : ⟨g1, T1, #[p0, p1, p2, p3]⟩ ∈ Bs) (h2 : ⟨g2, T2, #[q0, q1, q2, q3]⟩ ∈ Bs) :
    ((u.alloc (.cells #[c0, c1, c2, c3] T)).cell? ⟨g1, 0, none⟩ = some p0 ∧ (u.alloc (.cells #[c0, c1, c2, c3] T)).cell? ⟨g1, 1, none⟩ = some p1 ∧ (u.alloc (.cells #[c0, c1, c2, c3] T)).cell? ⟨g1, 2, none⟩ = some p2 ∧ (u.alloc (.cells #[c0, c1, c2, c3] T)).cell? ⟨g1, 3, none⟩ = some p3) ∧ (u.alloc (.cells #[c0, c1, c2, c3] T)).cell? ⟨g2, 0, none⟩ = some q0 ∧ (u.alloc (.cells #[c0, c1, c2, c3] T)).cell? ⟨g2, 1, none⟩ = some q1 ∧ (u.alloc (.cells #[c0, c1, c2, c3] T)).cell? ⟨g2, 2, none⟩ = some q2 ∧ (u.alloc (.cells #[c0, c1, c2, c3] T)).cell? ⟨g2, 3, none⟩ = some q3 :=
  cells8 (h.box T #[c0, c1, c2, c3] ht) T1 T2 (List.mem_cons_of_mem _ h1) (List.mem_cons_of_mem _ h2)
theorem cells8s {g : Nat} {T : TypeId} {a0 a1 a2 a3 : Value} (h : ISt W0 u L (⟨g, T, #[a0, a1, a2, a3]⟩ :: Bs)) (hf : (∀ b ∈ Bs, b.g ≠ g) ∧ W0.heap.size ≤ g) (T1 T2 : TypeId) {c0 c1 c2 c3 : Value} (h1 : ⟨g1, T1, #[p0, p1, p2, p3]⟩ ∈ Bs) (h2 : ⟨g2, T2, #[q0, q1, q2, q3]⟩ ∈ Bs) :
    (((((u.setCell ⟨g, 0, none⟩ c0).setCell ⟨g, 1, none⟩ c1).setCell ⟨g, 2, none⟩ c2).setCell ⟨g, 3, none⟩ c3).cell? ⟨g1, 0, none⟩ = some p0 ∧ ((((u.setCell ⟨g, 0, none⟩ c0).setCell ⟨g, 1, none⟩ c1).setCell ⟨g, 2, none⟩ c2).setCell ⟨g, 3, none⟩ c3).cell? ⟨g1, 1, none⟩ = some p1 ∧ ((((u.setCell ⟨g, 0, none⟩ c0).setCell ⟨g, 1, none⟩ c1).setCell ⟨g, 2, none⟩ c2).setCell ⟨g, 3, none⟩ c3).cell? ⟨g1, 2, none⟩ = some p2 ∧ ((((u.setCell ⟨g, 0, none⟩ c0).setCell ⟨g, 1, none⟩ c1).setCell ⟨g, 2, none⟩ c2).setCell ⟨g, 3, none⟩ c3).cell? ⟨g1, 3, none⟩ = some p3) ∧ ((((u.setCell ⟨g, 0, none⟩ c0).setCell ⟨g, 1, none⟩ c1).setCell ⟨g, 2, none⟩ c2).setCell ⟨g, 3, none⟩ c3).cell? ⟨g2, 0, none⟩ = some q0 ∧ ((((u.setCell ⟨g, 0, none⟩ c0).setCell ⟨g, 1, none⟩ c1).setCell ⟨g, 2, none⟩ c2).setCell ⟨g, 3, none⟩ c3).cell? ⟨g2, 1, none⟩ = some q1 ∧ ((((u.setCell ⟨g, 0, none⟩ c0).setCell ⟨g, 1, none⟩ c1).setCell ⟨g, 2, none⟩ c2).setCell ⟨g, 3, none⟩ c3).cell? ⟨g2, 2, none⟩ = some q2 ∧ ((((u.setCell ⟨g, 0, none⟩ c0).setCell ⟨g, 1, none⟩ c1).setCell ⟨g, 2, none⟩ c2).setCell ⟨g, 3, none⟩ c3).cell? ⟨g2, 3, none⟩ = some q3 :=
  cells8 (h.fill hf c0 c1 c2 c3) T1 T2 (List.mem_cons_of_mem _ h1) (List.mem_cons_of_mem _ h2)
end
end Go.Proofs.Ytolifmgkkkclkaa
