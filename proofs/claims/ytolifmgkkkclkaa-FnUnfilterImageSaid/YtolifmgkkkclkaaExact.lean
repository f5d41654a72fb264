/- The state of an exact law: rows that the call made, one behind the other, none of them shared. -/
import Derived.Test.YtolifmgkkkclkaaLists
namespace Go.Proofs.Ytolifmgkkkclkaa
open Go.RowKit
set_option linter.unusedSimpArgs false
set_option linter.unusedVariables false

/-- A row: the first and the last number of its block, the slice, what it holds. -/
structure Rw where
  lo : Nat
  hi : Nat
  v : Value
  xs : List Int
def Rw.ok (w : World) (t : Rw) : Prop := Own w t.lo t.v t.xs ∧ ∀ g, t.v.ownBlock = some g → g < t.hi
/-- Since W0 the rows L were made, the youngest first; nothing else has changed. -/
def St (W0 w : World) (L : List Rw) : Prop :=
  Below W0.heap.size W0 w ∧ (∀ t ∈ L, t.ok w ∧ W0.heap.size ≤ t.lo ∧ t.hi ≤ w.heap.size) ∧ L.Pairwise (fun a b => b.hi ≤ a.lo)
section
variable {W0 w w' : World} {L L1 L2 : List Rw} {t : Rw}
theorem St.start (w : World) : St w w [] := ⟨Below.refl _ _, by simp, .nil⟩
theorem St.below (h : St W0 w L) : Below W0.heap.size W0 w := h.1
theorem Rw.ok.keep (h : t.ok w) (hk : ∀ g, t.lo ≤ g → g < t.hi → w'.heap[g]? = w.heap[g]?) : t.ok w' :=
  ⟨h.1.keep fun g hg => hk g (h.1.lt g hg).1 (h.2 g hg), h.2⟩
theorem St.call (h : St W0 w L) (hb : Below w.heap.size w w') : St W0 w' L := by
  have hs := h.1.size
  exact ⟨h.1.trans (hb.mono hs), fun t ht => ⟨(h.2.1 t ht).1.keep fun g _ h2 => hb.block g (by have := (h.2.1 t ht).2.2; omega), (h.2.1 t ht).2.1, Nat.le_trans (h.2.1 t ht).2.2 hb.size⟩, h.2.2⟩
theorem St.drewN (h : St W0 w L) (n : Nat) : St W0 (w.drewN n) L := ⟨⟨h.1.os, h.1.tape, h.1.output, h.1.size, h.1.block⟩, h.2⟩
theorem St.add (h : St W0 w L) {v : Value} {xs : List Int} (hO : Own w' w.heap.size v xs) (hb : Below w.heap.size w w') : St W0 w' (⟨w.heap.size, w'.heap.size, v, xs⟩ :: L) := by
  have h' := h.call hb
  refine ⟨h'.1, ?_, ?_⟩
  · intro t ht
    rcases List.mem_cons.1 ht with rfl | ht
    · exact ⟨⟨hO, fun g hg => (hO.lt g hg).2⟩, h.1.size, Nat.le_refl _⟩
    · exact h'.2.1 t ht
  · exact .cons (fun t ht => (h.2.1 t ht).2.2) h.2.2
theorem St.own (h : St W0 w L) (t : Rw) (ht : t ∈ L) : Own w t.lo t.v t.xs := (h.2.1 t ht).1.1
theorem St.rds (h : St W0 w L) {lo hi n c : Nat} {A : Option Addr} {xs : List Int} (ht : ⟨lo, hi, .slice A n c, xs⟩ ∈ L) : Rds .i64 w w.heap.size A xs := (h.own _ ht).rds.2
theorem St.arg (h : St W0 w L) {k : IntKind} {A : Option Addr} {xs : List Int} (hr : Rds k W0 W0.heap.size A xs) : Rds k w w.heap.size A xs := (hr.below h.1).more h.1.size
theorem St.mark (h : St W0 w (L1 ++ t :: L2)) {ys : List Int} (hO : Own w' t.lo t.v ys) (hg : w.grownBy w' t.v.ownBlock) (hs : w'.heap.size = w.heap.size) : St W0 w' (L1 ++ ⟨t.lo, t.hi, t.v, ys⟩ :: L2) := by
  have ht := h.2.1 t (by simp)
  have hp := List.pairwise_append.1 h.2.2
  have hp2 := List.pairwise_cons.1 hp.2.1
  refine ⟨h.1.grown hg h.1.size (fun k hk => by have := (ht.1.1.lt k hk).1; have := ht.2.1; omega), ?_, ?_⟩
  · intro s hs'
    have hold : ∀ s ∈ L1 ++ t :: L2, (s.hi ≤ t.lo ∨ t.hi ≤ s.lo) → s.ok w' ∧ W0.heap.size ≤ s.lo ∧ s.hi ≤ w'.heap.size := by
      intro s hm hd
      have hs2 := h.2.1 s hm
      refine ⟨hs2.1.keep fun g h1 h2 => hg.block g (by omega) (fun e => ?_), hs2.2.1, by omega⟩
      have h3 := (ht.1.1.lt g e.symm).1
      have h4 := ht.1.2 g e.symm
      omega
    rcases List.mem_append.1 hs' with hm | hm
    · exact hold s (by simp [hm]) (.inr (hp.2.2 s hm t (by simp)))
    · rcases List.mem_cons.1 hm with rfl | hm
      · exact ⟨⟨hO, ht.1.2⟩, ht.2.1, by show t.hi ≤ _; have := ht.2.2; omega⟩
      · exact hold s (by simp [hm]) (.inl (hp2.1 s hm))
  · refine List.pairwise_append.2 ⟨hp.1, List.pairwise_cons.2 ⟨hp2.1, hp2.2⟩, fun a ha b hb => ?_⟩
    rcases List.mem_cons.1 hb with rfl | hb
    · exact hp.2.2 a ha t (by simp)
    · exact hp.2.2 a ha b (by simp [hb])
end
end Go.Proofs.Ytolifmgkkkclkaa
