/- The state of an exact law, for rows of any element type: rows that calls made, none shared with another, and boxes. -/
import Derived.Test.YtolifmgkkkclkaaBx
namespace Go.Proofs.Ytolifmgkkkclkaa
open Go.RowKit
set_option linter.unusedSimpArgs false
set_option linter.unusedVariables false

/-- A box: its block, its type, its cells. -/
structure Bxg where
  g : Nat
  t : TypeId
  cs : Array Value
/-- A row: bounds of its block, element type, cells an element, the slice, its length, the cells. -/
structure Rg where
  lo : Nat
  hi : Nat
  E : TypeId
  C : Nat
  v : Value
  n : Nat
  cs : List Value
def Rg.ok (w : World) (t : Rg) : Prop := w.ownsRow t.lo t.E t.C t.v t.n t.cs ∧ ∀ g, t.v.ownBlock = some g → g < t.hi
def Rg.apart (a b : Rg) : Prop := b.hi ≤ a.lo ∨ a.hi ≤ b.lo
theorem Rg.apart.symm {a b : Rg} (h : a.apart b) : b.apart a := h.elim .inr .inl
/-- A row of numbers; a row of structs of numbers. -/
def ri (lo hi : Nat) (v : Value) (xs : List Int) : Rg := ⟨lo, hi, 3, 1, v, xs.length, xs.map (.int .i64)⟩
def rt (E : TypeId) (C lo hi : Nat) (v : Value) (n : Nat) (xs : List Int) : Rg := ⟨lo, hi, E, C, v, n, xs.map (.int .i64)⟩
def GS (W0 w : World) (L : List Rg) (Bs : List Bxg) : Prop :=
  Below W0.heap.size W0 w ∧ (∀ t ∈ L, t.ok w ∧ W0.heap.size ≤ t.lo ∧ t.hi ≤ w.heap.size) ∧ L.Pairwise Rg.apart ∧
  (∀ b ∈ Bs, Bx w b.g b.t b.cs ∧ W0.heap.size ≤ b.g ∧ ∀ t ∈ L, t.hi ≤ b.g ∨ b.g < t.lo) ∧ Bs.Pairwise (fun a b => a.g ≠ b.g)
section
variable {W0 w w' : World} {L L1 L2 : List Rg} {t : Rg} {Bs : List Bxg}
theorem ownsRow_keep {base : Nat} {E : TypeId} {C : Nat} {v : Value} {n : Nat} {cs : List Value} (h : w.ownsRow base E C v n cs) (hk : ∀ g, v.ownBlock = some g → w'.heap[g]? = w.heap[g]?) : w'.ownsRow base E C v n cs := by
  refine ⟨h.1, ?_⟩
  rcases h.2 with h2 | ⟨g, cap, cur, hv, hb, hg, r⟩
  · exact .inl h2
  · exact .inr ⟨g, cap, cur, hv, hb, (hk g (by rw [hv]; rfl)).trans hg, r⟩
theorem Rg.ok.keep (h : t.ok w) (hk : ∀ g, t.lo ≤ g → g < t.hi → w'.heap[g]? = w.heap[g]?) : t.ok w' :=
  ⟨ownsRow_keep h.1 fun g hg => hk g (World.ownsRow.lt h.1 g hg).1 (h.2 g hg), h.2⟩
theorem GS.start (w : World) : GS w w [] [] := ⟨Below.refl _ _, by simp, .nil, by simp, .nil⟩
theorem GS.below (h : GS W0 w L Bs) : Below W0.heap.size W0 w := h.1
theorem GS.call (h : GS W0 w L Bs) (hb : Below w.heap.size w w') : GS W0 w' L Bs := by
  have hs := h.1.size
  refine ⟨h.1.trans (hb.mono hs), fun t ht => ⟨(h.2.1 t ht).1.keep fun g _ h2 => hb.block g (by have := (h.2.1 t ht).2.2; omega), (h.2.1 t ht).2.1, Nat.le_trans (h.2.1 t ht).2.2 hb.size⟩, h.2.2.1, fun b hm => ⟨(h.2.2.2.1 b hm).1.below hb, (h.2.2.2.1 b hm).2⟩, h.2.2.2.2⟩
theorem GS.drewN (h : GS W0 w L Bs) (n : Nat) : GS W0 (w.drewN n) L Bs := ⟨⟨h.1.os, h.1.tape, h.1.output, h.1.size, h.1.block⟩, h.2⟩
theorem GS.drew (h : GS W0 w L Bs) : GS W0 w.drew L Bs := ⟨⟨h.1.os, h.1.tape, h.1.output, h.1.size, h.1.block⟩, h.2⟩
theorem GS.addR (h : GS W0 w L Bs) {E : TypeId} {C : Nat} {v : Value} {n : Nat} {cs : List Value} (hO : w'.ownsRow w.heap.size E C v n cs) (hb : Below w.heap.size w w') : GS W0 w' (⟨w.heap.size, w'.heap.size, E, C, v, n, cs⟩ :: L) Bs := by
  have h' := h.call hb
  refine ⟨h'.1, ?_, ?_, fun b hm => ⟨(h'.2.2.2.1 b hm).1, (h'.2.2.2.1 b hm).2.1, fun t ht => ?_⟩, h.2.2.2.2⟩
  · intro t ht
    rcases List.mem_cons.1 ht with rfl | ht
    · exact ⟨⟨hO, fun g hg => (World.ownsRow.lt hO g hg).2⟩, h.1.size, Nat.le_refl _⟩
    · exact h'.2.1 t ht
  · exact .cons (fun t ht => .inl (h.2.1 t ht).2.2) h.2.2.1
  · rcases List.mem_cons.1 ht with rfl | ht
    · exact .inr (h.2.2.2.1 b hm).1.lt
    · exact (h.2.2.2.1 b hm).2.2 t ht
theorem GS.add (h : GS W0 w L Bs) {v : Value} {xs : List Int} (hO : Own w' w.heap.size v xs) (hb : Below w.heap.size w w') : GS W0 w' (ri w.heap.size w'.heap.size v xs :: L) Bs := h.addR hO hb
theorem GS.addT (h : GS W0 w L Bs) {E : TypeId} {C : Nat} {v : Value} {n : Nat} {xs : List Int} (hO : w'.ownsRow w.heap.size E C v n (xs.map (.int .i64))) (hb : Below w.heap.size w w') : GS W0 w' (rt E C w.heap.size w'.heap.size v n xs :: L) Bs := h.addR hO hb
theorem GS.box (h : GS W0 w L Bs) (T : TypeId) (cs : Array Value) : GS W0 (w.alloc (.cells cs T)) L (⟨w.heap.size, T, cs⟩ :: Bs) := by
  have h' : GS W0 (w.alloc (.cells cs T)) L Bs := h.call ((Below.refl _ _).alloc (Nat.le_refl _) _)
  refine ⟨h'.1, h'.2.1, h'.2.2.1, fun b hm => ?_, .cons (fun b hm => ?_) h.2.2.2.2⟩
  · rcases List.mem_cons.1 hm with rfl | hm
    · exact ⟨Bx.new w T cs, h.1.size, fun t ht => .inl (h.2.1 t ht).2.2⟩
    · exact h'.2.2.2.1 b hm
  · have := (h.2.2.2.1 b hm).1.lt
    show w.heap.size ≠ b.g
    omega
theorem GS.box' (h : GS W0 w L Bs) (T : TypeId) (cs : Array Value) (g : Nat) (hg : g = w.heap.size) : GS W0 (w.alloc (.cells cs T)) L (⟨g, T, cs⟩ :: Bs) := by
  subst hg; exact h.box T cs
/-- A box's cells are new; nothing else is. -/
theorem GS.fill {g : Nat} {T : TypeId} {cs cs' : Array Value} (h : GS W0 w L (⟨g, T, cs⟩ :: Bs)) (hX : Bx w' g T cs') (hG : w.grownBy w' (some g)) : GS W0 w' L (⟨g, T, cs'⟩ :: Bs) := by
  have hb := h.2.2.2.1 ⟨g, T, cs⟩ (List.Mem.head _)
  have hp := List.pairwise_cons.1 h.2.2.2.2
  refine ⟨h.1.grown hG h.1.size (fun k hk => by injection hk with hk; rw [← hk]; exact hb.2.1), fun t ht => ?_, h.2.2.1, fun b hm => ?_, .cons (fun b hm => hp.1 b hm) hp.2⟩
  · have ht' := h.2.1 t ht
    exact ⟨ht'.1.keep fun k h1 h2 => hG.block k (by omega) (fun e => by injection e with e; have := hb.2.2 t ht; simp only at this; omega), ht'.2.1, Nat.le_trans ht'.2.2 hG.size⟩
  · rcases List.mem_cons.1 hm with rfl | hm'
    · exact ⟨hX, hb.2⟩
    · have hb' := h.2.2.2.1 b (List.mem_cons.2 (.inr hm'))
      exact ⟨(hG.block b.g hb'.1.lt (by have := hp.1 b hm'; simp only at this; simpa using fun e => this e.symm)).trans hb'.1, hb'.2⟩
theorem GS.markR (h : GS W0 w (L1 ++ t :: L2) Bs) {cs' : List Value} (hO : w'.ownsRow t.lo t.E t.C t.v t.n cs') (hg : w.grownBy w' t.v.ownBlock) : GS W0 w' (L1 ++ ⟨t.lo, t.hi, t.E, t.C, t.v, t.n, cs'⟩ :: L2) Bs := by
  have hs := hg.size
  have ht := h.2.1 t (by simp)
  have hp := List.pairwise_append.1 h.2.2.1
  have hp2 := List.pairwise_cons.1 hp.2.1
  have hlt := World.ownsRow.lt ht.1.1
  refine ⟨h.1.grown hg h.1.size (fun k hk => by have := (hlt k hk).1; have := ht.2.1; omega), ?_, ?_, ?_, h.2.2.2.2⟩
  · intro s hs'
    have hold : ∀ s ∈ L1 ++ t :: L2, (s.hi ≤ t.lo ∨ t.hi ≤ s.lo) → s.ok w' ∧ W0.heap.size ≤ s.lo ∧ s.hi ≤ w'.heap.size := by
      intro s hm hd
      have hs2 := h.2.1 s hm
      refine ⟨hs2.1.keep fun g h1 h2 => hg.block g (by omega) (fun e => ?_), hs2.2.1, by omega⟩
      have h3 := (hlt g e.symm).1
      have h4 := ht.1.2 g e.symm
      omega
    rcases List.mem_append.1 hs' with hm | hm
    · exact hold s (by simp [hm]) (hp.2.2 s hm t (by simp)).symm
    · rcases List.mem_cons.1 hm with rfl | hm
      · exact ⟨⟨hO, ht.1.2⟩, ht.2.1, by show t.hi ≤ _; have := ht.2.2; omega⟩
      · exact hold s (by simp [hm]) (hp2.1 s hm)
  · refine List.pairwise_append.2 ⟨hp.1, List.pairwise_cons.2 ⟨hp2.1, hp2.2⟩, fun a ha b hb => ?_⟩
    rcases List.mem_cons.1 hb with rfl | hb
    · exact hp.2.2 a ha t (by simp)
    · exact hp.2.2 a ha b (by simp [hb])
  · intro b hm
    have hb := h.2.2.2.1 b hm
    refine ⟨(hg.block b.g hb.1.lt (fun e => ?_)).trans hb.1, hb.2.1, fun s hs' => ?_⟩
    · have h1 := hb.2.2 t (by simp)
      have h3 := (hlt b.g e.symm).1
      have h4 := ht.1.2 b.g e.symm
      omega
    · rcases List.mem_append.1 hs' with hm | hm
      · exact hb.2.2 s (by simp [hm])
      · rcases List.mem_cons.1 hm with rfl | hm
        · exact hb.2.2 t (by simp)
        · exact hb.2.2 s (by simp [hm])
theorem GS.mark {lo hi : Nat} {v : Value} {xs ys : List Int} (h : GS W0 w (L1 ++ ri lo hi v xs :: L2) Bs) (hO : Own w' lo v ys) (hl : ys.length = xs.length) (hg : w.grownBy w' v.ownBlock) : GS W0 w' (L1 ++ ri lo hi v ys :: L2) Bs := by
  have hO' : w'.ownsRow (ri lo hi v xs).lo (ri lo hi v xs).E (ri lo hi v xs).C (ri lo hi v xs).v (ri lo hi v xs).n (ys.map (.int .i64)) := by
    show w'.ownsRow lo 3 1 v xs.length _
    rw [← hl]; exact hO
  have := GS.markR h hO' hg
  have e : ri lo hi v ys = ⟨lo, hi, 3, 1, v, xs.length, ys.map (.int .i64)⟩ := by rw [← hl]; rfl
  rw [e]; exact this
theorem GS.markT {E : TypeId} {C lo hi : Nat} {v : Value} {n : Nat} {xs ys : List Int} (h : GS W0 w (L1 ++ rt E C lo hi v n xs :: L2) Bs) (hO : w'.ownsRow lo E C v n (ys.map (.int .i64))) (hg : w.grownBy w' v.ownBlock) : GS W0 w' (L1 ++ rt E C lo hi v n ys :: L2) Bs :=
  GS.markR h hO hg
theorem GS.own (h : GS W0 w L Bs) {lo hi : Nat} {v : Value} {xs : List Int} (hm : ri lo hi v xs ∈ L) : Own w lo v xs := (h.2.1 _ hm).1.1
theorem GS.ownT (h : GS W0 w L Bs) {E : TypeId} {C lo hi : Nat} {v : Value} {n : Nat} {xs : List Int} (hm : rt E C lo hi v n xs ∈ L) : w.ownsRow lo E C v n (xs.map (.int .i64)) := (h.2.1 _ hm).1.1
theorem GS.rds (h : GS W0 w L Bs) {lo hi n c : Nat} {A : Option Addr} {xs : List Int} (hm : ri lo hi (.slice A n c) xs ∈ L) : Rds .i64 w w.heap.size A xs := (h.own hm).rds.2
theorem GS.arg (h : GS W0 w L Bs) {k : IntKind} {A : Option Addr} {xs : List Int} (hr : Rds k W0 W0.heap.size A xs) : Rds k w w.heap.size A xs := (hr.below h.1).more h.1.size
theorem GS.bx (h : GS W0 w L Bs) {g : Nat} {T : TypeId} {cs : Array Value} (hm : ⟨g, T, cs⟩ ∈ Bs) : Bx w g T cs := (h.2.2.2.1 _ hm).1
theorem GS.lt (h : GS W0 w L Bs) {g : Nat} {T : TypeId} {cs : Array Value} (hm : ⟨g, T, cs⟩ ∈ Bs) : g < w.heap.size := (h.bx hm).lt
theorem GS.c4 (h : GS W0 w L Bs) {g : Nat} {T : TypeId} {a0 a1 a2 a3 : Value} (hm : ⟨g, T, #[a0, a1, a2, a3]⟩ ∈ Bs) : w.cell? ⟨g, 0, none⟩ = some a0 ∧ w.cell? ⟨g, 1, none⟩ = some a1 ∧ w.cell? ⟨g, 2, none⟩ = some a2 ∧ w.cell? ⟨g, 3, none⟩ = some a3 :=
  have hb := h.bx hm; ⟨cell_of_row w g 0 _ _ _ hb, cell_of_row w g 1 _ _ _ hb, cell_of_row w g 2 _ _ _ hb, cell_of_row w g 3 _ _ _ hb⟩
theorem GS.c3 (h : GS W0 w L Bs) {g : Nat} {T : TypeId} {a0 a1 a2 : Value} (hm : ⟨g, T, #[a0, a1, a2]⟩ ∈ Bs) : w.cell? ⟨g, 0, none⟩ = some a0 ∧ w.cell? ⟨g, 1, none⟩ = some a1 ∧ w.cell? ⟨g, 2, none⟩ = some a2 :=
  have hb := h.bx hm; ⟨cell_of_row w g 0 _ _ _ hb, cell_of_row w g 1 _ _ _ hb, cell_of_row w g 2 _ _ _ hb⟩
theorem GS.c6 (h : GS W0 w L Bs) {g : Nat} {T : TypeId} {a0 a1 a2 a3 a4 a5 : Value} (hm : ⟨g, T, #[a0, a1, a2, a3, a4, a5]⟩ ∈ Bs) : w.cell? ⟨g, 0, none⟩ = some a0 ∧ w.cell? ⟨g, 1, none⟩ = some a1 ∧ w.cell? ⟨g, 2, none⟩ = some a2 ∧ w.cell? ⟨g, 3, none⟩ = some a3 ∧ w.cell? ⟨g, 4, none⟩ = some a4 ∧ w.cell? ⟨g, 5, none⟩ = some a5 :=
  have hb := h.bx hm; ⟨cell_of_row w g 0 _ _ _ hb, cell_of_row w g 1 _ _ _ hb, cell_of_row w g 2 _ _ _ hb, cell_of_row w g 3 _ _ _ hb, cell_of_row w g 4 _ _ _ hb, cell_of_row w g 5 _ _ _ hb⟩
theorem GS.c9 (h : GS W0 w L Bs) {g : Nat} {T : TypeId} {a0 a1 a2 a3 a4 a5 a6 a7 a8 : Value} (hm : ⟨g, T, #[a0, a1, a2, a3, a4, a5, a6, a7, a8]⟩ ∈ Bs) : w.cell? ⟨g, 0, none⟩ = some a0 ∧ w.cell? ⟨g, 1, none⟩ = some a1 ∧ w.cell? ⟨g, 2, none⟩ = some a2 ∧ w.cell? ⟨g, 3, none⟩ = some a3 ∧ w.cell? ⟨g, 4, none⟩ = some a4 ∧ w.cell? ⟨g, 5, none⟩ = some a5 ∧ w.cell? ⟨g, 6, none⟩ = some a6 ∧ w.cell? ⟨g, 7, none⟩ = some a7 ∧ w.cell? ⟨g, 8, none⟩ = some a8 :=
  have hb := h.bx hm; ⟨cell_of_row w g 0 _ _ _ hb, cell_of_row w g 1 _ _ _ hb, cell_of_row w g 2 _ _ _ hb, cell_of_row w g 3 _ _ _ hb, cell_of_row w g 4 _ _ _ hb, cell_of_row w g 5 _ _ _ hb, cell_of_row w g 6 _ _ _ hb, cell_of_row w g 7 _ _ _ hb, cell_of_row w g 8 _ _ _ hb⟩
theorem GS.fz (h : GS W0 w L Bs) {g : Nat} {T : TypeId} {cs : Array Value} (hm : ⟨g, T, cs⟩ ∈ Bs) (i : Nat) : w.frozen? ⟨g, i, none⟩ = false := frozen_of_row w g i _ _ (h.bx hm)
/-- Four cells of a box are written. -/
theorem GS.fill4 {g : Nat} {T : TypeId} {a0 a1 a2 a3 : Value} (h : GS W0 w L (⟨g, T, #[a0, a1, a2, a3]⟩ :: Bs)) (c0 c1 c2 c3 : Value) :
    GS W0 ((((w.setCell ⟨g, 0, none⟩ c0).setCell ⟨g, 1, none⟩ c1).setCell ⟨g, 2, none⟩ c2).setCell ⟨g, 3, none⟩ c3) L (⟨g, T, #[c0, c1, c2, c3]⟩ :: Bs) := by
  have hb := h.bx (List.Mem.head _)
  have h1 := heap_setCell_same w g 0 _ T c0 hb
  have h2 := heap_setCell_same _ g 1 _ T c1 h1
  have h3 := heap_setCell_same _ g 2 _ T c2 h2
  have h4 := heap_setCell_same _ g 3 _ T c3 h3
  have hg : ∀ (w : World) (i : Nat) (x : Value), w.grownBy (w.setCell ⟨g, i, none⟩ x) (some g) := fun w i x => ⟨rfl, rfl, rfl, by simp [World.setCell], fun k _ hk => heap_setCell_other w ⟨g, i, none⟩ k x (fun e => hk (by simp [e]))⟩
  exact h.fill (by simpa [Bx] using h4) (gtrans (gtrans (gtrans (hg w 0 c0) (hg _ 1 c1)) (hg _ 2 c2)) (hg _ 3 c3))
end
theorem GS.rdsT {W0 w : World} {L : List Rg} {Bs : List Bxg} (h : GS W0 w L Bs) {E : TypeId} {C lo hi n m c : Nat} {A : Option Addr} {xs : List Int} (hm : rt E C lo hi (.slice A m c) n xs ∈ L) : Rds .i64 w w.heap.size A xs := by
  have ho := h.ownT hm
  have hl : xs.length = n * C := by simpa using ho.1
  rcases ho.2 with ⟨h0, rfl⟩ | ⟨g, cap, cur, hv, hbg, hg, hnc, hcm, hcs, ht⟩
  · exact .inl (List.eq_nil_of_length_eq_zero (by omega))
  · simp only [Value.slice.injEq] at hv
    obtain ⟨rfl, rfl, rfl⟩ := hv
    refine .inr ⟨g, 0, rfl, ?_, fun j hj => ?_⟩
    · rcases Nat.lt_or_ge g w.heap.size with h' | h'
      · exact h'
      · rw [Array.getElem?_eq_none h'] at hg; cases hg
    · rw [Nat.zero_add, World.ownsRow.cellAt ho j (by omega)]
      simp [List.getElem?_eq_getElem hj]
end Go.Proofs.Ytolifmgkkkclkaa
