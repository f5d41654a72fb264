/- A row that grows beside the state GS. -/
import Derived.Test.YtolifmgkkkclkaaGenP
namespace Go.Proofs.Ytolifmgkkkclkaa
open Go.RowKit
set_option linter.unusedSimpArgs false
set_option linter.unusedVariables false

theorem bel_grown0 {w w' : World} (hG : w.grownBy w' none) : Below w.heap.size w w' := ⟨hG.os, hG.tape, hG.output, hG.size, fun i hi => hG.block i hi (by simp)⟩
/-- The row v (of n elements) lies behind block base and may grow; the state's rows and boxes lie ahead of it. -/
def GR (W0 w : World) (base : Nat) (E : TypeId) (C : Nat) (v : Value) (n : Nat) (cs : List Value) (L : List Rg) (Bs : List Bxg) : Prop :=
  GS W0 w L Bs ∧ w.ownsRow base E C v n cs ∧ (∀ b ∈ Bs, b.g < base) ∧ (∀ t ∈ L, t.hi ≤ base) ∧ base ≤ w.heap.size ∧ W0.heap.size ≤ base
/-- The same of a row of numbers. -/
def GA (W0 w : World) (base : Nat) (v : Value) (xs : List Int) (L : List Rg) (Bs : List Bxg) : Prop := GR W0 w base 3 1 v xs.length (xs.map (.int .i64)) L Bs
section
variable {W0 w w' : World} {base : Nat} {v v' : Value} {xs ys : List Int} {E : TypeId} {C n n' : Nat} {cs cs' : List Value} {L : List Rg} {Bs : List Bxg}
theorem GR.start {w1 : World} (h : GS W0 w L Bs) (hG : w.grownBy w1 none) (hO : w1.ownsRow w.heap.size E C v n cs) : GR W0 w1 w.heap.size E C v n cs L Bs :=
  ⟨h.call (bel_grown0 hG), hO, fun b hb => (h.2.2.2.1 b hb).1.lt, fun t ht => (h.2.1 t ht).2.2, hG.size, h.1.size⟩
theorem GR.nil (h : GS W0 w L Bs) (E : TypeId) (C : Nat) : GR W0 w w.heap.size E C (.slice none 0 0) 0 [] L Bs :=
  ⟨h, World.ownsRow_nil _ _ _ _, fun b hb => (h.2.2.2.1 b hb).1.lt, fun t ht => (h.2.1 t ht).2.2, Nat.le_refl _, h.1.size⟩
theorem GR.call (h : GR W0 w base E C v n cs L Bs) (hb : Below w.heap.size w w') : GR W0 w' base E C v n cs L Bs :=
  ⟨h.1.call hb, ownsRow_keep h.2.1 fun g hg => hb.block g (World.ownsRow.lt h.2.1 g hg).2, h.2.2.1, h.2.2.2.1, Nat.le_trans h.2.2.2.2.1 hb.size, h.2.2.2.2.2⟩
theorem GR.alloc (h : GR W0 w base E C v n cs L Bs) (o : Obj) : GR W0 (w.alloc o) base E C v n cs L Bs := h.call ((Below.refl _ _).alloc (Nat.le_refl _) _)
theorem GR.drew (h : GR W0 w base E C v n cs L Bs) : GR W0 w.drew base E C v n cs L Bs := ⟨h.1.drew, h.2⟩
theorem GR.drewN (h : GR W0 w base E C v n cs L Bs) (k : Nat) : GR W0 (w.drewN k) base E C v n cs L Bs := ⟨h.1.drewN k, h.2⟩
theorem GR.app (h : GR W0 w base E C v n cs L Bs) (hO : w'.ownsRow base E C v' n' cs') (hG : w.grownBy w' v.ownBlock) : GR W0 w' base E C v' n' cs' L Bs := by
  have hlt := World.ownsRow.lt h.2.1
  have hW : ∀ k, v.ownBlock = some k → base ≤ k := fun k hk => (hlt k hk).1
  have hbelow : ∀ i, i < base → w'.heap[i]? = w.heap[i]? := fun i hi => hG.block i (Nat.lt_of_lt_of_le hi h.2.2.2.2.1) (fun e => by have := hW i e.symm; omega)
  refine ⟨⟨h.1.1.grown hG h.1.1.size (fun k hk => Nat.le_trans h.2.2.2.2.2 (hW k hk)), fun t ht => ?_, h.1.2.2.1, fun b hb => ?_, h.1.2.2.2.2⟩, hO, h.2.2.1, h.2.2.2.1, Nat.le_trans h.2.2.2.2.1 hG.size, h.2.2.2.2.2⟩
  · have ht' := h.1.2.1 t ht
    have := h.2.2.2.1 t ht
    exact ⟨ht'.1.keep fun g h1 h2 => hbelow g (by omega), ht'.2.1, Nat.le_trans ht'.2.2 hG.size⟩
  · have hb' := h.1.2.2.2.1 b hb
    exact ⟨(hbelow b.g (h.2.2.1 b hb)).trans hb'.1, hb'.2⟩
/-- The row has grown enough: it is one of the state's. -/
theorem GR.done (h : GR W0 w base E C v n cs L Bs) : GS W0 w (⟨base, w.heap.size, E, C, v, n, cs⟩ :: L) Bs := by
  refine ⟨h.1.1, fun t ht => ?_, .cons (fun t ht => .inl (h.2.2.2.1 t ht)) h.1.2.2.1, fun b hb => ⟨(h.1.2.2.2.1 b hb).1, (h.1.2.2.2.1 b hb).2.1, fun t ht => ?_⟩, h.1.2.2.2.2⟩
  · rcases List.mem_cons.1 ht with rfl | ht
    · exact ⟨⟨h.2.1, fun g hg => (World.ownsRow.lt h.2.1 g hg).2⟩, h.2.2.2.2.2, Nat.le_refl _⟩
    · exact h.1.2.1 t ht
  · rcases List.mem_cons.1 ht with rfl | ht
    · exact .inr (h.2.2.1 b hb)
    · exact (h.1.2.2.2.1 b hb).2.2 t ht
theorem GR.slice (h : GR W0 w base E C v n cs L Bs) : ∃ A c, v = .slice A n c ∧ n ≤ c := by
  rcases h.2.1.2 with ⟨rfl, rfl⟩ | ⟨g, cap, cur, rfl, _, _, hnc, _⟩
  · exact ⟨none, 0, rfl, Nat.le_refl _⟩
  · exact ⟨_, cap, rfl, hnc⟩
theorem GA.start {w1 : World} (h : GS W0 w L Bs) (hG : w.grownBy w1 none) (hO : Own w1 w.heap.size v xs) : GA W0 w1 w.heap.size v xs L Bs := GR.start h hG hO
theorem GA.nil (h : GS W0 w L Bs) : GA W0 w w.heap.size (.slice none 0 0) [] L Bs := GR.nil h _ _
theorem GA.call (h : GA W0 w base v xs L Bs) (hb : Below w.heap.size w w') : GA W0 w' base v xs L Bs := GR.call h hb
theorem GA.alloc (h : GA W0 w base v xs L Bs) (o : Obj) : GA W0 (w.alloc o) base v xs L Bs := GR.alloc h o
theorem GA.drew (h : GA W0 w base v xs L Bs) : GA W0 w.drew base v xs L Bs := GR.drew h
theorem GA.drewN (h : GA W0 w base v xs L Bs) (k : Nat) : GA W0 (w.drewN k) base v xs L Bs := GR.drewN h k
theorem GA.app (h : GA W0 w base v xs L Bs) (hO : Own w' base v' ys) (hG : w.grownBy w' v.ownBlock) : GA W0 w' base v' ys L Bs := GR.app h hO hG
theorem GA.done (h : GA W0 w base v xs L Bs) : GS W0 w (ri base w.heap.size v xs :: L) Bs := GR.done h
theorem GA.own (h : GA W0 w base v xs L Bs) : Own w base v xs := h.2.1
theorem GA.gs (h : GA W0 w base v xs L Bs) : GS W0 w L Bs := h.1
theorem GA.bs (h : GA W0 w base v xs L Bs) : base ≤ w.heap.size := h.2.2.2.2.1
end
end Go.Proofs.Ytolifmgkkkclkaa
