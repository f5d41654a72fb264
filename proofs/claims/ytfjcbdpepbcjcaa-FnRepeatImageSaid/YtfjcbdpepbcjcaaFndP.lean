/- What FindImage and CountImage need. -/
import Derived.Test.YtfjcbdpepbcjcaaFndC
import Derived.Test.YtfjcbdpepbcjcaaGridC
import Derived.Test.YtfjcbdpepbcjcaaGridF
import Derived.Deep.CutRange
import Derived.Deep.Cut
import Derived.Deep.RegionHeld3
import Derived.StillTailTactics
namespace Go.Proofs.Ytfjcbdpepbcjcaa
open Go.RowKit Go.Shelf
set_option linter.unusedSimpArgs false
set_option linter.unusedVariables false

theorem GS.swapF {W0 w : World} {L : List Rg} {a b : Bxg} {Bs : List Bxg} (h : GS W0 w L (a :: b :: Bs)) : GS W0 w L (b :: a :: Bs) := by
  have hp := List.pairwise_cons.1 h.2.2.2.2
  have hq := List.pairwise_cons.1 hp.2
  refine ⟨h.1, h.2.1, h.2.2.1, fun c hc => h.2.2.2.1 c ?_, .cons (fun c hc => ?_) (.cons (fun c hc => hp.1 c (List.mem_cons_of_mem _ hc)) hq.2)⟩
  · rcases List.mem_cons.1 hc with rfl | hc
    · exact List.mem_cons_of_mem _ List.mem_cons_self
    · rcases List.mem_cons.1 hc with rfl | hc
      · exact List.mem_cons_self
      · exact List.mem_cons_of_mem _ (List.mem_cons_of_mem _ hc)
  · rcases List.mem_cons.1 hc with rfl | hc
    · exact (hp.1 b List.mem_cons_self).symm
    · exact hq.1 c hc
theorem GS.fill3F {W0 w : World} {L : List Rg} {Bs : List Bxg} {g : Nat} {T : TypeId} {a0 a1 a2 : Value} (h : GS W0 w L (⟨g, T, #[a0, a1, a2]⟩ :: Bs)) (c0 c1 c2 : Value) :
    GS W0 (((w.setCell ⟨g, 0, none⟩ c0).setCell ⟨g, 1, none⟩ c1).setCell ⟨g, 2, none⟩ c2) L (⟨g, T, #[c0, c1, c2]⟩ :: Bs) := by
  have hb := h.bx (List.Mem.head _)
  have h1 := heap_setCell_same w g 0 _ T c0 hb
  have h2 := heap_setCell_same _ g 1 _ T c1 h1
  have h3 := heap_setCell_same _ g 2 _ T c2 h2
  exact h.fill (by simpa [Bx] using h3) (grown_set3 w g c0 c1 c2)
theorem sc3F {u : World} {a b o : Nat} (h : a ≠ b) (v0 v1 v2 : Value) : (((u.setCell ⟨b, 0, none⟩ v0).setCell ⟨b, 1, none⟩ v1).setCell ⟨b, 2, none⟩ v2).cell? ⟨a, o, none⟩ = u.cell? ⟨a, o, none⟩ := by
  have e : ∀ (w : World) (i : Nat) (u : Value), (w.setCell ⟨b, i, none⟩ u).cell? ⟨a, o, none⟩ = w.cell? ⟨a, o, none⟩ := fun w i u => World.cell?_setCell_other w ⟨b, i, none⟩ ⟨a, o, none⟩ u (fun e => h (by injection e with e1; exact e1.symm))
  rw [e, e, e]
theorem al1F {u : World} {a o : Nat} (h : a < u.heap.size) (ob : Obj) : (u.alloc ob).cell? ⟨a, o, none⟩ = u.cell? ⟨a, o, none⟩ :=
  World.cell?_of_block ((World.grownBy_alloc u ob none).block a h (by simp))
theorem below2F {u X u3 : World} (h : Below u.heap.size u X) (hB : Below X.heap.size X u3) : Below u.heap.size u u3 ∧ u.heap.size ≤ X.heap.size := ⟨h.trans (hB.mono h.size), h.size⟩
/-- All rows and boxes of a state lie below a place. -/
def GSB (B : Nat) (L : List Rg) (Bs : List Bxg) : Prop := (∀ t ∈ L, t.hi ≤ B) ∧ ∀ b ∈ Bs, b.g < B
theorem GS.bnd {W0 w : World} {L : List Rg} {Bs : List Bxg} (h : GS W0 w L Bs) : GSB w.heap.size L Bs := ⟨fun t ht => (h.2.1 t ht).2.2, fun b hb => (h.2.2.2.1 b hb).1.lt⟩
theorem GS.other {B : Nat} {W0 w w' : World} {L : List Rg} {Bs : List Bxg} {row : Option Nat} (h : GS W0 w L Bs) (hB : GSB B L Bs) (h0 : W0.heap.size ≤ B) (hG : w.grownBy w' row) (hr : ∀ r, row = some r → B ≤ r) : GS W0 w' L Bs := by
  have hk : ∀ k, k < B → k < w.heap.size → w'.heap[k]? = w.heap[k]? := fun k h1 h2 => hG.block k h2 (fun e => by have := hr k e.symm; omega)
  refine ⟨h.1.grown hG h.1.size (fun k e => Nat.le_trans h0 (hr k e)), fun t ht => ?_, h.2.2.1, fun b hb => ?_, h.2.2.2.2⟩
  · obtain ⟨h1, h2, h3⟩ := h.2.1 t ht
    exact ⟨h1.keep fun g _ hg => hk g (by have := hB.1 t ht; omega) (by omega), h2, Nat.le_trans h3 hG.size⟩
  · obtain ⟨h1, h2, h3⟩ := h.2.2.2.1 b hb
    exact ⟨(hk b.g (hB.2 b hb) h1.lt).trans h1, h2, h3⟩
theorem keepsF {B : Nat} {W W' : World} (hb : Below W.heap.size W W') : KeepsFrom B W W' := ⟨hb.size, fun k o _ hk _ => (hb.block k (Array.getElem?_eq_some_iff.1 hk).1).trans hk⟩
/-- How many of some places have no gap. -/
def zL {T : Nat} (G : Nat → Int) (pre : List (Fin T)) : Nat := pre.foldl (fun n x => n + if G x.val = 0 then 1 else 0) 0
theorem zL_snoc {T : Nat} (G : Nat → Int) (pre : List (Fin T)) (x : Fin T) : zL G (pre ++ [x]) = zL G pre + if G x.val = 0 then 1 else 0 := by simp [zL, List.foldl_append]
theorem zL_take {T : Nat} (G : Nat → Int) : ∀ k, k ≤ T → zL G ((List.finRange T).take k) = fdZ G k
  | 0, _ => rfl
  | k + 1, h => by rw [fin_tk T k (by omega), zL_snoc, zL_take G k (by omega)]; rfl
theorem zL_all {T : Nat} (G : Nat → Int) : zL G (List.finRange T) = fdZ G T := by
  have := zL_take (T := T) G T (Nat.le_refl _)
  rwa [List.take_of_length_le (by simp)] at this
theorem zL_le {T : Nat} (G : Nat → Int) (pre : List (Fin T)) : zL G pre ≤ pre.length := by
  have h : ∀ (l : List (Fin T)) (a : Nat), l.foldl (fun n x => n + if G x.val = 0 then 1 else 0) a ≤ a + l.length := by
    intro l
    induction l with
    | nil => intro a; simp
    | cons x l ih =>
      intro a
      have := ih (a + if G x.val = 0 then 1 else 0)
      have h2 : (if G x.val = 0 then 1 else 0) ≤ 1 := by split <;> omega
      rw [List.foldl_cons, List.length_cons]
      omega
  have := h pre 0
  rw [Nat.zero_add] at this
  exact this
/-- The nearest of some places, and its gap: the greatest number if there is none. -/
def bG (G : Nat → Int) : Option Nat → Int
  | none => 9223372036854775807
  | some k => G k
def bL {T : Nat} (G : Nat → Int) (pre : List (Fin T)) : Option Nat := pre.foldl (fun o x => if G x.val < bG G o then some x.val else o) none
theorem bL_snoc {T : Nat} (G : Nat → Int) (pre : List (Fin T)) (x : Fin T) : bL G (pre ++ [x]) = if G x.val < bG G (bL G pre) then some x.val else bL G pre := by unfold bL; rw [List.foldl_append]; rfl
theorem bL_take {T : Nat} (G : Nat → Int) (hG : ∀ k, k < T → G k < 9223372036854775807) : ∀ k, k < T → bL G ((List.finRange T).take (k + 1)) = some (fdI G (k + 1))
  | 0, h => by
    rw [fin_tk T 0 h, bL_snoc]
    show (if G 0 < 9223372036854775807 then some 0 else _) = _
    rw [if_pos (hG 0 h)]
    show _ = some (if _ then _ else _)
    split <;> rfl
  | k + 1, h => by
    rw [fin_tk T (k + 1) h, bL_snoc, bL_take G hG k (by omega)]
    show (if G (k + 1) < G (fdI G (k + 1)) then some (k + 1) else some (fdI G (k + 1))) = some (if G (k + 1) < G (fdI G (k + 1)) then k + 1 else fdI G (k + 1))
    split <;> rfl
theorem bL_all {T : Nat} (G : Nat → Int) (hG : ∀ k, k < T → G k < 9223372036854775807) (hT : 0 < T) : bL G (List.finRange T) = some (fdI G T) := by
  obtain ⟨t, rfl⟩ : ∃ t, T = t + 1 := ⟨T - 1, by omega⟩
  have := bL_take (T := t + 1) G hG t (by omega)
  rwa [List.take_of_length_le (by simp)] at this
theorem bL_in {T : Nat} (G : Nat → Int) (hG : ∀ k, k < T → 0 ≤ G k ∧ G k ≤ 66585600) (pre : List (Fin T)) : 0 ≤ bG G (bL G pre) ∧ bG G (bL G pre) ≤ 9223372036854775807 := by
  have h : ∀ (l : List (Fin T)) (o : Option Nat), (0 ≤ bG G o ∧ bG G o ≤ 9223372036854775807) → 0 ≤ bG G (l.foldl (fun o x => if G x.val < bG G o then some x.val else o) o) ∧ bG G (l.foldl (fun o x => if G x.val < bG G o then some x.val else o) o) ≤ 9223372036854775807 := by
    intro l
    induction l with
    | nil => intro o h; exact h
    | cons x l ih =>
      intro o h
      rw [List.foldl_cons]
      refine ih _ ?_
      split
      · have := hG x.val x.isLt; show 0 ≤ G x.val ∧ G x.val ≤ _; omega
      · exact h
  exact h pre none ⟨by show (0 : Int) ≤ 9223372036854775807; decide, Int.le_refl _⟩
/-- The box of the nearest place. -/
def bX (N PW PH : Nat) : Option Nat → Array Value
  | none => #[.int .i64 0, .int .i64 0, .int .i64 0, .int .i64 0]
  | some k => #[.int .i64 ((k % N : Nat) : Int), .int .i64 ((k / N : Nat) : Int), .int .i64 (PW : Int), .int .i64 (PH : Int)]
end Go.Proofs.Ytfjcbdpepbcjcaa
