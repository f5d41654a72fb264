/- The state of an exact law over images: rows that the call made, and boxes that hold images. -/
import Derived.Test.YtolifmgkkkclkaaImgE
import Derived.Deep.RegionHeld3
namespace Go.Proofs.Ytolifmgkkkclkaa
open Go.RowKit
set_option linter.unusedSimpArgs false
set_option linter.unusedVariables false

/-- A box: its block, its type, its cells. -/
structure Bxs where
  g : Nat
  t : TypeId
  cs : Array Value
def ISt (W0 w : World) (L : List Rw) (Bs : List Bxs) : Prop := St W0 w L ∧ ∀ b ∈ Bs, Bx w b.g b.t b.cs ∧ b.t ≠ 3
section
variable {W0 w w' : World} {L L1 L2 : List Rw} {t : Rw} {Bs : List Bxs}
theorem ISt.start (w : World) (T : TypeId) (cs : Array Value) (ht : T ≠ 3) : ISt w (w.alloc (.cells cs T)) [] [⟨w.heap.size, T, cs⟩] :=
  ⟨(St.start w).alloc _, fun b hb => by
    obtain rfl := List.mem_singleton.1 hb
    exact ⟨Bx.new w T cs, ht⟩⟩
theorem ISt.call (h : ISt W0 w L Bs) (hb : Below w.heap.size w w') : ISt W0 w' L Bs := ⟨h.1.call hb, fun b hm => ⟨(h.2 b hm).1.below hb, (h.2 b hm).2⟩⟩
theorem ISt.add (h : ISt W0 w L Bs) {v : Value} {xs : List Int} (hO : Own w' w.heap.size v xs) (hb : Below w.heap.size w w') : ISt W0 w' (⟨w.heap.size, w'.heap.size, v, xs⟩ :: L) Bs := ⟨h.1.add hO hb, (h.call hb).2⟩
theorem ISt.box (h : ISt W0 w L Bs) (T : TypeId) (cs : Array Value) (ht : T ≠ 3) : ISt W0 (w.alloc (.cells cs T)) L (⟨w.heap.size, T, cs⟩ :: Bs) :=
  ⟨h.1.alloc _, fun b hb => by
    rcases List.mem_cons.1 hb with rfl | hm
    · exact ⟨Bx.new w T cs, ht⟩
    · exact ⟨(h.2 b hm).1.alloc _, (h.2 b hm).2⟩⟩
theorem ISt.mark (h : ISt W0 w (L1 ++ t :: L2) Bs) {ys : List Int} (hO : Own w' t.lo t.v ys) (hg : w.grownBy w' t.v.ownBlock) : ISt W0 w' (L1 ++ ⟨t.lo, t.hi, t.v, ys⟩ :: L2) Bs :=
  ⟨h.1.markG hO hg, fun b hm => ⟨(h.2 b hm).1.mark (h.2 b hm).2 (h.1.own t (by simp)) hg, (h.2 b hm).2⟩⟩
theorem ISt.drew (h : ISt W0 w L Bs) : ISt W0 w.drew L Bs := ⟨h.1.drew, fun b hm => h.2 b hm⟩
theorem ISt.drewN (h : ISt W0 w L Bs) (n : Nat) : ISt W0 (w.drewN n) L Bs := ⟨h.1.drewN n, fun b hm => h.2 b hm⟩
theorem ISt.empty (w : World) : ISt w w [] [] := ⟨St.start w, by simp⟩
theorem ISt.im (h : ISt W0 w L Bs) {g : Nat} {T : TypeId} {X Y Z : Int} {v : Value} (hm : ⟨g, T, imC X Y Z v⟩ ∈ Bs) : w.cell? ⟨g, 0, none⟩ = some (.int .i64 X) ∧ w.cell? ⟨g, 1, none⟩ = some (.int .i64 Y) ∧ w.cell? ⟨g, 2, none⟩ = some (.int .i64 Z) ∧ w.cell? ⟨g, 3, none⟩ = some v := (h.2 _ hm).1.im
theorem ISt.lt (h : ISt W0 w L Bs) {g : Nat} {T : TypeId} {cs : Array Value} (hm : ⟨g, T, cs⟩ ∈ Bs) : g < w.heap.size := (h.2 _ hm).1.lt
end
/-- What an exact law asks of a function from images to images. -/
def ImFn (f : FuncId) (W H P : Int) (xs : List Int) (X Y Z : Int) (ys : List Int) : Prop :=
  ∀ (A : Option Addr) (c : Nat) (w : World), Rds .i64 w w.heap.size A xs → xs.length ≤ c → Calls Try.prog f #[.agg #[.int .i64 W, .int .i64 H, .int .i64 P, .slice A xs.length c]] w (MadeI X Y Z ys w)
theorem im_keep {W W' : World} {g : Nat} {B : Nat} {u0 u1 u2 u3 : Option Value} (hB : Below B W W') (hg : g < B) (c0 : W.cell? ⟨g, 0, none⟩ = u0) (c1 : W.cell? ⟨g, 1, none⟩ = u1) (c2 : W.cell? ⟨g, 2, none⟩ = u2) (c3 : W.cell? ⟨g, 3, none⟩ = u3) :
    W'.cell? ⟨g, 0, none⟩ = u0 ∧ W'.cell? ⟨g, 1, none⟩ = u1 ∧ W'.cell? ⟨g, 2, none⟩ = u2 ∧ W'.cell? ⟨g, 3, none⟩ = u3 :=
  ⟨(hB.cell (p := ⟨g, 0, none⟩) hg).trans c0, (hB.cell (p := ⟨g, 1, none⟩) hg).trans c1, (hB.cell (p := ⟨g, 2, none⟩) hg).trans c2, (hB.cell (p := ⟨g, 3, none⟩) hg).trans c3⟩
end Go.Proofs.Ytolifmgkkkclkaa
