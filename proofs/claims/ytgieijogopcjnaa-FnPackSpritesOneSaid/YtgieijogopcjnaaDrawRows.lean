/- Contracts of the drawing of two rows, a kind and a step. -/
import Derived.Test.YtgieijogopcjnaaSpoil
import Derived.Maps.AppendAt
namespace Go.Proofs.Ytgieijogopcjnaa
open Go.RowKit
set_option linter.unusedSimpArgs false
set_option linter.unusedVariables false

/-- 'append' onto a row of the call's own, whatever the source; and where the new row lies. -/
theorem wp_app2 {w : World} {o : Oper} {a : Act} {K : Act → World → Prop} {Q : Exit → Act → World → Prop} (s x : Operand)
    (ho : o.op = .call { callee := .builtin .append, args := #[s, x], argTypes := #[49, 49] })
    (base : Nat) (v : Value) (xs : List Int) (hs : a.eval s = v) (hown : Own w base v xs)
    (A : Option Addr) (m c B : Nat) (ys : List Int) (hx : a.eval x = .slice A m c) (hm : m = ys.length) (hr : Rds .i64 w B A ys) (hl : xs.length + ys.length ≤ 10000000) (hbase : base ≤ w.heap.size)
    (h : ∀ v' w', Own w' base v' (xs ++ ys) → w.grownBy w' v.ownBlock → (v'.ownBlock = v.ownBlock ∨ v'.ownBlock = some w.heap.size) → K (a.put o.dst v') w') : o.wp Try.prog a w K Q := by
  obtain ⟨i, hi, hz, hsz, hb⟩ := info_parts info_int
  subst hm
  rcases A with _ | ad
  · have hy : ys = [] := by
      rcases hr with h | ⟨b, off, h, _⟩
      · exact h
      · cases h
    subst hy
    have hrun : (Builtin.append_ #[49, 49] o.type #[v, .slice none 0 c]).run Try.prog w = .ok v w := by
      rcases hown.2 with ⟨rfl, h0⟩ | ⟨g, cap, cur, rfl, _, _, hnc, _⟩
      · simp [Builtin.append_, run_underlying Try.underlying49, sizeOf, typeInfo, hi, Builtin.lenOf, Builtin.firstCells]
      · simp [Builtin.append_, run_underlying Try.underlying49, sizeOf, typeInfo, hi, Builtin.lenOf, Builtin.firstCells, hnc, storeCells]
    unfold Oper.wp
    simp [execOp, ho, resolve, invoke, builtin, hs, hx, hrun, Result.andThen]
    exact h v w (by simpa using hown) (World.grownBy.refl _ _) (.inl rfl)
  · have hnews : ∀ j u, (ys.map (Value.int .i64))[j]? = some u → w.cell? (ad.add j) = some u := by
      intro j u hu
      rcases hr with rfl | ⟨b, off, h1, _, hc⟩
      · simp at hu
      · obtain rfl := Option.some.inj h1
        have hj : j < ys.length := by
          rcases Nat.lt_or_ge j ys.length with h | h
          · exact h
          · simp [List.getElem?_eq_none h] at hu
        have hcj := hc j hj
        have e : (⟨b, off, none⟩ : Addr).add j = ⟨b, off + j, none⟩ := add_spot rfl j
        rw [e, hcj]
        simp [hj] at hu ⊢
        exact hu
    obtain ⟨v', w', hrun, h2, h3, _, h5⟩ := run_append_own_at (P := Try.prog) w base 49 o.type 3 i (.int .i64 0) 1 8 Try.underlying49 hi hz hsz hb rfl (by omega) v xs.length (xs.map (.int .i64)) hown ad ys.length c (ys.map (.int .i64)) (by simp) hnews (ints_oneCell _ _) (by unfold maxLen; omega) (by omega) hbase
    unfold Oper.wp execOp
    simp only [ho, resolve, invoke, builtin, Sem.run_bind, Sem.run_pure, Result.andThen_ok, List.map_toArray, List.map_cons, List.map_nil, hs, hx, hrun]
    exact h v' w' (by unfold Own; simpa using h2) h3 h5
theorem wpList_app2 {w : World} {ops : Array Oper} {rest : List Oper} {o : Oper} {a : Act} {Q : Exit → Act → World → Prop} (hgd : o.guard = none) (s x : Operand)
    (ho : o.op = .call { callee := .builtin .append, args := #[s, x], argTypes := #[49, 49] })
    (base : Nat) (v : Value) (xs : List Int) (hs : a.eval s = v) (hown : Own w base v xs)
    (A : Option Addr) (m c B : Nat) (ys : List Int) (hx : a.eval x = .slice A m c) (hm : m = ys.length) (hr : Rds .i64 w B A ys) (hl : xs.length + ys.length ≤ 10000000) (hbase : base ≤ w.heap.size)
    (h : ∀ v' w', Own w' base v' (xs ++ ys) → w.grownBy w' v.ownBlock → (v'.ownBlock = v.ownBlock ∨ v'.ownBlock = some w.heap.size) → wpList Try.prog ops Q rest (a.put o.dst v') w') : wpList Try.prog ops Q (o :: rest) a w :=
  wpList_plain hgd fun _ hK => wp_app2 s x ho base v xs hs hown A m c B ys hx hm hr hl hbase fun v' w' h1 h2 h3 => hK _ _ (h v' w' h1 h2 h3)
/-- Two slices that own no block together. -/
def Dj (u v : Value) : Prop := ∀ g, u.ownBlock = some g → v.ownBlock ≠ some g
theorem Dj.symm {u v : Value} (h : Dj u v) : Dj v u := fun g h1 h2 => h g h2 h1
/-- Behind an append to u, v is as it was. -/
theorem app_other {w w' : World} {base base2 : Nat} {u v u' : Value} {xs ys : List Int} {o : Obj} (hO : Own w base2 v ys) (hd : Dj u v) (hu : Own w base u xs) (hG : (w.alloc o).grownBy w' u.ownBlock) (hw : u'.ownBlock = u.ownBlock ∨ u'.ownBlock = some (w.alloc o).heap.size) : Own w' base2 v ys ∧ Dj u' v := by
  have hO1 := hO.alloc o
  refine ⟨hO1.keep fun g hg => hG.block g (hO1.lt g hg).2 (fun e => hd g e.symm hg), ?_⟩
  intro g hg hv
  rcases hw with h | h
  · exact hd g (h ▸ hg) hv
  · rw [h] at hg
    injection hg with hg
    have := (hO.lt g hv).2
    simp at hg
    omega
theorem app_rdr {g N : Nat} {w w' : World} {base : Nat} {u : Value} {xs : List Int} {o : Obj} (h : Rdr w g N) (hu : Own w base u xs) (hb : g < base) (hG : (w.alloc o).grownBy w' u.ownBlock) : Rdr w' g N :=
  (h.alloc o).grown hG (fun k hk => by have := (hu.lt k hk).1; omega)
theorem app_grown {g : Nat} {W w w' : World} {u : Value} {xs : List Int} {o : Obj} (h : W.grownBy w (some g)) (hu : Own w W.heap.size u xs) (hG : (w.alloc o).grownBy w' u.ownBlock) : W.grownBy w' (some g) :=
  gmix (gtrans h (World.grownBy_alloc w o (some g))) hG (fun j hj => (hu.lt j hj).1)
end Go.Proofs.Ytgieijogopcjnaa
