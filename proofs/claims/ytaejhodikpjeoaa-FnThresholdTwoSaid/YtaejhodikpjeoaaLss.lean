/- A slice of slices that grows: its row of slices and the rows that they lead to. -/
import Derived.Test.YtaejhodikpjeoaaLsl
import Derived.Shelf.Abstract
namespace Go.Proofs.Ytaejhodikpjeoaa
open Go.RowKit Go.Shelf
set_option linter.unusedSimpArgs false
set_option linter.unusedVariables false

theorem rds_blk {k : IntKind} {w w' : World} {B B' : Nat} {A : Option Addr} {xs : List Int} (h : Rds k w B A xs) (hk : 0 < xs.length → ∀ a : Addr, A = some a → a.block < B → w'.heap[a.block]? = w.heap[a.block]? ∧ a.block < B') : Rds k w' B' A xs := by
  rcases h with h | ⟨b, off, rfl, hb, hc⟩
  · exact .inl h
  · rcases Nat.eq_zero_or_pos xs.length with h0 | h0
    · exact .inl (List.eq_nil_of_length_eq_zero h0)
    · have h1 := hk h0 _ rfl hb
      exact .inr ⟨b, off, rfl, h1.2, fun j hj => (World.cell?_of_block (a := ⟨b, off + j, none⟩) h1.1).trans (hc j hj)⟩
/-- The slice v of the call's own holds the lists xss. -/
def Lss (wr : World) (base : Nat) (v : Value) (xss : List (List Int)) : Prop :=
  base ≤ wr.heap.size ∧ ∃ cs : List Value, wr.ownsRow base 22 1 v xss.length cs ∧ ∀ i, i < xss.length → ∃ (Ai : Option Addr) (ci : Nat), (xss.getD i []).length ≤ ci ∧ cs[i]? = some (.slice Ai (xss.getD i []).length ci) ∧ Rds .i64 wr wr.heap.size Ai (xss.getD i []) ∧ (0 < (xss.getD i []).length → ∀ a : Addr, Ai = some a → base ≤ a.block ∧ a.block < wr.heap.size ∧ v.ownBlock ≠ some a.block)
theorem Lss.none (w : World) : Lss (w.alloc (.cells #[] 22)) w.heap.size (.slice (some ⟨w.heap.size, 0, .none⟩) 0 0) [] :=
  ⟨by simp, [], World.ownsRow_made w #[] 0 (Nat.le_refl _) (Nat.zero_le _) (by simp), fun i hi => by simp at hi⟩
theorem Lss.nil (w : World) : Lss w w.heap.size (.slice .none 0 0) [] :=
  ⟨Nat.le_refl _, [], World.ownsRow_nil _ _ _ _, fun i hi => by simp at hi⟩
section
variable {w w' : World} {base : Nat} {v : Value} {xss : List (List Int)}
theorem Lss.move (h : Lss w base v xss) (hs : w.heap.size ≤ w'.heap.size) (hk : ∀ g, base ≤ g → g < w.heap.size → w'.heap[g]? = w.heap[g]?) : Lss w' base v xss := by
  obtain ⟨hb, cs, hO, hR⟩ := h
  refine ⟨Nat.le_trans hb hs, cs, ownsRow_keep hO fun g hg => hk g (World.ownsRow.lt hO g hg).1 (World.ownsRow.lt hO g hg).2, fun i hi => ?_⟩
  obtain ⟨Ai, ci, h1, h2, h3, h4⟩ := hR i hi
  exact ⟨Ai, ci, h1, h2, rds_blk h3 (fun h0 a ha hl => ⟨hk _ (h4 h0 a ha).1 hl, by omega⟩), fun h0 a ha => ⟨(h4 h0 a ha).1, Nat.lt_of_lt_of_le (h4 h0 a ha).2.1 hs, (h4 h0 a ha).2.2⟩⟩
theorem Lss.off (h : Lss w base v xss) {g : Nat} (hG : w.grownBy w' (some g)) (hg : g < base) : Lss w' base v xss :=
  h.move hG.size fun k h1 h2 => hG.block k h2 (fun e => by injection e with e; omega)
theorem Lss.below (h : Lss w base v xss) (hB : Below w.heap.size w w') : Lss w' base v xss := h.move hB.size fun k _ h2 => hB.block k h2
theorem Lss.alloc (h : Lss w base v xss) (o : Obj) : Lss (w.alloc o) base v xss := h.below ((Below.refl _ _).alloc (Nat.le_refl _) _)
theorem Lss.slice (h : Lss w base v xss) : ∃ A c, v = .slice A xss.length c ∧ xss.length ≤ c := by
  obtain ⟨hb, cs, hO, hR⟩ := h
  rcases hO.2 with ⟨h0, h1⟩ | ⟨g, cap, cur, hv, _, _, hnc, _⟩
  · exact ⟨.none, 0, by rw [h0, h1], by omega⟩
  · exact ⟨_, cap, hv, hnc⟩
theorem Lss.rdss {A : Option Addr} {n c : Nat} (h : Lss w base (.slice A n c) xss) : Rdss w w.heap.size A xss := by
  obtain ⟨hb, cs, hO, hR⟩ := h
  rcases hO.2 with ⟨h0, h1⟩ | ⟨g, cap, cur, hv, hbg, hg, hnc, hcm, hcs, ht⟩
  · exact .inl (List.eq_nil_of_length_eq_zero h1)
  · simp only [Value.slice.injEq] at hv
    obtain ⟨rfl, rfl, rfl⟩ := hv
    refine .inr ⟨g, 0, rfl, ?_, fun i hi => ?_⟩
    · rcases Nat.lt_or_ge g w.heap.size with h' | h'
      · exact h'
      · rw [Array.getElem?_eq_none h'] at hg; cases hg
    · obtain ⟨Ai, ci, h1, h2, h3, _⟩ := hR i hi
      refine ⟨Ai, ci, h1, ?_, h3⟩
      rw [Nat.zero_add, World.ownsRow.cellAt hO i (by omega)]
      exact h2
theorem info_list : (Try.prog.info? 22).map (fun i => (i.zero, i.size, i.bytes)) = some (some (.slice .none 0 0), 1, 24) := by kernel_rfl
theorem wpList_appL {ops : Array Oper} {rest : List Oper} {o : Oper} {a : Act} {Q : Exit → Act → World → Prop} (hgd : o.guard = .none) (s x : Operand)
    (ho : o.op = .call { callee := .builtin .append, args := #[s, x], argTypes := #[34, 34] })
    (base : Nat) (v : Value) (xss : List (List Int)) (hs : a.eval s = v) (hL : Lss w base v xss)
    (p c : Nat) (A3 : Option Addr) (ys : List Int) (n3 c3 : Nat) (hx : a.eval x = .slice (some ⟨p, 0, .none⟩) 1 c) (hn3 : n3 = ys.length) (hcell : w.cell? ⟨p, 0, .none⟩ = some (.slice A3 n3 c3)) (hys : ys.length ≤ c3)
    (hr : Rds .i64 w w.heap.size A3 ys) (hsep : 0 < ys.length → ∀ a : Addr, A3 = some a → base ≤ a.block ∧ a.block < w.heap.size ∧ v.ownBlock ≠ some a.block) (hn : xss.length ≤ 1000)
    (h : ∀ v' w', Lss w' base v' (xss ++ [ys]) → w.grownBy w' v.ownBlock → (∀ g, v.ownBlock = some g → base ≤ g) → wpList Try.prog ops Q rest (a.put o.dst v') w') : wpList Try.prog ops Q (o :: rest) a w := by
  subst hn3
  obtain ⟨hbase, cs, hown, hR⟩ := hL
  refine wpList_plain hgd fun _ hK => ?_
  obtain ⟨i, hi, hz, hsz, hb⟩ := info_parts info_list
  have hnews : ∀ j u, [Value.slice A3 ys.length c3][j]? = some u → w.cell? ((⟨p, 0, .none⟩ : Addr).add j) = some u := by
    intro j u hu
    match j with
    | 0 => simp at hu; subst hu; simpa [Addr.add] using hcell
    | j + 1 => simp at hu
  have h1 : ∀ u ∈ [Value.slice A3 ys.length c3], u.oneCell' = true := by intro u hu; simp at hu; subst hu; rfl
  obtain ⟨v', w', hrun, h2, h3, h4⟩ := run_append_own (P := Try.prog) w base 34 o.type 22 i _ 1 24 Try.underlying34 hi hz hsz hb rfl (by omega) v xss.length cs hown ⟨p, 0, .none⟩ 1 c [.slice A3 ys.length c3] (by simp) hnews h1 (by unfold maxLen; omega) (by omega) hbase
  have hwh : ∀ g, v'.ownBlock = some g → v.ownBlock = some g ∨ w.heap.size ≤ g := by
    rcases hown.2 with ⟨rfl, h0⟩ | ⟨g0, cap, cur, rfl, hbg, hg, hnc, hcm, hcs, htake⟩
    · have hx0 : cs = [] := List.eq_nil_of_length_eq_zero (by have := hown.1; omega)
      subst hx0
      obtain ⟨v2, w2, hr2, h22, _⟩ := run_append_own (P := Try.prog) w w.heap.size 34 o.type 22 i _ 1 24 Try.underlying34 hi hz hsz hb rfl (by omega) (.slice .none 0 0) 0 [] (World.ownsRow_nil _ _ _ _) ⟨p, 0, .none⟩ 1 c [.slice A3 ys.length c3] (by simp) hnews h1 (by unfold maxLen; omega) (by omega) (Nat.le_refl _)
      rw [hrun] at hr2
      injection hr2 with e1 e2
      subst e1
      intro g hg
      exact .inr (h22.lt g hg).1
    · intro g hg'
      by_cases hroom : xss.length + 1 ≤ cap
      · have hr2 := run_append_room (P := Try.prog) w 34 o.type 22 i Try.underlying34 hi g0 xss.length cap cur hg ⟨p, 0, .none⟩ 1 c [.slice A3 ys.length c3] (by simp [hsz]) hnews h1 hroom (by rw [hsz, hcs]; simp; omega)
        rw [hrun] at hr2
        injection hr2 with e1 e2
        subst e1
        exact .inl hg'
      · have hr2 := run_append_grow (P := Try.prog) w 34 o.type 22 i _ Try.underlying34 hi hz ⟨g0, 0, .none⟩ xss.length cap cs (by rw [hsz]; exact hown.1) (World.ownsRow.cells hown (g := g0) rfl) ⟨p, 0, .none⟩ 1 c [.slice A3 ys.length c3] (by simp [hsz]) hnews (by omega) (by omega) (growslice_fits (by omega) (by rw [hb]; omega))
        rw [hrun] at hr2
        injection hr2 with e1 e2
        subst e1
        right
        simp [Value.ownBlock] at hg'
        omega
  have hlen : cs.length = xss.length := by have := hown.1; omega
  have hLn : Lss w' base v' (xss ++ [ys]) := by
    refine ⟨Nat.le_trans hbase h3.size, cs ++ [.slice A3 ys.length c3], by simpa using h2, fun j hj => ?_⟩
    have keep : ∀ {B : Option Addr} {xs : List Int}, Rds .i64 w w.heap.size B xs → (0 < xs.length → ∀ a : Addr, B = some a → v.ownBlock ≠ some a.block) → Rds .i64 w' w'.heap.size B xs := fun hr hs => rds_blk hr fun h0 a ha hl => ⟨h3.block _ hl (fun e => hs h0 a ha e.symm), Nat.lt_of_lt_of_le hl h3.size⟩
    have sep : ∀ a : Addr, a.block < w.heap.size → v.ownBlock ≠ some a.block → v'.ownBlock ≠ some a.block := fun a hl hne e => by
      rcases hwh _ e with h | h
      · exact hne h
      · omega
    have hsz2 := h3.size
    by_cases e : j = xss.length
    · subst e
      have e1 : (xss ++ [ys]).getD xss.length [] = ys := by simp [List.getD_eq_getElem?_getD]
      rw [e1]
      refine ⟨A3, c3, hys, by rw [← hlen, List.getElem?_append_right (Nat.le_refl _), Nat.sub_self]; rfl, keep hr (fun h0 a ha => (hsep h0 a ha).2.2), fun h0 a ha => ⟨(hsep h0 a ha).1, by have := (hsep h0 a ha).2.1; omega, sep a (hsep h0 a ha).2.1 (hsep h0 a ha).2.2⟩⟩
    · have hj2 : j < xss.length := by simp at hj; omega
      have e1 : (xss ++ [ys]).getD j [] = xss.getD j [] := by simp [List.getD_eq_getElem?_getD, List.getElem?_append_left hj2]
      rw [e1]
      obtain ⟨Aj, cj, k1, k2, k3, k4⟩ := hR j hj2
      exact ⟨Aj, cj, k1, by rw [List.getElem?_append_left (by omega)]; exact k2, keep k3 (fun h0 a ha => (k4 h0 a ha).2.2), fun h0 a ha => ⟨(k4 h0 a ha).1, by have := (k4 h0 a ha).2.1; omega, sep a (k4 h0 a ha).2.1 (k4 h0 a ha).2.2⟩⟩
  unfold Oper.wp execOp
  simp only [ho, resolve, invoke, builtin, Sem.run_bind, Sem.run_pure, Result.andThen_ok, List.map_toArray, List.map_cons, List.map_nil, hs, hx, hrun]
  exact hK _ _ (h v' w' hLn h3 (fun g hg => (World.ownsRow.lt hown g hg).1))
/-- A list is put in place of another. -/
theorem Lss.put {A : Option Addr} {n c : Nat} (h : Lss w base (.slice A n c) xss) {i : Nat} (hi : i < xss.length) {A3 : Option Addr} {c3 : Nat} {ys : List Int} (hys : ys.length ≤ c3) (hr : Rds .i64 w w.heap.size A3 ys) (hsep : 0 < ys.length → ∀ a : Addr, A3 = some a → base ≤ a.block ∧ a.block < w.heap.size ∧ (Value.slice A n c).ownBlock ≠ some a.block) :
    ∃ g, A = some ⟨g, 0, .none⟩ ∧ base ≤ g ∧ (∃ y, w.cell? ⟨g, i, .none⟩ = some y) ∧ w.frozen? ⟨g, i, .none⟩ = false ∧ w.grownBy (w.setCell ⟨g, i, .none⟩ (.slice A3 ys.length c3)) (some g) ∧ Lss (w.setCell ⟨g, i, .none⟩ (.slice A3 ys.length c3)) base (.slice A n c) (xss.set i ys) := by
  obtain ⟨hb, cs, hO, hR⟩ := h
  have hlen : cs.length = xss.length := by have := hO.1; omega
  rcases hO.2 with ⟨h0, h1⟩ | ⟨g, cap, cur, hv, hbg, hg, hnc, hcm, hcs, ht⟩
  · omega
  · simp only [Value.slice.injEq] at hv
    obtain ⟨rfl, rfl, rfl⟩ := hv
    have hst := World.ownsRow.stored hO i (.slice A3 ys.length c3)
    refine ⟨g, rfl, hbg, ⟨cs[i]'(by omega), by rw [World.ownsRow.cellAt hO i (by omega)]; exact List.getElem?_eq_getElem (by omega)⟩, World.ownsRow.frozenAt hO i, hst.2, ?_⟩
    have hs := hst.2.size
    have keep : ∀ {B : Option Addr} {xs : List Int}, Rds .i64 w w.heap.size B xs → (0 < xs.length → ∀ a : Addr, B = some a → (Value.slice (some ⟨g, 0, .none⟩) xss.length c).ownBlock ≠ some a.block) → Rds .i64 (w.setCell ⟨g, i, .none⟩ (.slice A3 ys.length c3)) (w.setCell ⟨g, i, .none⟩ (.slice A3 ys.length c3)).heap.size B xs := fun hr hs2 => rds_blk hr fun h0 a ha hl => ⟨hst.2.block _ hl (fun e => hs2 h0 a ha e.symm), Nat.lt_of_lt_of_le hl hs⟩
    refine ⟨Nat.le_trans hb hs, cs.set i (.slice A3 ys.length c3), by rw [List.length_set]; exact hst.1, fun j hj => ?_⟩
    rw [List.length_set] at hj
    by_cases e : j = i
    · subst e
      have e1 : (xss.set j ys).getD j [] = ys := by simp [List.getD_eq_getElem?_getD, hj]
      rw [e1]
      exact ⟨A3, c3, hys, by rw [List.getElem?_set_self (by omega)], keep hr (fun h0 a ha => (hsep h0 a ha).2.2), fun h0 a ha => ⟨(hsep h0 a ha).1, by have := (hsep h0 a ha).2.1; omega, (hsep h0 a ha).2.2⟩⟩
    · have e1 : (xss.set i ys).getD j [] = xss.getD j [] := by simp [List.getD_eq_getElem?_getD, List.getElem?_set_ne (Ne.symm e)]
      rw [e1]
      obtain ⟨Aj, cj, k1, k2, k3, k4⟩ := hR j hj
      exact ⟨Aj, cj, k1, by rw [List.getElem?_set_ne (Ne.symm e)]; exact k2, keep k3 (fun h0 a ha => (k4 h0 a ha).2.2), fun h0 a ha => ⟨(k4 h0 a ha).1, by have := (k4 h0 a ha).2.1; omega, (k4 h0 a ha).2.2⟩⟩
end
end Go.Proofs.Ytaejhodikpjeoaa
