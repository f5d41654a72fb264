/- Contracts of colors and grids: a color is an array of four numbers, a grid of colors a list of four numbers a cell. -/
import Derived.Test.YtfeldhhbnhdodaaProg
import Derived.WalkKit
import Derived.Laws.CopyOwn
import Derived.Shelf.Abstract
import Derived.Test.YtfeldhhbnhdodaaImgE
import Derived.Test.YtfeldhhbnhdodaaPix
namespace Go.Proofs.Ytfeldhhbnhdodaa
open Go.RowKit
set_option linter.unusedSimpArgs false
set_option linter.unusedVariables false

/-- The value of a color. -/
def colV (c : Nat → Int) : Value := .agg #[.int .i64 (c 0), .int .i64 (c 1), .int .i64 (c 2), .int .i64 (c 3)]
theorem below_dn {B : Nat} {a w : World} (h : Below B a w) (n : Nat) : Below B a (w.drewN n) := ⟨h.os, h.tape, h.output, h.size, h.block⟩
theorem info_color : (Try.prog.info? 66).map (fun i => (i.zero, i.size, i.bytes)) = some (some (.agg #[.int .i64 0, .int .i64 0, .int .i64 0, .int .i64 0]), 4, 32) := by kernel_rfl
set_option maxHeartbeats 4000000 in
theorem colorOf_any (A : Option Addr) (c : Nat) (q : List Int) (w : World) (h : Rds .i64 w w.heap.size A q) (hl : q.length ≤ 4) :
    Calls Try.prog 60 #[.slice A q.length c] w fun e w' => e = .returned (colV (fun p => q.getD p 0)) ∧ Below w.heap.size w w' := by
  have Hh := Lib.hid h
  clear h
  go_enter Try.func60, Try.ntmps60
  go_wp2_with (with_reducible refine wpList_copy_splice rfl (.tmp 4) (.tmp 5) 23 23 rfl 3 Try.underlying23 (by kernel_rfl) _ _ _ _ _ _ rfl rfl (w.heap.size + 1) 0 [.int .i64 0, .int .i64 0, .int .i64 0, .int .i64 0] 66 ?_ (q.map (.int .i64)) ?_ ?_ ?_ ?_ (w.heap.size + 1) (w.alloc (.cells #[.int .i64 0, .int .i64 0, .int .i64 0, .int .i64 0] 66)) ?_ ?_ ?_)
  · have := heap_alloc_new (w.alloc (.cells #[.int .i64 0, .int .i64 0, .int .i64 0, .int .i64 0] 66)) (.cells #[.int .i64 0, .int .i64 0, .int .i64 0, .int .i64 0] 66)
    simpa using this
  · rw [List.length_map]; exact (Nat.min_eq_left hl).symm
  · intro h0
    obtain ⟨b, off, hA, hb, hc⟩ := Hh.out.cells_ (j := 0) (by simpa using h0)
    refine ⟨_, hA, fun j v hv => ?_⟩
    have hj : j < q.length := by
      rcases Nat.lt_or_ge j q.length with h | h
      · exact h
      · simp [List.getElem?_eq_none h] at hv
    rw [add_spot rfl, World.cell?_alloc_lt _ _ _ (by simp; omega), World.cell?_alloc_lt _ _ _ hb]
    rw [hc j hj]
    simp [hj] at hv ⊢
    exact hv
  · simp; omega
  · exact ints_oneCell _ _
  · exact (Below.refl _ _).alloc (by simp) _
  · omega
  · intro w' hw' hB
    have hr : w'.heap[w.heap.size]? = some (.cells #[.int .i64 0, .int .i64 0, .int .i64 0, .int .i64 0] 66 (0, 0)) := (hB.block _ (by omega)).trans (heap_alloc_new w _)
    have r0 := cell_of_row w' w.heap.size 0 _ _ _ hr
    have r1 := cell_of_row w' w.heap.size 1 _ _ _ hr
    have r2 := cell_of_row w' w.heap.size 2 _ _ _ hr
    have r3 := cell_of_row w' w.heap.size 3 _ _ _ hr
    have f0 := frozen_of_row w' w.heap.size 0 _ _ hr
    have f1 := frozen_of_row w' w.heap.size 1 _ _ hr
    have f2 := frozen_of_row w' w.heap.size 2 _ _ hr
    have f3 := frozen_of_row w' w.heap.size 3 _ _ hr
    have HW : Hid (Below w.heap.size w w') := Lib.hid (((Below.refl w.heap.size w).alloc (Nat.le_refl _) _).trans (hB.mono (by omega)))
    have hq : ∃ a b c d, w'.cell? ⟨w.heap.size + 1, 0, none⟩ = some (.int .i64 a) ∧ w'.cell? ⟨w.heap.size + 1, 1, none⟩ = some (.int .i64 b) ∧ w'.cell? ⟨w.heap.size + 1, 2, none⟩ = some (.int .i64 c) ∧ w'.cell? ⟨w.heap.size + 1, 3, none⟩ = some (.int .i64 d) ∧ Hid (colV (fun p => q.getD p 0) = .agg #[.int .i64 a, .int .i64 b, .int .i64 c, .int .i64 d]) := by
      have h := hw'.out
      have e0 := cell_of_row w' (w.heap.size + 1) 0 _ _ _ h
      have e1 := cell_of_row w' (w.heap.size + 1) 1 _ _ _ h
      have e2 := cell_of_row w' (w.heap.size + 1) 2 _ _ _ h
      have e3 := cell_of_row w' (w.heap.size + 1) 3 _ _ _ h
      rw [e0, e1, e2, e3]
      clear hw' h e0 e1 e2 e3 Hh
      match q, hl with
      | [], _ => exact ⟨_, _, _, _, rfl, rfl, rfl, rfl, Lib.hid rfl⟩
      | [_], _ => exact ⟨_, _, _, _, rfl, rfl, rfl, rfl, Lib.hid rfl⟩
      | [_, _], _ => exact ⟨_, _, _, _, rfl, rfl, rfl, rfl, Lib.hid rfl⟩
      | [_, _, _], _ => exact ⟨_, _, _, _, rfl, rfl, rfl, rfl, Lib.hid rfl⟩
      | [_, _, _, _], _ => exact ⟨_, _, _, _, rfl, rfl, rfl, rfl, Lib.hid rfl⟩
    obtain ⟨x0, x1, x2, x3, q0, q1, q2, q3, HQ⟩ := hq
    clear hr hw' hB Hh
    go_wp2
    exact bodyPost_ret (v := .agg #[.int .i64 x0, .int .i64 x1, .int .i64 x2, .int .i64 x3]) (by simp [results, Try.results60, go_sem, r0, r1, r2, r3]) rfl ⟨by rw [HQ.out], by (repeat' (first | (exact HW.out) | (refine Below.setCell ?_ (by first | omega | (simp; done) | (simp; omega)) _) | (refine below_dn ?_ _) | (refine Below.drew ?_) | (refine Below.alloc ?_ (by first | omega | (simp; done) | (simp; omega)) _) | (exact Below.refl _ _)))⟩
/-- The slice v owns a row of n colors, told as a list of four numbers each. -/
def OwnC (w : World) (base : Nat) (v : Value) (n : Nat) (xs : List Int) : Prop := w.ownsRow base 66 4 v n (xs.map (.int .i64))
theorem OwnC.len {w : World} {base : Nat} {v : Value} {n : Nat} {xs : List Int} (h : OwnC w base v n xs) : xs.length = n * 4 := by simpa using h.1
theorem OwnC.below {w w' : World} {B base : Nat} {v : Value} {n : Nat} {xs : List Int} (h : OwnC w base v n xs) (hb : Below B w w') (hB : w.heap.size ≤ B) : OwnC w' base v n xs := by
  refine ⟨h.1, ?_⟩
  rcases h.2 with h2 | ⟨g, cap, cur, hv, hbg, hg, r⟩
  · exact .inl h2
  · have hlt : g < w.heap.size := (World.ownsRow.lt h g (by rw [hv]; rfl)).2
    exact .inr ⟨g, cap, cur, hv, hbg, (hb.block g (by omega)).trans hg, r⟩
theorem OwnC.rds {w : World} {base : Nat} {A : Option Addr} {n c : Nat} {xs : List Int} (h : OwnC w base (.slice A n c) n xs) : Rds .i64 w w.heap.size A xs := by
  have hl := h.len
  rcases h.2 with ⟨h0, h1⟩ | ⟨g, cap, cur, hv, hbg, hg, hnc, hcm, hcs, ht⟩
  · subst h1
    exact .inl (List.eq_nil_of_length_eq_zero (by omega))
  · simp only [Value.slice.injEq] at hv
    obtain ⟨rfl, _, rfl⟩ := hv
    refine .inr ⟨g, 0, rfl, (World.ownsRow.lt h g rfl).2, fun j hj => ?_⟩
    rw [Nat.zero_add, World.ownsRow.cellAt h j (by omega)]
    simp [List.getElem?_eq_getElem hj]
/-- 'append' of one color onto a row of colors of the call's own. -/
theorem wpList_appC {w : World} {ops : Array Oper} {rest : List Oper} {o : Oper} {a : Act} {Q : Exit → Act → World → Prop} (hgd : o.guard = none) (s x : Operand)
    (ho : o.op = .call { callee := .builtin .append, args := #[s, x], argTypes := #[60, 60] })
    (base : Nat) (v : Value) (n : Nat) (xs : List Int) (hs : a.eval s = v) (hown : OwnC w base v n xs)
    (p c : Nat) (q : List Int) (hx : a.eval x = .slice (some ⟨p, 0, none⟩) 1 c) (hq : q.length = 4) (hr : ∀ j, j < 4 → w.cell? ⟨p, j, none⟩ = some (.int .i64 (q.getD j 0))) (hl : n ≤ 1000000) (hbase : base ≤ w.heap.size)
    (h : ∀ v' w', OwnC w' base v' (n + 1) (xs ++ q) → w.grownBy w' v.ownBlock → wpList Try.prog ops Q rest (a.put o.dst v') w') : wpList Try.prog ops Q (o :: rest) a w := by
  obtain ⟨i, hi, hz, hsz, hb⟩ := info_parts info_color
  refine wpList_append_own w hgd s x 60 ho base 66 i _ 4 32 Try.underlying60 hi hz hsz hb rfl (by omega) v n (xs.map (.int .i64)) hs hown ⟨p, 0, none⟩ 1 c (q.map (.int .i64)) hx (by simp [hq]) ?_ (ints_oneCell _ _)
      (by unfold maxLen; omega) (by omega) hbase ?_
  · intro j u hu
    have hj : j < q.length := by
      rcases Nat.lt_or_ge j q.length with h | h
      · exact h
      · simp [List.getElem?_eq_none h] at hu
    rw [add_spot rfl, Nat.zero_add, hr j (by omega)]
    simp [hj] at hu ⊢
    exact hu
  · intro v' w' ho' hg _
    exact h v' w' (by unfold OwnC; simpa using ho') hg
end Go.Proofs.Ytfeldhhbnhdodaa
