/- A size appended to a slice of sizes. -/
import Derived.Test.YtgieijogopcjnaaOwnT
namespace Go.Proofs.Ytgieijogopcjnaa
open Go.RowKit
set_option linter.unusedSimpArgs false
set_option linter.unusedVariables false
set_option maxRecDepth 20000

theorem infoT_Size : (Try.prog.info? 44).map (fun i => (i.zero, i.size, i.bytes)) = some (some (.agg #[.int .i64 0, .int .i64 0]), 2, 16) := by kernel_rfl
theorem wpList_appSize {w : World} {ops : Array Oper} {rest : List Oper} {o : Oper} {a : Act} {Q : Exit → Act → World → Prop} (hgd : o.guard = none) (s x : Operand)
    (ho : o.op = .call { callee := .builtin .append, args := #[s, x], argTypes := #[34, 34] })
    (base : Nat) (v : Value) (n : Nat) (xs : List Int) (hs : a.eval s = v) (hown : OwnT 44 2 w base v n xs)
    (b m c : Nat) (ys : List Int) (hx : a.eval x = .slice (some ⟨b, 0, .none⟩) m c) (hm : ys.length = m * 2) (hr : ∀ j, j < ys.length → w.cell? ⟨b, j, .none⟩ = some (.int .i64 (ys.getD j 0))) (hl : n + m ≤ 1000000) (hbase : base ≤ w.heap.size)
    (h : ∀ v' w', OwnT 44 2 w' base v' (n + m) (xs ++ ys) → w.grownBy w' v.ownBlock → wpList Try.prog ops Q rest (a.put o.dst v') w') : wpList Try.prog ops Q (o :: rest) a w := by
  obtain ⟨i, hi, hz, hsz, hb⟩ := info_parts infoT_Size
  refine wpList_append_own w hgd s x 34 ho base 44 i (.agg #[.int .i64 0, .int .i64 0]) 2 16 Try.underlying34 hi hz hsz hb rfl (by omega) v n (xs.map (.int .i64)) hs hown ⟨b, 0, .none⟩ m c (ys.map (.int .i64)) hx (by simpa using hm) ?_ (ints_oneCell _ _)
    (by unfold maxLen; omega) (by omega) hbase ?_
  · intro j u hu
    have hj : j < ys.length := by
      rcases Nat.lt_or_ge j ys.length with h | h
      · exact h
      · simp [List.getElem?_eq_none h] at hu
    have e : (⟨b, 0, .none⟩ : Addr).add j = ⟨b, j, .none⟩ := (add_spot rfl j).trans (by simp)
    rw [e, hr j hj]
    simp [hj] at hu ⊢
    exact hu
  · intro v' w' ho' hg _
    exact h v' w' (by unfold OwnT; simpa using ho') hg
end Go.Proofs.Ytgieijogopcjnaa
