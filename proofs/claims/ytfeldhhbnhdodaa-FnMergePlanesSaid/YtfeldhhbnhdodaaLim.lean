/- A slice of images of the call's own, whose numbers can be read: it outlives writes elsewhere, and grows. -/
import Derived.Test.YtfeldhhbnhdodaaIma
namespace Go.Proofs.Ytfeldhhbnhdodaa
open Go.RowKit Go.Shelf
set_option linter.unusedSimpArgs false
set_option linter.unusedVariables false

theorem rdsBlk {k : IntKind} {w w' : World} {B B' : Nat} {A : Option Addr} {xs : List Int} (h : Rds k w B A xs) (hk : 0 < xs.length → ∀ a : Addr, A = some a → a.block < B → w'.heap[a.block]? = w.heap[a.block]? ∧ a.block < B') : Rds k w' B' A xs := by
  rcases h with h | ⟨b, off, rfl, hb, hc⟩
  · exact .inl h
  · rcases Nat.eq_zero_or_pos xs.length with h0 | h0
    · exact .inl (List.eq_nil_of_length_eq_zero h0)
    · have h1 := hk h0 _ rfl hb
      exact .inr ⟨b, off, rfl, h1.2, fun j hj => (World.cell?_of_block (a := ⟨b, off + j, none⟩) h1.1).trans (hc j hj)⟩
/-- The slice v of the call's own holds the images ms. -/
def Lim (wr : World) (base : Nat) (v : Value) (ms : List Imv) : Prop :=
  base ≤ wr.heap.size ∧ ∃ cs : List Value, wr.ownsRow base 25 4 v ms.length cs ∧ ∀ i, i < ms.length → ∃ (Ai : Option Addr) (ci : Nat), (imv ms i).ds.length ≤ ci ∧
    cs[i * 4]? = some (.int .i64 (imv ms i).X) ∧ cs[i * 4 + 1]? = some (.int .i64 (imv ms i).Y) ∧ cs[i * 4 + 2]? = some (.int .i64 (imv ms i).Z) ∧ cs[i * 4 + 3]? = some (.slice Ai (imv ms i).ds.length ci) ∧
    Rds .i64 wr wr.heap.size Ai (imv ms i).ds ∧ (0 < (imv ms i).ds.length → ∀ a : Addr, Ai = some a → base ≤ a.block ∧ a.block < wr.heap.size ∧ v.ownBlock ≠ some a.block)
section
variable {w w' : World} {base : Nat} {v : Value} {ms : List Imv}
theorem Lim.of (h : ImS w w' v ms [] []) : Lim w' w.heap.size v ms := by
  obtain ⟨M, A, c, rfl, hc, ⟨lo, hi, cs, R, rfl, hR, hcs, hm⟩, hG⟩ := h
  rw [List.append_nil] at hG
  have h1 := hG.2.1 (hdrI lo hi A ms.length c cs) (by simp)
  refine ⟨hG.1.size, cs, ownsRow_le h1.1.1 h1.2.1, fun i hi2 => ?_⟩
  obtain ⟨E, l2, h2, Ai, ci, c', k1, k2, k3, k4, k5, k6⟩ := hm i hi2
  have hmem : rt E 1 l2 h2 (.slice Ai (imv ms i).ds.length c') (imv ms i).ds.length (imv ms i).ds ∈ hdrI lo hi A ms.length c cs :: R := List.mem_cons_of_mem _ (List.mem_of_getElem? k6)
  have h3 := hG.2.1 _ hmem
  refine ⟨Ai, ci, k1, k2, k3, k4, k5, hG.rdsT hmem, fun h0 a ha => ?_⟩
  rcases h3.1.1.2 with ⟨e0, e1⟩ | ⟨g, cap, cur, hv, hbg, hg, r⟩
  · simp only [rt, Value.slice.injEq] at e0; omega
  · simp only [rt, Value.slice.injEq] at hv
    rw [ha] at hv
    obtain ⟨hv, _, _⟩ := hv
    injection hv with hv
    subst hv
    have hlt := World.ownsRow.lt h3.1.1 g (by simp [rt, ha, Value.ownBlock])
    have hap : (rt E 1 l2 h2 (.slice Ai (imv ms i).ds.length c') (imv ms i).ds.length (imv ms i).ds).apart (hdrI lo hi A ms.length c cs) := ((List.pairwise_cons.1 hG.2.2.1).1 _ (List.mem_of_getElem? k6)).symm
    have hh := h3.1.2 g (by simp [rt, ha, Value.ownBlock])
    refine ⟨?_, hlt.2, fun e => ?_⟩
    · show w.heap.size ≤ g
      have := h3.2.1; have := hlt.1; omega
    have hl1 := World.ownsRow.lt h1.1.1 g e
    have hl2 := h1.1.2 g e
    rcases hap with q | q
    · simp only [rt, hdrI] at q hl2 hlt; omega
    · simp only [rt, hdrI] at q hl1 hh; omega
theorem Lim.move (h : Lim w base v ms) (hs : w.heap.size ≤ w'.heap.size) (hk : ∀ g, base ≤ g → g < w.heap.size → w'.heap[g]? = w.heap[g]?) : Lim w' base v ms := by
  obtain ⟨hb, cs, hO, hR⟩ := h
  refine ⟨Nat.le_trans hb hs, cs, ownsRow_keep hO fun g hg => hk g (World.ownsRow.lt hO g hg).1 (World.ownsRow.lt hO g hg).2, fun i hi => ?_⟩
  obtain ⟨Ai, ci, h1, x, y, z, h2, h3, h4⟩ := hR i hi
  exact ⟨Ai, ci, h1, x, y, z, h2, rdsBlk h3 (fun h0 a ha hl => ⟨hk _ (h4 h0 a ha).1 hl, by omega⟩), fun h0 a ha => ⟨(h4 h0 a ha).1, Nat.lt_of_lt_of_le (h4 h0 a ha).2.1 hs, (h4 h0 a ha).2.2⟩⟩
theorem Lim.off (h : Lim w base v ms) {g : Nat} (hG : w.grownBy w' (some g)) (hg : g < base) : Lim w' base v ms :=
  h.move hG.size fun k h1 h2 => hG.block k h2 (fun e => by injection e with e; omega)
theorem Lim.below (h : Lim w base v ms) (hB : Below w.heap.size w w') : Lim w' base v ms := h.move hB.size fun k _ h2 => hB.block k h2
theorem Lim.slice (h : Lim w base v ms) : ∃ A c, v = .slice A ms.length c ∧ ms.length ≤ c := by
  obtain ⟨hb, cs, hO, hR⟩ := h
  rcases hO.2 with ⟨h0, h1⟩ | ⟨g, cap, cur, hv, _, _, hnc, _⟩
  · exact ⟨.none, 0, by rw [h0, h1], by omega⟩
  · exact ⟨_, cap, hv, hnc⟩
theorem Lim.rds {A : Option Addr} {n c : Nat} (h : Lim w base (.slice A n c) ms) : Rdim w w.heap.size A ms := by
  obtain ⟨hb, cs, hO, hR⟩ := h
  rcases hO.2 with ⟨h0, h1⟩ | ⟨g, cap, cur, hv, hbg, hg, hnc, hcm, hcs, ht⟩
  · exact .inl (List.eq_nil_of_length_eq_zero h1)
  · simp only [Value.slice.injEq] at hv
    obtain ⟨rfl, rfl, rfl⟩ := hv
    refine .inr ⟨g, 0, rfl, ?_, fun i hi => ?_⟩
    · rcases Nat.lt_or_ge g w.heap.size with h' | h'
      · exact h'
      · rw [Array.getElem?_eq_none h'] at hg; cases hg
    · obtain ⟨Ai, ci, h1, x, y, z, h2, h3, _⟩ := hR i hi
      refine ⟨Ai, ci, h1, ?_, ?_, ?_, ?_, h3⟩
      · rw [Nat.zero_add, cell_own4 hO (by omega)]; exact x
      · rw [Nat.zero_add, cell_own4 hO (by omega)]; exact y
      · rw [Nat.zero_add, cell_own4 hO (by omega)]; exact z
      · rw [Nat.zero_add, cell_own4 hO (by omega)]; exact h2
theorem wpList_appLim {ops : Array Oper} {rest : List Oper} {o : Oper} {a : Act} {Q : Exit → Act → World → Prop} (hgd : o.guard = .none) (s x : Operand)
    (ho : o.op = .call { callee := .builtin .append, args := #[s, x], argTypes := #[27, 27] })
    (hs : a.eval s = v) (hL : Lim w base v ms) (ad : Addr) (c : Nat) (hx : a.eval x = .slice (some ad) 1 c)
    (m : Imv) (A3 : Option Addr) (n3 c3 : Nat) (hc3 : m.ds.length ≤ c3) (hn : ms.length ≤ 1000) (hn3 : n3 = m.ds.length)
    (x0 : w.cell? (ad.add 0) = some (.int .i64 m.X)) (x1 : w.cell? (ad.add 1) = some (.int .i64 m.Y)) (x2 : w.cell? (ad.add 2) = some (.int .i64 m.Z)) (x3 : w.cell? (ad.add 3) = some (.slice A3 n3 c3))
    (hr : Rds .i64 w w.heap.size A3 m.ds) (hsep : 0 < m.ds.length → ∀ a : Addr, A3 = some a → base ≤ a.block ∧ a.block < w.heap.size ∧ v.ownBlock ≠ some a.block)
    (h : ∀ v' w', Lim w' base v' (ms ++ [m]) → w.grownBy w' v.ownBlock → (∀ g, v.ownBlock = some g → base ≤ g) → wpList Try.prog ops Q rest (a.put o.dst v') w') : wpList Try.prog ops Q (o :: rest) a w := by
  subst hn3
  obtain ⟨hbase, cs, hown, hR⟩ := hL
  refine wpList_appI hgd s x ho base v ms.length cs hs hown ad c (.int .i64 m.X) (.int .i64 m.Y) (.int .i64 m.Z) (.slice A3 m.ds.length c3) hx ?_ ?_ hn hbase ?_
  · intro j u hu
    match j with
    | 0 => simp at hu; subst hu; exact x0
    | 1 => simp at hu; subst hu; exact x1
    | 2 => simp at hu; subst hu; exact x2
    | 3 => simp at hu; subst hu; exact x3
    | j + 4 => simp at hu
  · intro u hu
    simp at hu
    rcases hu with rfl | rfl | rfl | rfl <;> rfl
  · intro v' w' h2 h3 hwh
    have hlen : cs.length = ms.length * 4 := hown.1
    refine h v' w' ⟨Nat.le_trans hbase h3.size, cs ++ [.int .i64 m.X, .int .i64 m.Y, .int .i64 m.Z, .slice A3 m.ds.length c3], by simpa using h2, fun j hj => ?_⟩ h3 (fun g hg => (World.ownsRow.lt hown g hg).1)
    have keep : ∀ {B : Option Addr} {xs : List Int}, Rds .i64 w w.heap.size B xs → (0 < xs.length → ∀ a : Addr, B = some a → v.ownBlock ≠ some a.block) → Rds .i64 w' w'.heap.size B xs := fun hr hs => rdsBlk hr fun h0 a ha hl => ⟨h3.block _ hl (fun e => hs h0 a ha e.symm), Nat.lt_of_lt_of_le hl h3.size⟩
    have sep : ∀ a : Addr, a.block < w.heap.size → v.ownBlock ≠ some a.block → v'.ownBlock ≠ some a.block := fun a hl hne e => by
      rcases hwh _ e with h | h
      · exact hne h
      · omega
    have hsz2 := h3.size
    by_cases e : j = ms.length
    · subst e
      have e1 : imv (ms ++ [m]) ms.length = m := by unfold imv; simp [List.getD_eq_getElem?_getD]
      rw [e1]
      refine ⟨A3, c3, hc3, ?_, ?_, ?_, ?_, keep hr (fun h0 a ha => (hsep h0 a ha).2.2), fun h0 a ha => ⟨(hsep h0 a ha).1, by have := (hsep h0 a ha).2.1; omega, sep a (hsep h0 a ha).2.1 (hsep h0 a ha).2.2⟩⟩
      · rw [List.getElem?_append_right (by omega), hlen, Nat.sub_self]; rfl
      · rw [List.getElem?_append_right (by omega), hlen, show ms.length * 4 + 1 - ms.length * 4 = 1 by omega]; rfl
      · rw [List.getElem?_append_right (by omega), hlen, show ms.length * 4 + 2 - ms.length * 4 = 2 by omega]; rfl
      · rw [List.getElem?_append_right (by omega), hlen, show ms.length * 4 + 3 - ms.length * 4 = 3 by omega]; rfl
    · have hj2 : j < ms.length := by simp at hj; omega
      have e1 : imv (ms ++ [m]) j = imv ms j := by unfold imv; simp [List.getD_eq_getElem?_getD, List.getElem?_append_left hj2]
      rw [e1]
      obtain ⟨Aj, cj, k1, k2, k3, k4, k5, k6, k7⟩ := hR j hj2
      refine ⟨Aj, cj, k1, ?_, ?_, ?_, ?_, keep k6 (fun h0 a ha => (k7 h0 a ha).2.2), fun h0 a ha => ⟨(k7 h0 a ha).1, by have := (k7 h0 a ha).2.1; omega, sep a (k7 h0 a ha).2.1 (k7 h0 a ha).2.2⟩⟩
      · rw [List.getElem?_append_left (by omega)]; exact k2
      · rw [List.getElem?_append_left (by omega)]; exact k3
      · rw [List.getElem?_append_left (by omega)]; exact k4
      · rw [List.getElem?_append_left (by omega)]; exact k5
end
end Go.Proofs.Ytfeldhhbnhdodaa
