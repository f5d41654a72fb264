/- slices.Chunk as an iterator, for any size; appends in a round; a row that grows beside boxes that are written. -/
import Derived.RangeFuncNested
import Derived.RangeFuncBound
import Derived.RangeFuncCalls
import Derived.RangeFuncLeaves
import Derived.RangeFuncBox
import Derived.Shelf.Abstract
import Derived.Shelf.RegionOpen
import Derived.Sort.QuietIn
import Derived.WalkKit
import Derived.OwnWalkIn
import Derived.TacticsInMore
import Derived.LoopNIn
import Derived.LoopIn
import Derived.Maps.AppendAt
import Derived.Deep.RegionHeld3
import Derived.Test.YtolifmgkkkclkaaGA
namespace Go.Proofs.Ytolifmgkkkclkaa
open Go.RowKit Go.Shelf
set_option linter.unusedSimpArgs false
set_option linter.unusedVariables false
attribute [local go_sem] Oper.semAt_some

/-! ### A drawn region in the round of a loop over an iterator: walked as any other. -/
theorem rows_round {n : Nat} {P : Program} {row : String} {args : Array Value} {w : World} {R : Value → World → Prop} (l : Nat) (h : Rows P row args w R) : RowsIn (Fence.wide.inRound l) n P row args w R :=
  fun c cs _ => let ⟨v, w', r, s⟩ := h c cs; ⟨v, w', r, stepsIn_wide.2 s⟩
theorem upon_round {n : Nat} {P : Program} {o : Oper} {a : Act} {next : Act → World → Prop} {Q : Exit → Act → World → Prop} (l : Nat) : ∀ r : Result Next, o.upon P a next Q r → o.uponIn (Fence.wide.inRound l) n P a next Q r
  | .ok (.value v) w', h => h
  | .ok .skip w', h => h
  | .ok (.defer d) w', h => h
  | .ok (.enter f args) w', h => ⟨fun e => (by cases e), (callsIn_wide (n := n - 1)).2 h⟩
  | .ok (.row row args) w', h => ⟨fun e => (by cases e), rows_round l h⟩
  | .halt (.panic v) w', h => h
theorem op_round {n : Nat} {P : Program} {o : Oper} {a : Act} {w : World} {next : Act → World → Prop} {Q : Exit → Act → World → Prop} (l : Nat) (hnd : ∀ c, o.op ≠ .defer c) (h : o.wp P a w next Q) : o.wpIn (Fence.wide.inRound l) n P a w next Q :=
  ⟨fun _ _ => trivial, by rw [Oper.semAt_eq _ _ _ hnd]; exact upon_round l _ h⟩
theorem ops_round {n : Nat} {P : Program} {ops : Array Oper} {Q : Exit → Act → World → Prop} (l : Nat) (hnd : ∀ (i : Nat) (o : Oper) (c : Call), ops[i]? = some o → o.op ≠ .defer c) (hQ : ¬ LetsOut Q) : ∀ (is : List Nat) (a : Act) (w : World), wpOps P ops Q is a w → wpOpsIn (Fence.wide.inRound l) n P ops Q is a w
  | [], _, _, h => h
  | i :: rest, a, w, h => by
    unfold wpOps at h
    unfold wpOpsIn
    cases ho : ops[i]? with
    | none => rw [ho] at h; exact ops_round l hnd hQ rest a w h
    | some o =>
      rw [ho] at h
      simp only at h ⊢
      by_cases hw : Region.wanted o (yielded ops a.tmps) = true
      · rw [if_pos hw] at h ⊢
        rcases h with h | h
        · exact op_round l (fun c => hnd i o c ho) (Oper.wp_mono (fun a' w' h' => ops_round l hnd hQ rest a' w' h') h)
        · exact absurd h.2 hQ
      · rw [if_neg hw] at h ⊢
        exact ⟨fun _ _ => trivial, ops_round l hnd hQ rest _ w h⟩
theorem region_round_held {n : Nat} {P : Program} {id : Nat} {ops : Array Oper} {Q : Exit → Act → World → Prop} {S : World → Prop} {a : Act} {w : World} {l : Nat} (hm : P.follows .mixedOrders = true) (hnd : ∀ (i : Nat) (o : Oper) (c : Call), ops[i]? = some o → o.op ≠ .defer c) (hQ : ¬ LetsOut Q) (hS : S w.drew)
    (h : S w.drew → wpAnyH P .any ops Q S ops.size (Array.replicate ops.size false) a w.drew) : (Code.region id ops true).wpIn (Fence.wide.inRound l) n P Q a w :=
  wpIn_region_draw fun t => by
    simp only [Region.schedule, hm, Bool.true_or, if_true]
    exact ops_round l hnd hQ _ _ _ (wpAny_sound ops.size t _ a _ (wpAny_of_held _ _ _ _ (h hS)))
theorem fin_take (M k : Nat) (hk : k < M) : (List.finRange M).take (k + 1) = (List.finRange M).take k ++ [⟨k, hk⟩] := by
  rw [List.take_add_one, List.getElem?_eq_getElem (by simpa using hk)]
  simp
/-- An append inside a round. -/
theorem opIn_app {F : Fence} {n : Nat} {w : World} {o : Oper} {a : Act} {K : Act → World → Prop} {Q : Exit → Act → World → Prop} (s x : Operand)
    (ho : o.op = .call { callee := .builtin .append, args := #[s, x], argTypes := #[23, 23] })
    (base : Nat) (v : Value) (xs : List Int) (hs : a.eval s = v) (hown : Own w base v xs)
    (A : Option Addr) (m c B : Nat) (ys : List Int) (hx : a.eval x = .slice A m c) (hm : m = ys.length) (hr : Rds .i64 w B A ys) (hl : xs.length + ys.length ≤ 10000000) (hbase : base ≤ w.heap.size)
    (h : ∀ v' w', Own w' base v' (xs ++ ys) → w.grownBy w' v.ownBlock → K (a.put o.dst v') w') : Oper.wpIn F n Try.prog o a w K Q := by
  obtain ⟨i, hi, hz, hsz, hb⟩ := info_parts info_int
  subst hm
  rcases A with _ | ad
  · have hy : ys = [] := by
      rcases hr with h | ⟨b, off, h, _⟩
      · exact h
      · cases h
    subst hy
    have hrun : (Builtin.append_ #[23, 23] o.type #[v, .slice none 0 c]).run Try.prog w = .ok v w := by
      rcases hown.2 with ⟨rfl, h0⟩ | ⟨g, cap, cur, rfl, _, _, hnc, _⟩
      · simp [Builtin.append_, run_underlying Try.underlying23, sizeOf, typeInfo, hi, Builtin.lenOf, Builtin.firstCells]
      · simp [Builtin.append_, run_underlying Try.underlying23, sizeOf, typeInfo, hi, Builtin.lenOf, Builtin.firstCells, hnc, storeCells]
    unfold Oper.wpIn
    refine ⟨by simp [Oper.about, ho, resolve, Target.leads, Sem.run_pure], ?_⟩
    rw [Oper.semAt_plain F _ _ (by rw [ho]; intro c hc'; cases hc')]
    simp [execOp, ho, resolve, invoke, builtin, hs, hx, hrun, Result.andThen]
    exact h v w (by simpa using hown) (World.grownBy.refl _ _)
  · obtain ⟨v', w', hrun, r1, r2, r3⟩ := run_append_own (P := Try.prog) w base 23 o.type 3 i (.int .i64 0) 1 8 Try.underlying23 hi hz hsz hb rfl (by omega) v xs.length (xs.map (.int .i64)) hown ad ys.length c (ys.map (.int .i64)) (by simp) (by
        intro j u hu
        rcases hr with rfl | ⟨b, off, h1, _, hc⟩
        · simp at hu
        · have h1 := Option.some.inj h1
          subst h1
          have hj : j < ys.length := by
            rcases Nat.lt_or_ge j ys.length with h | h
            · exact h
            · simp [List.getElem?_eq_none h] at hu
          have hcj := hc j hj
          have e : (⟨b, off, none⟩ : Addr).add j = ⟨b, off + j, none⟩ := add_spot rfl j
          rw [e, hcj]
          simp [hj] at hu ⊢
          exact hu) (ints_oneCell _ _) (by unfold maxLen; omega) (by omega) hbase
    unfold Oper.wpIn
    refine ⟨by simp [Oper.about, ho, resolve, Target.leads, Sem.run_pure], ?_⟩
    rw [Oper.semAt_plain F _ _ (by rw [ho]; intro c hc'; cases hc')]
    simp [execOp, ho, resolve, invoke, builtin, hs, hx, hrun, Result.andThen]
    exact h v' w' (by unfold Own; simpa using r1) r2
theorem wpListIn_app {F : Fence} {n : Nat} {w : World} {ops : Array Oper} {rest : List Oper} {o : Oper} {a : Act} {Q : Exit → Act → World → Prop} (hgd : o.guard = none) (s x : Operand)
    (ho : o.op = .call { callee := .builtin .append, args := #[s, x], argTypes := #[23, 23] })
    (base : Nat) (v : Value) (xs : List Int) (hs : a.eval s = v) (hown : Own w base v xs)
    (A : Option Addr) (m c B : Nat) (ys : List Int) (hx : a.eval x = .slice A m c) (hm : m = ys.length) (hr : Rds .i64 w B A ys) (hl : xs.length + ys.length ≤ 10000000) (hbase : base ≤ w.heap.size)
    (h : ∀ v' w', Own w' base v' (xs ++ ys) → w.grownBy w' v.ownBlock → wpListIn F n Try.prog ops Q rest (a.put o.dst v') w') : wpListIn F n Try.prog ops Q (o :: rest) a w :=
  wpListIn_plain hgd fun K hK => opIn_app s x ho base v xs hs hown A m c B ys hx hm hr hl hbase fun v' w' h1 h2 => hK _ _ (h v' w' h1 h2)
section
variable {W0 w w' : World} {base : Nat} {v v' : Value} {E : TypeId} {C n n' : Nat} {cs cs' : List Value} {L : List Rg} {Bs : List Bxg}
/-- What a loop over an iterator writes of its own. -/
theorem GR.other {row : Option Nat} (h : GR W0 w base E C v n cs L Bs) (hG : w.grownBy w' row) (hr : ∀ r, row = some r → base ≤ r ∧ ∃ o : Obj, w.heap[r]? = some o ∧ o.isCells = false) : GR W0 w' base E C v n cs L Bs := by
  have hk : ∀ k, k < base → w'.heap[k]? = w.heap[k]? := fun k hk => hG.block k (Nat.lt_of_lt_of_le hk h.2.2.2.2.1) (fun e => by have := (hr k e.symm).1; omega)
  refine ⟨⟨h.1.1.grown hG h.1.1.size (fun k e => Nat.le_trans h.2.2.2.2.2 (hr k e).1), fun t ht => ?_, h.1.2.2.1, fun b hb => ?_, h.1.2.2.2.2⟩, ?_, h.2.2.1, h.2.2.2.1, Nat.le_trans h.2.2.2.2.1 hG.size, h.2.2.2.2.2⟩
  · have ht' := h.1.2.1 t ht
    have := h.2.2.2.1 t ht
    exact ⟨ht'.1.keep fun g h1 h2 => hk g (by omega), ht'.2.1, Nat.le_trans ht'.2.2 hG.size⟩
  · have hb' := h.1.2.2.2.1 b hb
    exact ⟨(hk b.g (h.2.2.1 b hb)).trans hb'.1, hb'.2⟩
  · refine ⟨h.2.1.1, ?_⟩
    rcases h.2.1.2 with h2 | ⟨g, cap, cur, hv, hb, hg, r⟩
    · exact .inl h2
    · have hgl : g < w.heap.size := (Array.getElem?_eq_some_iff.1 hg).1
      have he : w'.heap[g]? = w.heap[g]? := hG.block g hgl (fun e => by
        obtain ⟨_, o, ho, hc⟩ := hr g e.symm
        rw [hg] at ho
        injection ho with ho
        subst ho
        simp [Obj.isCells] at hc)
      exact .inr ⟨g, cap, cur, hv, hb, he.trans hg, r⟩
/-- The one cell of a box is written. -/
theorem GR.put1 {L1 : List Bxg} {g : Nat} {T : TypeId} {x y : Value} (h : GR W0 w base E C v n cs L (L1 ++ ⟨g, T, #[x]⟩ :: Bs)) : GR W0 (w.setCell ⟨g, 0, none⟩ y) base E C v n cs L (L1 ++ ⟨g, T, #[y]⟩ :: Bs) := by
  have hm : (⟨g, T, #[x]⟩ : Bxg) ∈ L1 ++ ⟨g, T, #[x]⟩ :: Bs := by simp
  have hb := h.1.2.2.2.1 _ hm
  have hgb := h.2.2.1 _ hm
  have hX : Bx (w.setCell ⟨g, 0, none⟩ y) g T #[y] := by simpa [Bx] using heap_setCell_same w g 0 _ T y hb.1
  have hG : w.grownBy (w.setCell ⟨g, 0, none⟩ y) (some g) := ⟨rfl, rfl, rfl, by simp [World.setCell], fun k _ hk => heap_setCell_other w ⟨g, 0, none⟩ k y (fun e => hk (by simp [e]))⟩
  have hp := List.pairwise_append.1 h.1.2.2.2.2
  have hp2 := List.pairwise_cons.1 hp.2.1
  have hne : ∀ b ∈ L1 ++ Bs, b.g ≠ g := fun b hbm => by
    rcases List.mem_append.1 hbm with hbm | hbm
    · exact hp.2.2 b hbm _ (List.mem_cons_self ..)
    · exact (hp2.1 b hbm).symm
  have hs : (w.setCell ⟨g, 0, none⟩ y).heap.size = w.heap.size := by simp [World.setCell]
  refine ⟨⟨h.1.1.grown hG h.1.1.size (fun k e => by injection e with e; rw [← e]; exact hb.2.1), fun t ht => ?_, h.1.2.2.1, fun b hbm => ?_, ?_⟩, ?_, fun b hbm => ?_, h.2.2.2.1, by rw [hs]; exact h.2.2.2.2.1, h.2.2.2.2.2⟩
  · have ht' := h.1.2.1 t ht
    have hd := hb.2.2 t ht
    refine ⟨ht'.1.keep fun k h1 h2 => hG.block k (by have := ht'.2.2; omega) (fun e => by injection e with e; simp only at hd; omega), ht'.2.1, by rw [hs]; exact ht'.2.2⟩
  · rcases List.mem_append.1 hbm with hb1 | hb1
    · have hb' := h.1.2.2.2.1 b (by simp [hb1])
      exact ⟨(hG.block b.g hb'.1.lt (by simpa using hne b (by simp [hb1]))).trans hb'.1, hb'.2⟩
    · rcases List.mem_cons.1 hb1 with rfl | hb1
      · exact ⟨hX, hb.2⟩
      · have hb' := h.1.2.2.2.1 b (by simp [hb1])
        exact ⟨(hG.block b.g hb'.1.lt (by simpa using hne b (by simp [hb1]))).trans hb'.1, hb'.2⟩
  · exact List.pairwise_append.2 ⟨hp.1, List.pairwise_cons.2 ⟨fun b hbm => hp2.1 b hbm, hp2.2⟩, fun a ha b hbm => by
      rcases List.mem_cons.1 hbm with rfl | hbm
      · show a.g ≠ g
        exact hp.2.2 a ha ⟨g, T, #[x]⟩ (by simp)
      · exact hp.2.2 a ha b (by simp [hbm])⟩
  · exact ownsRow_keep h.2.1 fun k hk => hG.block k (World.ownsRow.lt h.2.1 k hk).2 (fun e => by injection e with e; have := (World.ownsRow.lt h.2.1 k hk).1; simp only at hgb; omega)
  · rcases List.mem_append.1 hbm with hb1 | hb1
    · exact h.2.2.1 b (by simp [hb1])
    · rcases List.mem_cons.1 hb1 with rfl | hb1
      · exact hgb
      · exact h.2.2.1 b (by simp [hb1])
theorem GR.keeps {B : Nat} (h : GR W0 w base E C v n cs L Bs) (hG : w.grownBy w' v.ownBlock) : KeepsFrom B w w' := ⟨hG.size, fun k o _ hk ho => (hG.block k (Array.getElem?_eq_some_iff.1 hk).1 (fun e => by
  rcases h.2.1.2 with ⟨rfl, _⟩ | ⟨g, cap, cur, rfl, _, hg, _⟩
  · simp [Value.ownBlock] at e
  · simp [Value.ownBlock] at e
    subst e
    rw [hg] at hk
    injection hk with hk
    subst hk
    simp [Obj.isCells] at ho)).trans hk⟩
end
theorem keepsBel {B : Nat} {W W' : World} (hb : Below W.heap.size W W') : KeepsFrom B W W' := ⟨hb.size, fun k o _ hk _ => (hb.block k (Array.getElem?_eq_some_iff.1 hk).1).trans hk⟩
/-- Numbers that are read below a bound, ahead of the rows and boxes that are written. -/
theorem rds_app {W0 w w' : World} {base : Nat} {E : TypeId} {C n : Nat} {v : Value} {cs : List Value} {L : List Rg} {Bs : List Bxg} {A : Option Addr} {xs : List Int} (h : GR W0 w base E C v n cs L Bs) (hr : Rds .i64 w base A xs) (hG : w.grownBy w' v.ownBlock) : Rds .i64 w' base A xs :=
  hr.keep fun p hp => World.cell?_of_block (hG.block p.block (Nat.lt_of_lt_of_le hp h.2.2.2.2.1) (fun e => by have := (World.ownsRow.lt h.2.1 _ e.symm).1; omega))
theorem rds_put {w : World} {base g : Nat} {A : Option Addr} {xs : List Int} (hr : Rds .i64 w base A xs) (hA : ∀ a : Addr, A = some a → a.block ≠ g) (y : Value) : Rds .i64 (w.setCell ⟨g, 0, none⟩ y) base A xs := by
  rcases hr with h0 | ⟨b, off, rfl, hb, hc⟩
  · exact .inl h0
  · refine .inr ⟨b, off, rfl, hb, fun j hj => ?_⟩
    rw [World.cell?_of_block (heap_setCell_other w ⟨g, 0, none⟩ b y (hA _ rfl))]
    exact hc j hj
/-- An append of numbers, run: the row that it answers is the old one's, or a new one. -/
theorem app_run (w : World) (T : TypeId) (base : Nat) (v : Value) (xs : List Int) (hown : Own w base v xs) (A : Option Addr) (c B : Nat) (ys : List Int) (hpos : 0 < ys.length) (hr : Rds .i64 w B A ys) (hl : xs.length + ys.length ≤ 10000000) (hbase : base ≤ w.heap.size) :
    ∃ v' w', (Builtin.append_ #[23, 23] T #[v, .slice A ys.length c]).run Try.prog w = .ok v' w' ∧ Own w' base v' (xs ++ ys) ∧ w.grownBy w' v.ownBlock ∧ (∀ g, v'.ownBlock = some g → v.ownBlock = some g ∨ w.heap.size ≤ g) := by
  obtain ⟨i, hi, hz, hsz, hb⟩ := info_parts info_int
  rcases hr with h0 | ⟨b, off, rfl, _, hc⟩
  · rw [h0] at hpos; simp at hpos
  have hnews : ∀ j u, (ys.map (Value.int .i64))[j]? = some u → w.cell? ((⟨b, off, none⟩ : Addr).add j) = some u := by
    intro j u hu
    have hj : j < ys.length := by
      rcases Nat.lt_or_ge j ys.length with h | h
      · exact h
      · simp [List.getElem?_eq_none h] at hu
    have hcj := hc j hj
    have e : (⟨b, off, none⟩ : Addr).add j = ⟨b, off + j, none⟩ := add_spot rfl j
    rw [e, hcj]
    simp [hj] at hu ⊢
    exact hu
  obtain ⟨v', w', hrun, h2, h3, h4⟩ := run_append_own (P := Try.prog) w base 23 T 3 i (.int .i64 0) 1 8 Try.underlying23 hi hz hsz hb rfl (by omega) v xs.length (xs.map (.int .i64)) hown ⟨b, off, none⟩ ys.length c (ys.map (.int .i64)) (by simp) hnews (ints_oneCell _ _) (by unfold maxLen; omega) (by omega) hbase
  refine ⟨v', w', hrun, by unfold Own; simpa using h2, h3, ?_⟩
  rcases hown.2 with ⟨rfl, h0⟩ | ⟨g0, cap, cur, rfl, hbg, hg, hnc, hcm, hcs, htake⟩
  · have hx0 : xs = [] := List.eq_nil_of_length_eq_zero h0
    subst hx0
    obtain ⟨v2, w2, hr2, h22, _⟩ := run_append_own (P := Try.prog) w w.heap.size 23 T 3 i (.int .i64 0) 1 8 Try.underlying23 hi hz hsz hb rfl (by omega) (.slice none 0 0) 0 [] (World.ownsRow_nil _ _ _ _) ⟨b, off, none⟩ ys.length c (ys.map (.int .i64)) (by simp) hnews (ints_oneCell _ _) (by unfold maxLen; omega) (by omega) (Nat.le_refl _)
    have e0 : (Value.slice none ([] : List Int).length 0) = .slice none 0 0 := rfl
    rw [hrun] at hr2
    injection hr2 with e1 e2
    subst e1
    intro g hg
    exact .inr (h22.lt g hg).1
  · intro g hg'
    by_cases hroom : xs.length + ys.length ≤ cap
    · have hr2 := run_append_room (P := Try.prog) w 23 T 3 i Try.underlying23 hi g0 xs.length cap cur hg ⟨b, off, none⟩ ys.length c (ys.map (.int .i64)) (by simp [hsz]) hnews (ints_oneCell _ _) hroom (by rw [hsz, hcs]; simp; omega)
      rw [hrun] at hr2
      injection hr2 with e1 e2
      subst e1
      exact .inl hg'
    · have hr2 := run_append_grow (P := Try.prog) w 23 T 3 i _ Try.underlying23 hi hz ⟨g0, 0, none⟩ xs.length cap (xs.map (.int .i64)) (by rw [hsz]; exact hown.1) (World.ownsRow.cells hown (g := g0) rfl) ⟨b, off, none⟩ ys.length c (ys.map (.int .i64)) (by simp [hsz]) hnews (by omega) (by omega) (growslice_fits (by omega) (by rw [hb]; omega))
      rw [hrun] at hr2
      injection hr2 with e1 e2
      subst e1
      right
      simp [Value.ownBlock] at hg'
      omega
theorem opIn_appF {F : Fence} {n : Nat} {w : World} {o : Oper} {a : Act} {K : Act → World → Prop} {Q : Exit → Act → World → Prop} (s x : Operand)
    (ho : o.op = .call { callee := .builtin .append, args := #[s, x], argTypes := #[23, 23] })
    (base : Nat) (v : Value) (xs : List Int) (hs : a.eval s = v) (hown : Own w base v xs)
    (A : Option Addr) (m c B : Nat) (ys : List Int) (hx : a.eval x = .slice A m c) (hm : m = ys.length) (hpos : 0 < ys.length) (hr : Rds .i64 w B A ys) (hl : xs.length + ys.length ≤ 10000000) (hbase : base ≤ w.heap.size)
    (h : ∀ v' w', Own w' base v' (xs ++ ys) → w.grownBy w' v.ownBlock → (∀ g, v'.ownBlock = some g → v.ownBlock = some g ∨ w.heap.size ≤ g) → K (a.put o.dst v') w') : Oper.wpIn F n Try.prog o a w K Q := by
  subst hm
  obtain ⟨v', w', hrun, r1, r2, r3⟩ := app_run w o.type base v xs hown A c B ys hpos hr hl hbase
  unfold Oper.wpIn
  refine ⟨by simp [Oper.about, ho, resolve, Target.leads, Sem.run_pure], ?_⟩
  rw [Oper.semAt_plain F _ _ (by rw [ho]; intro c hc'; cases hc')]
  simp [execOp, ho, resolve, invoke, builtin, hs, hx, hrun, Result.andThen]
  exact h v' w' r1 r2 r3
theorem wpListIn_appF {F : Fence} {n : Nat} {w : World} {ops : Array Oper} {rest : List Oper} {o : Oper} {a : Act} {Q : Exit → Act → World → Prop} (hgd : o.guard = none) (s x : Operand)
    (ho : o.op = .call { callee := .builtin .append, args := #[s, x], argTypes := #[23, 23] })
    (base : Nat) (v : Value) (xs : List Int) (hs : a.eval s = v) (hown : Own w base v xs)
    (A : Option Addr) (m c B : Nat) (ys : List Int) (hx : a.eval x = .slice A m c) (hm : m = ys.length) (hpos : 0 < ys.length) (hr : Rds .i64 w B A ys) (hl : xs.length + ys.length ≤ 10000000) (hbase : base ≤ w.heap.size)
    (h : ∀ v' w', Own w' base v' (xs ++ ys) → w.grownBy w' v.ownBlock → (∀ g, v'.ownBlock = some g → v.ownBlock = some g ∨ w.heap.size ≤ g) → wpListIn F n Try.prog ops Q rest (a.put o.dst v') w') : wpListIn F n Try.prog ops Q (o :: rest) a w :=
  wpListIn_plain hgd fun K hK => opIn_appF s x ho base v xs hs hown A m c B ys hx hm hpos hr hl hbase fun v' w' h1 h2 h3 => hK _ _ (h v' w' h1 h2 h3)
theorem wp_appF {w : World} {o : Oper} {a : Act} {K : Act → World → Prop} {Q : Exit → Act → World → Prop} (s x : Operand)
    (ho : o.op = .call { callee := .builtin .append, args := #[s, x], argTypes := #[23, 23] })
    (base : Nat) (v : Value) (xs : List Int) (hs : a.eval s = v) (hown : Own w base v xs)
    (A : Option Addr) (m c B : Nat) (ys : List Int) (hx : a.eval x = .slice A m c) (hm : m = ys.length) (hpos : 0 < ys.length) (hr : Rds .i64 w B A ys) (hl : xs.length + ys.length ≤ 10000000) (hbase : base ≤ w.heap.size)
    (h : ∀ v' w', Own w' base v' (xs ++ ys) → w.grownBy w' v.ownBlock → (∀ g, v'.ownBlock = some g → v.ownBlock = some g ∨ w.heap.size ≤ g) → K (a.put o.dst v') w') : o.wp Try.prog a w K Q := by
  subst hm
  obtain ⟨v', w', hrun, r1, r2, r3⟩ := app_run w o.type base v xs hown A c B ys hpos hr hl hbase
  unfold Oper.wp
  simp [execOp, ho, resolve, invoke, builtin, hs, hx, hrun, Result.andThen]
  exact h v' w' r1 r2 r3
/-- Numbers that are read beside a row v that grows. -/
def Rsp (w : World) (v : Value) (A : Option Addr) (ys : List Int) : Prop := Rds .i64 w w.heap.size A ys ∧ ∀ a : Addr, A = some a → a.block < w.heap.size ∧ v.ownBlock ≠ some a.block
section
variable {w w' : World} {v v' : Value} {A : Option Addr} {ys : List Int}
theorem Rsp.call (h : Rsp w v A ys) (hb : Below w.heap.size w w') : Rsp w' v A ys := ⟨(h.1.below hb).more hb.size, fun a ha => ⟨Nat.lt_of_lt_of_le (h.2 a ha).1 hb.size, (h.2 a ha).2⟩⟩
theorem Rsp.drew (h : Rsp w v A ys) : Rsp w.drew v A ys := h
theorem Rsp.app (h : Rsp w v A ys) (hG : w.grownBy w' v.ownBlock) (hf : ∀ g, v'.ownBlock = some g → v.ownBlock = some g ∨ w.heap.size ≤ g) : Rsp w' v' A ys := by
  refine ⟨?_, fun a ha => ⟨Nat.lt_of_lt_of_le (h.2 a ha).1 hG.size, fun e => ?_⟩⟩
  · rcases h.1 with h0 | ⟨b, off, rfl, hb, hc⟩
    · exact .inl h0
    · exact .inr ⟨b, off, rfl, Nat.lt_of_lt_of_le hb hG.size, fun j hj => (World.cell?_of_block (hG.block b hb (fun e => (h.2 _ rfl).2 e.symm))).trans (hc j hj)⟩
  · rcases hf _ e with q | q
    · exact (h.2 a ha).2 q
    · have := (h.2 a ha).1; omega
theorem Rsp.new {A : Option Addr} {m c : Nat} (hO : Own w' w.heap.size (.slice A m c) ys) (hv : ∀ g, v.ownBlock = some g → g < w.heap.size) : Rsp w' v A ys :=
  ⟨hO.rds.2, fun a ha => by
    subst ha
    have h1 := hO.lt a.block rfl
    exact ⟨h1.2, fun e => by have := hv _ e; omega⟩⟩
theorem Rsp.put (h : Rsp w v A ys) {g : Nat} (hA : ∀ a : Addr, A = some a → a.block ≠ g) (y : Value) : Rsp (w.setCell ⟨g, 0, none⟩ y) v A ys := by
  have hs : (w.setCell ⟨g, 0, none⟩ y).heap.size = w.heap.size := by simp [World.setCell]
  exact ⟨by rw [hs]; exact rds_put h.1 hA y, fun a ha => by rw [hs]; exact h.2 a ha⟩
theorem Rsp.other {base : Nat} {row : Option Nat} (h : Rsp w v A ys) (hpos : 0 < ys.length) (hG : w.grownBy w' row) (hr : ∀ r, row = some r → base ≤ r ∧ ∃ o : Obj, w.heap[r]? = some o ∧ o.isCells = false) : Rsp w' v A ys := by
  refine ⟨?_, fun a ha => ⟨Nat.lt_of_lt_of_le (h.2 a ha).1 hG.size, (h.2 a ha).2⟩⟩
  rcases h.1 with h0 | ⟨b, off, rfl, hb, hc⟩
  · exact .inl h0
  · refine .inr ⟨b, off, rfl, Nat.lt_of_lt_of_le hb hG.size, fun j hj => (World.cell?_of_block (hG.block b hb (fun e => ?_))).trans (hc j hj)⟩
    obtain ⟨_, o, ho, hcl⟩ := hr b e.symm
    have h1 := hc 0 hpos
    unfold World.cell? at h1
    rw [ho] at h1
    cases o <;> simp_all [Obj.isCells]
end
/-- What a round keeps: the iterator's two boxes. -/
def CZ (Bs Bz : Nat) (sv : Value) (Z : Nat) (W W' : World) : Prop := (Boxed W Bs 23 sv → Boxed W' Bs 23 sv) ∧ (Boxed W Bz 3 (.int .i64 (Z : Int)) → Boxed W' Bz 3 (.int .i64 (Z : Int)))
theorem CZ.trans {Bs Bz : Nat} {sv : Value} {Z : Nat} {A B C : World} (h : CZ Bs Bz sv Z A B) (k : CZ Bs Bz sv Z B C) : CZ Bs Bz sv Z A C := ⟨fun x => k.1 (h.1 x), fun x => k.2 (h.2 x)⟩
theorem CZ.putObj {Bs Bz : Nat} {sv : Value} {Z : Nat} (W : World) (l : Nat) (o' : Obj) (h1 : Bs < l) (h2 : Bz < l) : CZ Bs Bz sv Z W (W.putObj l o') :=
  ⟨fun h => h.kept (grownBy_putObj' W l o') (fun e => by cases e; omega), fun h => h.kept (grownBy_putObj' W l o') (fun e => by cases e; omega)⟩
set_option maxRecDepth 100000 in
set_option maxHeartbeats 4000000 in
theorem chunkZ_in (n : Nat) (hn : 1 ≤ n) (l Bs Bz b off M Z T cap : Nat) (hZ : 1 ≤ Z) (hT : T = Z * M) (A : Option Addr) (hA : 0 < M → A = some ⟨b, off, none⟩) (hM : T ≤ 100000) (hcap : T ≤ cap) (J Jx : List (Fin M) → World → Prop) (hJd : ∀ pre W n, J pre W → J pre (W.drewN n))
    (hY : ∀ pre x W, J pre W → pre.length < M → YieldAt Fence.wide (n - 1) Try.prog l #[.slice (some ⟨b, off + Z * x.val, none⟩) Z Z] W fun e W' =>
      (e = .returned (.bool true) ∧ J (pre ++ [x]) W' ∧ CZ Bs Bz (.slice A T cap) Z W W') ∨ (e = .returned (.bool false) ∧ Jx (pre ++ [x]) W'))
    (W : World) (hBs : Boxed W Bs 23 (.slice A T cap)) (hBz : Boxed W Bz 3 (.int .i64 (Z : Int))) (h0 : J [] W) :
    CallsIn Fence.wide n Try.prog 45 #[.func (.yield l) #[] #[], .pointer (some ⟨Bs, 0, none⟩), .pointer (some ⟨Bz, 0, none⟩)] W fun e W' => (∃ v, e = .returned v) ∧
      ((∃ ys, ys = List.finRange M ∧ J ys W') ∨ (∃ pre : List (Fin M), True ∧ Jx pre W')) := by
  have HT := Lib.hid hT
  have HA := Lib.hid hA
  have HY := Lib.hid hY
  have HJd := Lib.hid hJd
  clear hT hA hY hJd
  refine callsIn_of_wp Try.func45 rfl trivial ?_ rfl
  simp only [Try.ntmps45, List.size_toArray, List.length_cons, List.length_nil, Nat.reduceAdd, Nat.reduceSub, Array.replicate_succ, Array.replicate_zero, List.push_toArray, List.append_toArray, List.nil_append, List.cons_append]
  gi_wp2
  gi_loopw [4] (fun i wr => ∃ k a : Nat, k ≤ M ∧ i = .int .i64 (a : Int) ∧ Hid (a = Z * k) ∧ a ≤ T ∧ J ((List.finRange M).take k) wr ∧ Boxed wr Bs 23 (.slice A T cap) ∧ Boxed wr Bz 3 (.int .i64 (Z : Int)))
    (fun i _ => T - (intOf i).toNat)
  case atStart => exact ⟨0, 0, Nat.zero_le _, rfl, Lib.hid (by simp), Nat.zero_le _, by simpa using h0, hBs, hBz⟩
  case round =>
    obtain ⟨k, a, hk, rfl, Ha, haT, hJs, hx1, hx2⟩ := hrel
    have c1 := hx1.cell
    have c2 := hx2.cell
    by_cases hlt : k < M
    · have haZ : a + Z ≤ T := by
        rw [HT.out, Ha.out]
        have := Nat.mul_le_mul_left Z (show k + 1 ≤ M from hlt)
        rw [Nat.mul_add, Nat.mul_one] at this
        exact this
      obtain rfl := HA.out (by omega)
      have h1 : (a : Int) < (T : Int) := by omega
      have h2 : ¬ cap = a := by omega
      have h4 : (a : Int).toNat = a := by omega
      have h5 : ¬ (Z : Int) > ((T - a : Nat) : Int) := by omega
      have h6 : (Z : Int) ≤ (T : Int) - (a : Int) := by omega
      have h7 : a + Z ≤ cap := by omega
      gi_wp2
      gi_quiet (fail)
      have hJ3 := HJd.out _ _ nq hJs
      have hy1 : Boxed (wr.drewN nq) Bs 23 (.slice (some ⟨b, off, none⟩) T cap) := hx1
      have hy2 : Boxed (wr.drewN nq) Bz 3 (.int .i64 (Z : Int)) := hx2
      have c3 := hy1.cell
      clear hJs hx1 hx2 c1 c2
      generalize wr.drewN nq = w3 at *
      have hYk := HY.out _ ⟨k, hlt⟩ w3 hJ3 (by simp; omega)
      rw [show Z * (⟨k, hlt⟩ : Fin M).val = a from Ha.out.symm] at hYk
      obtain ⟨fn, tmps, assign, body, hy, hR⟩ := hYk
      have hR2 := Lib.hid hR
      clear hR hJ3
      have h8 : ¬ a + Z = a := by omega
      have h9 : (a : Int) + (Z : Int) ≤ (cap : Int) := by omega
      have h10 : ((a : Int) + (Z : Int)).toNat = a + Z := by omega
      have h11 : a + Z - a = Z := by omega
      gi_wp2
      refine hR2.out.mono ?_
      rintro e W3 (⟨rfl, hJ4, hk4⟩ | ⟨rfl, hJx4⟩)
      · have c5 := (hk4.2 hy2).cell
        gi_wp2
        go_roundw
        case rel => exact ⟨k + 1, a + Z, by omega, by go_num, Lib.hid (by rw [Ha.out, Nat.mul_add, Nat.mul_one]), haZ, by rw [fin_take M k hlt]; exact hJ4, hk4.1 hy1, hk4.2 hy2⟩
        case measure => simp [intOf]; omega
      · gi_wp2
        refine bodyPost_ret (results_none rfl _ _ _) rfl ?_
        exact ⟨⟨_, rfl⟩, .inr ⟨_, trivial, hJx4⟩⟩
    · obtain rfl : k = M := by omega
      have haT2 : a = T := by rw [HT.out, Ha.out]
      subst haT2
      gi_wp2
      go_end0
      exact ⟨⟨_, rfl⟩, .inl ⟨_, rfl, by rw [List.take_of_length_le (by simp)] at hJs; exact hJs⟩⟩
/-- The value that slices.Chunk hands back, as an iterator. -/
theorem chunkZ_stops (n : Nat) (hn : 1 ≤ n) (Bs Bz b off M Z T cap : Nat) (hZ : 1 ≤ Z) (hT : T = Z * M) (A : Option Addr) (hA : 0 < M → A = some ⟨b, off, none⟩) (hM : T ≤ 100000) (hcap : T ≤ cap) (w : World)
    (hBs : Boxed w Bs 23 (.slice A T cap)) (hBz : Boxed w Bz 3 (.int .i64 (Z : Int))) :
    SeqStopsK Fence.wide n Try.prog 45 #[.pointer (some ⟨Bs, 0, none⟩), .pointer (some ⟨Bz, 0, none⟩)] (fun x : Fin M => #[Value.slice (some ⟨b, off + Z * x.val, none⟩) Z Z]) (CZ Bs Bz (.slice A T cap) Z) (fun ys => ys = List.finRange M) (fun _ => True) M w :=
  fun l J Jx W hW hJ _ hY h0 => chunkZ_in n hn l Bs Bz b off M Z T cap hZ hT A hA hM hcap J Jx (fun pre W1 k h => hJ pre W1 (W1.drewN k) none h ⟨rfl, rfl, rfl, Nat.le_refl _, fun _ _ _ => rfl⟩ (by simp)) hY W ((hW.block Bs hBs.lt).trans hBs) ((hW.block Bz hBz.lt).trans hBz) h0
set_option maxHeartbeats 4000000 in
theorem chunkZ_any (A : Option Addr) (m c Z : Nat) (hZ : 1 ≤ Z) (w : World) :
    Calls Try.prog 27 #[.slice A m c, .int .i64 (Z : Int)] w fun e w' => e = .returned (.func (.func 45) #[] #[.pointer (some ⟨w.heap.size, 0, none⟩), .pointer (some ⟨w.heap.size + 1, 0, none⟩)]) ∧ w' = (w.alloc (.cells #[.slice A m c] 23)).alloc (.cells #[.int .i64 (Z : Int)] 3) := by
  have hz : ¬ (Z : Int) < 1 := by omega
  go_enter Try.func27, Try.ntmps27
  go_wp2
  go_ret
  exact ⟨by simp, rfl⟩
end Go.Proofs.Ytolifmgkkkclkaa
