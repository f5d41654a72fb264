/- Lss, Lsg, PalS, PalT, Mpc, Mpb, PalI, IxM, GridX, ColS, NcI, IxI, IxL, ColI, PalL, LSt, LEqL: one text of several. -/
import Derived.Test.YtkjebidkkopalaaLsl
import Derived.Shelf.Abstract
import Derived.Test.YtkjebidkkopalaaNcL
import Derived.Test.YtkjebidkkopalaaImgA
import Derived.Test.YtkjebidkkopalaaGridF
import Derived.Test.YtkjebidkkopalaaGenP
import Derived.Deep.QuietTactic
import Derived.BigQuiet
import Derived.Test.YtkjebidkkopalaaNcM
import Derived.Test.YtkjebidkkopalaaGridA
import Derived.Maps.Own
import Derived.Maps.OwnOps
import Derived.Maps.Views
import Derived.DeepKeys4
import Derived.WideKeyPair
import Derived.Test.YtkjebidkkopalaaPixI
import Derived.Test.YtkjebidkkopalaaInvI
import Derived.Deep.RegionHeld3
import Derived.Test.YtkjebidkkopalaaGridN
import Derived.Test.YtkjebidkkopalaaNcS
import Derived.Test.YtkjebidkkopalaaSpecM
import Derived.Test.YtkjebidkkopalaaGap
import Derived.Test.YtkjebidkkopalaaScaP
import Derived.Test.YtkjebidkkopalaaGridJ
import Derived.Test.YtkjebidkkopalaaEquI
import Derived.Test.YtkjebidkkopalaaLEqImg
namespace Go.Proofs.Ytkjebidkkopalaa
open Go.RowKit Go.Shelf
set_option linter.unusedSimpArgs false
set_option linter.unusedVariables false

theorem rds_blk {k : IntKind} {w w' : World} {B B' : Nat} {A : Option Addr} {xs : List Int} (h : Rds k w B A xs) (hk : 0 < xs.length → ∀ a : Addr, A = some a → a.block < B → w'.heap[a.block]? = w.heap[a.block]? ∧ a.block < B') : Rds k w' B' A xs := by
  rcases h with h | ⟨b, off, rfl, hb, hc⟩
  · exact .inl h
  · rcases Nat.eq_zero_or_pos xs.length with h0 | h0
    · exact .inl (List.eq_nil_of_length_eq_zero h0)
    · have h1 := hk h0 _ rfl hb
      exact .inr ⟨b, off, rfl, h1.2, fun j hj => (World.cell?_of_block (a := ⟨b, off + j, none⟩) h1.1).trans (hc j hj)⟩
def Lss (wr : World) (base : Nat) (v : Value) (xss : List (List Int)) : Prop :=
  base ≤ wr.heap.size ∧ ∃ cs : List Value, wr.ownsRow base 23 1 v xss.length cs ∧ ∀ i, i < xss.length → ∃ (Ai : Option Addr) (ci : Nat), (xss.getD i []).length ≤ ci ∧ cs[i]? = some (.slice Ai (xss.getD i []).length ci) ∧ Rds .i64 wr wr.heap.size Ai (xss.getD i []) ∧ (0 < (xss.getD i []).length → ∀ a : Addr, Ai = some a → base ≤ a.block ∧ a.block < wr.heap.size ∧ v.ownBlock ≠ some a.block)
theorem Lss.none (w : World) : Lss (w.alloc (.cells #[] 23)) w.heap.size (.slice (some ⟨w.heap.size, 0, .none⟩) 0 0) [] :=
  ⟨by simp, [], World.ownsRow_made w #[] 0 (Nat.le_refl _) (Nat.zero_le _) (by simp), fun i hi => by simp at hi⟩
theorem Lss.nil (w : World) : Lss w w.heap.size (.slice .none 0 0) [] :=
  ⟨Nat.le_refl _, [], World.ownsRow_nil _ _ _ _, fun i hi => by simp at hi⟩
section
variable {w w' : World} {base : Nat} {v : Value} {xss : List (List Int)}
theorem Lss.move (h : Lss w base v xss) (hs : w.heap.size ≤ w'.heap.size) (hk : ∀ g, base ≤ g → g < w.heap.size → w'.heap[g]? = w.heap[g]?) : Lss w' base v xss := by
  obtain ⟨hb, cs, hO, hR⟩ := h
  refine ⟨Nat.le_trans hb hs, cs, ownsRow_keep hO fun g hg => hk g (World.ownsRow.lt hO g hg).1 (World.ownsRow.lt hO g hg).2, fun i hi => ?_⟩
  obtain ⟨Ai, ci, h1, h2, h3, h4⟩ := hR i hi
  exact ⟨Ai, ci, h1, h2, rds_blk h3 (fun h0 a ha hl => ⟨hk _ (h4 h0 a ha).1 hl, by omega⟩), fun h0 a ha => ⟨(h4 h0 a ha).1, Nat.lt_of_lt_of_le (h4 h0 a ha).2.1 hs, (h4 h0 a ha).2.2⟩⟩
theorem Lss.off (h : Lss w base v xss) {g : Nat} (hG : w.grownBy w' (some g)) (hg : g < base) : Lss w' base v xss :=
  h.move hG.size fun k h1 h2 => hG.block k h2 (fun e => by injection e with e; omega)
theorem Lss.below (h : Lss w base v xss) (hB : Below w.heap.size w w') : Lss w' base v xss := h.move hB.size fun k _ h2 => hB.block k h2
theorem Lss.alloc (h : Lss w base v xss) (o : Obj) : Lss (w.alloc o) base v xss := h.below ((Below.refl _ _).alloc (Nat.le_refl _) _)
theorem Lss.slice (h : Lss w base v xss) : ∃ A c, v = .slice A xss.length c ∧ xss.length ≤ c := by
  obtain ⟨hb, cs, hO, hR⟩ := h
  rcases hO.2 with ⟨h0, h1⟩ | ⟨g, cap, cur, hv, _, _, hnc, _⟩
  · exact ⟨.none, 0, by rw [h0, h1], by omega⟩
  · exact ⟨_, cap, hv, hnc⟩
theorem Lss.rdss {A : Option Addr} {n c : Nat} (h : Lss w base (.slice A n c) xss) : Rdss w w.heap.size A xss := by
  obtain ⟨hb, cs, hO, hR⟩ := h
  rcases hO.2 with ⟨h0, h1⟩ | ⟨g, cap, cur, hv, hbg, hg, hnc, hcm, hcs, ht⟩
  · exact .inl (List.eq_nil_of_length_eq_zero h1)
  · simp only [Value.slice.injEq] at hv
    obtain ⟨rfl, rfl, rfl⟩ := hv
    refine .inr ⟨g, 0, rfl, ?_, fun i hi => ?_⟩
    · rcases Nat.lt_or_ge g w.heap.size with h' | h'
      · exact h'
      · rw [Array.getElem?_eq_none h'] at hg; cases hg
    · obtain ⟨Ai, ci, h1, h2, h3, _⟩ := hR i hi
      refine ⟨Ai, ci, h1, ?_, h3⟩
      rw [Nat.zero_add, World.ownsRow.cellAt hO i (by omega)]
      exact h2
theorem info_list : (Try.prog.info? 23).map (fun i => (i.zero, i.size, i.bytes)) = some (some (.slice .none 0 0), 1, 24) := by kernel_rfl
theorem wpList_appL {ops : Array Oper} {rest : List Oper} {o : Oper} {a : Act} {Q : Exit → Act → World → Prop} (hgd : o.guard = .none) (s x : Operand)
    (ho : o.op = .call { callee := .builtin .append, args := #[s, x], argTypes := #[27, 27] })
    (base : Nat) (v : Value) (xss : List (List Int)) (hs : a.eval s = v) (hL : Lss w base v xss)
    (p c : Nat) (A3 : Option Addr) (ys : List Int) (n3 c3 : Nat) (hx : a.eval x = .slice (some ⟨p, 0, .none⟩) 1 c) (hn3 : n3 = ys.length) (hcell : w.cell? ⟨p, 0, .none⟩ = some (.slice A3 n3 c3)) (hys : ys.length ≤ c3)
    (hr : Rds .i64 w w.heap.size A3 ys) (hsep : 0 < ys.length → ∀ a : Addr, A3 = some a → base ≤ a.block ∧ a.block < w.heap.size ∧ v.ownBlock ≠ some a.block) (hn : xss.length ≤ 1000)
    (h : ∀ v' w', Lss w' base v' (xss ++ [ys]) → w.grownBy w' v.ownBlock → (∀ g, v.ownBlock = some g → base ≤ g) → wpList Try.prog ops Q rest (a.put o.dst v') w') : wpList Try.prog ops Q (o :: rest) a w := by
  subst hn3
  obtain ⟨hbase, cs, hown, hR⟩ := hL
  refine wpList_plain hgd fun _ hK => ?_
  obtain ⟨i, hi, hz, hsz, hb⟩ := info_parts info_list
  have hnews : ∀ j u, [Value.slice A3 ys.length c3][j]? = some u → w.cell? ((⟨p, 0, .none⟩ : Addr).add j) = some u := by
    intro j u hu
    match j with
    | 0 => simp at hu; subst hu; simpa [Addr.add] using hcell
    | j + 1 => simp at hu
  have h1 : ∀ u ∈ [Value.slice A3 ys.length c3], u.oneCell' = true := by intro u hu; simp at hu; subst hu; rfl
  obtain ⟨v', w', hrun, h2, h3, h4⟩ := run_append_own (P := Try.prog) w base 27 o.type 23 i _ 1 24 Try.underlying27 hi hz hsz hb rfl (by omega) v xss.length cs hown ⟨p, 0, .none⟩ 1 c [.slice A3 ys.length c3] (by simp) hnews h1 (by unfold maxLen; omega) (by omega) hbase
  have hwh : ∀ g, v'.ownBlock = some g → v.ownBlock = some g ∨ w.heap.size ≤ g := by
    rcases hown.2 with ⟨rfl, h0⟩ | ⟨g0, cap, cur, rfl, hbg, hg, hnc, hcm, hcs, htake⟩
    · have hx0 : cs = [] := List.eq_nil_of_length_eq_zero (by have := hown.1; omega)
      subst hx0
      obtain ⟨v2, w2, hr2, h22, _⟩ := run_append_own (P := Try.prog) w w.heap.size 27 o.type 23 i _ 1 24 Try.underlying27 hi hz hsz hb rfl (by omega) (.slice .none 0 0) 0 [] (World.ownsRow_nil _ _ _ _) ⟨p, 0, .none⟩ 1 c [.slice A3 ys.length c3] (by simp) hnews h1 (by unfold maxLen; omega) (by omega) (Nat.le_refl _)
      rw [hrun] at hr2
      injection hr2 with e1 e2
      subst e1
      intro g hg
      exact .inr (h22.lt g hg).1
    · intro g hg'
      by_cases hroom : xss.length + 1 ≤ cap
      · have hr2 := run_append_room (P := Try.prog) w 27 o.type 23 i Try.underlying27 hi g0 xss.length cap cur hg ⟨p, 0, .none⟩ 1 c [.slice A3 ys.length c3] (by simp [hsz]) hnews h1 hroom (by rw [hsz, hcs]; simp; omega)
        rw [hrun] at hr2
        injection hr2 with e1 e2
        subst e1
        exact .inl hg'
      · have hr2 := run_append_grow (P := Try.prog) w 27 o.type 23 i _ Try.underlying27 hi hz ⟨g0, 0, .none⟩ xss.length cap cs (by rw [hsz]; exact hown.1) (World.ownsRow.cells hown (g := g0) rfl) ⟨p, 0, .none⟩ 1 c [.slice A3 ys.length c3] (by simp [hsz]) hnews (by omega) (by omega) (growslice_fits (by omega) (by rw [hb]; omega))
        rw [hrun] at hr2
        injection hr2 with e1 e2
        subst e1
        right
        simp [Value.ownBlock] at hg'
        omega
  have hlen : cs.length = xss.length := by have := hown.1; omega
  have hLn : Lss w' base v' (xss ++ [ys]) := by
    refine ⟨Nat.le_trans hbase h3.size, cs ++ [.slice A3 ys.length c3], by simpa using h2, fun j hj => ?_⟩
    have keep : ∀ {B : Option Addr} {xs : List Int}, Rds .i64 w w.heap.size B xs → (0 < xs.length → ∀ a : Addr, B = some a → v.ownBlock ≠ some a.block) → Rds .i64 w' w'.heap.size B xs := fun hr hs => rds_blk hr fun h0 a ha hl => ⟨h3.block _ hl (fun e => hs h0 a ha e.symm), Nat.lt_of_lt_of_le hl h3.size⟩
    have sep : ∀ a : Addr, a.block < w.heap.size → v.ownBlock ≠ some a.block → v'.ownBlock ≠ some a.block := fun a hl hne e => by
      rcases hwh _ e with h | h
      · exact hne h
      · omega
    have hsz2 := h3.size
    by_cases e : j = xss.length
    · subst e
      have e1 : (xss ++ [ys]).getD xss.length [] = ys := by simp [List.getD_eq_getElem?_getD]
      rw [e1]
      refine ⟨A3, c3, hys, by rw [← hlen, List.getElem?_append_right (Nat.le_refl _), Nat.sub_self]; rfl, keep hr (fun h0 a ha => (hsep h0 a ha).2.2), fun h0 a ha => ⟨(hsep h0 a ha).1, by have := (hsep h0 a ha).2.1; omega, sep a (hsep h0 a ha).2.1 (hsep h0 a ha).2.2⟩⟩
    · have hj2 : j < xss.length := by simp at hj; omega
      have e1 : (xss ++ [ys]).getD j [] = xss.getD j [] := by simp [List.getD_eq_getElem?_getD, List.getElem?_append_left hj2]
      rw [e1]
      obtain ⟨Aj, cj, k1, k2, k3, k4⟩ := hR j hj2
      exact ⟨Aj, cj, k1, by rw [List.getElem?_append_left (by omega)]; exact k2, keep k3 (fun h0 a ha => (k4 h0 a ha).2.2), fun h0 a ha => ⟨(k4 h0 a ha).1, by have := (k4 h0 a ha).2.1; omega, sep a (k4 h0 a ha).2.1 (k4 h0 a ha).2.2⟩⟩
  unfold Oper.wp execOp
  simp only [ho, resolve, invoke, builtin, Sem.run_bind, Sem.run_pure, Result.andThen_ok, List.map_toArray, List.map_cons, List.map_nil, hs, hx, hrun]
  exact hK _ _ (h v' w' hLn h3 (fun g hg => (World.ownsRow.lt hown g hg).1))
theorem Lss.put {A : Option Addr} {n c : Nat} (h : Lss w base (.slice A n c) xss) {i : Nat} (hi : i < xss.length) {A3 : Option Addr} {c3 : Nat} {ys : List Int} (hys : ys.length ≤ c3) (hr : Rds .i64 w w.heap.size A3 ys) (hsep : 0 < ys.length → ∀ a : Addr, A3 = some a → base ≤ a.block ∧ a.block < w.heap.size ∧ (Value.slice A n c).ownBlock ≠ some a.block) :
    ∃ g, A = some ⟨g, 0, .none⟩ ∧ base ≤ g ∧ (∃ y, w.cell? ⟨g, i, .none⟩ = some y) ∧ w.frozen? ⟨g, i, .none⟩ = false ∧ w.grownBy (w.setCell ⟨g, i, .none⟩ (.slice A3 ys.length c3)) (some g) ∧ Lss (w.setCell ⟨g, i, .none⟩ (.slice A3 ys.length c3)) base (.slice A n c) (xss.set i ys) := by
  obtain ⟨hb, cs, hO, hR⟩ := h
  have hlen : cs.length = xss.length := by have := hO.1; omega
  rcases hO.2 with ⟨h0, h1⟩ | ⟨g, cap, cur, hv, hbg, hg, hnc, hcm, hcs, ht⟩
  · omega
  · simp only [Value.slice.injEq] at hv
    obtain ⟨rfl, rfl, rfl⟩ := hv
    have hst := World.ownsRow.stored hO i (.slice A3 ys.length c3)
    refine ⟨g, rfl, hbg, ⟨cs[i]'(by omega), by rw [World.ownsRow.cellAt hO i (by omega)]; exact List.getElem?_eq_getElem (by omega)⟩, World.ownsRow.frozenAt hO i, hst.2, ?_⟩
    have hs := hst.2.size
    have keep : ∀ {B : Option Addr} {xs : List Int}, Rds .i64 w w.heap.size B xs → (0 < xs.length → ∀ a : Addr, B = some a → (Value.slice (some ⟨g, 0, .none⟩) xss.length c).ownBlock ≠ some a.block) → Rds .i64 (w.setCell ⟨g, i, .none⟩ (.slice A3 ys.length c3)) (w.setCell ⟨g, i, .none⟩ (.slice A3 ys.length c3)).heap.size B xs := fun hr hs2 => rds_blk hr fun h0 a ha hl => ⟨hst.2.block _ hl (fun e => hs2 h0 a ha e.symm), Nat.lt_of_lt_of_le hl hs⟩
    refine ⟨Nat.le_trans hb hs, cs.set i (.slice A3 ys.length c3), by rw [List.length_set]; exact hst.1, fun j hj => ?_⟩
    rw [List.length_set] at hj
    by_cases e : j = i
    · subst e
      have e1 : (xss.set j ys).getD j [] = ys := by simp [List.getD_eq_getElem?_getD, hj]
      rw [e1]
      exact ⟨A3, c3, hys, by rw [List.getElem?_set_self (by omega)], keep hr (fun h0 a ha => (hsep h0 a ha).2.2), fun h0 a ha => ⟨(hsep h0 a ha).1, by have := (hsep h0 a ha).2.1; omega, (hsep h0 a ha).2.2⟩⟩
    · have e1 : (xss.set i ys).getD j [] = xss.getD j [] := by simp [List.getD_eq_getElem?_getD, List.getElem?_set_ne (Ne.symm e)]
      rw [e1]
      obtain ⟨Aj, cj, k1, k2, k3, k4⟩ := hR j hj
      exact ⟨Aj, cj, k1, by rw [List.getElem?_set_ne (Ne.symm e)]; exact k2, keep k3 (fun h0 a ha => (k4 h0 a ha).2.2), fun h0 a ha => ⟨(k4 h0 a ha).1, by have := (k4 h0 a ha).2.1; omega, (k4 h0 a ha).2.2⟩⟩
end
end Go.Proofs.Ytkjebidkkopalaa
namespace Go.Proofs.Ytkjebidkkopalaa
open Go.RowKit Go.Shelf
set_option linter.unusedSimpArgs false
set_option linter.unusedVariables false

theorem GS.swapR {W0 w w' : World} {t : Rg} {L : List Rg} {Bs : List Bxg} (h : GS W0 w (t :: L) Bs) {E : TypeId} {C n lo hi : Nat} {v : Value} {cs : List Value} (hO : w'.ownsRow lo E C v n cs) (hv : ∀ g, v.ownBlock = some g → g < hi) (hb : (lo = t.lo ∧ hi = t.hi) ∨ (lo = w.heap.size ∧ hi = w'.heap.size)) (hg : w.grownBy w' t.v.ownBlock) :
    GS W0 w' (⟨lo, hi, E, C, v, n, cs⟩ :: L) Bs := by
  have hs := hg.size
  have ht := h.2.1 t (by simp)
  have hp := List.pairwise_cons.1 h.2.2.1
  have hlt := World.ownsRow.lt ht.1.1
  refine ⟨h.1.grown hg h.1.size (fun k hk => by have := (hlt k hk).1; have := ht.2.1; omega), ?_, ?_, ?_, h.2.2.2.2⟩
  · intro s hs'
    rcases List.mem_cons.1 hs' with rfl | hm
    · refine ⟨⟨hO, hv⟩, ?_, ?_⟩
      · have := ht.2.1; have := h.1.size; show W0.heap.size ≤ lo; omega
      · have := ht.2.2; show hi ≤ w'.heap.size; omega
    · have hs2 := h.2.1 s (by simp [hm])
      have hd := hp.1 s hm
      refine ⟨hs2.1.keep fun g h1 h2 => hg.block g (by omega) (fun e => ?_), hs2.2.1, by omega⟩
      have h3 := (hlt g e.symm).1
      have h4 := ht.1.2 g e.symm
      unfold Rg.apart at hd
      omega
  · refine List.pairwise_cons.2 ⟨fun a ha => ?_, hp.2⟩
    have h1 := hp.1 a ha
    have h2 := (h.2.1 a (by simp [ha])).2.2
    unfold Rg.apart at h1 ⊢
    show a.hi ≤ lo ∨ hi ≤ a.lo
    omega
  · intro b hm
    have hb2 := h.2.2.2.1 b hm
    have hbl := hb2.1.lt
    refine ⟨(hg.block b.g hb2.1.lt (fun e => ?_)).trans hb2.1, hb2.2.1, fun s hs' => ?_⟩
    · have h1 := hb2.2.2 t (by simp)
      have h3 := (hlt b.g e.symm).1
      have h4 := ht.1.2 b.g e.symm
      omega
    · rcases List.mem_cons.1 hs' with rfl | hm
      · have h1 := hb2.2.2 t (by simp)
        show hi ≤ b.g ∨ b.g < lo
        omega
      · exact hb2.2.2 s (by simp [hm])
theorem ownsRow_base {w : World} {base base' : Nat} {E : TypeId} {C n : Nat} {v : Value} {cs : List Value} (h : w.ownsRow base E C v n cs) (hb : base' ≤ base) : w.ownsRow base' E C v n cs := by
  refine ⟨h.1, ?_⟩
  rcases h.2 with h2 | ⟨g, cap, cur, hv, hbg, r⟩
  · exact .inl h2
  · exact .inr ⟨g, cap, cur, hv, by omega, r⟩
theorem ownsRow_up {w : World} {base base' : Nat} {E : TypeId} {C n : Nat} {v : Value} {cs : List Value} (h : w.ownsRow base E C v n cs) (hb : ∀ g, v.ownBlock = some g → base' ≤ g) : w.ownsRow base' E C v n cs := by
  refine ⟨h.1, ?_⟩
  rcases h.2 with h2 | ⟨g, cap, cur, hv, hbg, r⟩
  · exact .inl h2
  · exact .inr ⟨g, cap, cur, hv, hb g (by rw [hv]; rfl), r⟩
def LsG (W0 w : World) (v : Value) (xss : List (List Int)) (Bs : List Bxg) (d : Nat) : Prop :=
  ∃ M A c, v = .slice A xss.length c ∧ xss.length ≤ c ∧ LsM M A c xss ∧ GS W0 w M Bs ∧ ∀ t ∈ M, d ≤ t.lo
theorem LsG.nil {W0 w : World} {Bs : List Bxg} {d : Nat} (h : GS W0 w [] Bs) (hd : d ≤ w.heap.size) : LsG W0 w (.slice .none 0 0) [] Bs d := by
  refine ⟨[hdr w.heap.size w.heap.size .none 0 0 []], .none, 0, rfl, Nat.le_refl _, ⟨w.heap.size, w.heap.size, [], [], rfl, rfl, fun i hi => by simp at hi⟩, ⟨h.1, ?_, List.pairwise_singleton _ _, ?_, h.2.2.2.2⟩, fun t ht => by obtain rfl : t = _ := List.mem_singleton.1 ht; exact hd⟩
  · intro t ht
    obtain rfl : t = _ := List.mem_singleton.1 ht
    exact ⟨⟨World.ownsRow_nil _ _ _ _, fun g hg => by simp [hdr, Value.ownBlock] at hg⟩, h.1.size, Nat.le_refl _⟩
  · intro b hm
    refine ⟨(h.2.2.2.1 b hm).1, (h.2.2.2.1 b hm).2.1, fun t ht => ?_⟩
    obtain rfl : t = _ := List.mem_singleton.1 ht
    exact .inr (h.2.2.2.1 b hm).1.lt
theorem LsG.none {W0 w : World} {Bs : List Bxg} {d : Nat} (h : GS W0 w [] Bs) (hd : d ≤ w.heap.size) : LsG W0 (w.alloc (.cells #[] 23)) (.slice (some ⟨w.heap.size, 0, .none⟩) 0 0) [] Bs d :=
  ⟨[hdr w.heap.size (w.alloc (.cells #[] 23)).heap.size (some ⟨w.heap.size, 0, .none⟩) 0 0 []], _, 0, rfl, Nat.le_refl _, ⟨_, _, [], [], rfl, rfl, fun i hi => by simp at hi⟩,
    h.addR (World.ownsRow_made w #[] 0 (Nat.le_refl _) (Nat.zero_le _) (by simp)) ((Below.refl _ _).alloc (Nat.le_refl _) _), fun t ht => by obtain rfl : t = _ := List.mem_singleton.1 ht; exact hd⟩
section
variable {W0 w w' : World} {v : Value} {xss : List (List Int)} {Bs : List Bxg} {d : Nat}
theorem LsG.slice (h : LsG W0 w v xss Bs d) : ∃ A c, v = .slice A xss.length c ∧ xss.length ≤ c := by
  obtain ⟨M, A, c, h1, h2, _⟩ := h
  exact ⟨A, c, h1, h2⟩
theorem LsG.rdss {A : Option Addr} {n c : Nat} (h : LsG W0 w (.slice A n c) xss Bs d) : Rdss w w.heap.size A xss := by
  obtain ⟨M, A', c', h1, h2, h3, h4, h5⟩ := h
  simp only [Value.slice.injEq] at h1
  obtain ⟨rfl, _, _⟩ := h1
  exact LsM.rds h4 h3 (fun t ht => ht)
theorem LsG.call (h : LsG W0 w v xss Bs d) (hB : Below w.heap.size w w') : LsG W0 w' v xss Bs d := by
  obtain ⟨M, A, c, h1, h2, h3, h4, h5⟩ := h
  exact ⟨M, A, c, h1, h2, h3, h4.call hB, h5⟩
theorem LsG.box (h : LsG W0 w v xss Bs d) (T : TypeId) (cs : Array Value) (g : Nat) (hg : g = w.heap.size) : LsG W0 (w.alloc (.cells cs T)) v xss (⟨g, T, cs⟩ :: Bs) d := by
  obtain ⟨M, A, c, h1, h2, h3, h4, h5⟩ := h
  exact ⟨M, A, c, h1, h2, h3, h4.box' T cs g hg, h5⟩
theorem LsG.below (h : LsG W0 w v xss Bs d) : Below W0.heap.size W0 w := by
  obtain ⟨M, A, c, h1, h2, h3, h4, h5⟩ := h
  exact h4.below
theorem LsG.bx (h : LsG W0 w v xss Bs d) {g : Nat} {T : TypeId} {cs : Array Value} (hm : ⟨g, T, cs⟩ ∈ Bs) : Bx w g T cs := by
  obtain ⟨M, A, c, h1, h2, h3, h4, h5⟩ := h
  exact h4.bx hm
theorem LsG.drop (h : LsG W0 w v xss Bs d) : LsG W0 w v xss [] d := by
  obtain ⟨M, A, c, h1, h2, h3, h4, h5⟩ := h
  exact ⟨M, A, c, h1, h2, h3, ⟨h4.1, h4.2.1, h4.2.2.1, by simp, .nil⟩, h5⟩
theorem LsG.other {b : Bxg} (h : LsG W0 w v xss (b :: Bs) d) : LsG W0 w v xss Bs d := by
  obtain ⟨M, A, c, h1, h2, h3, h4, h5⟩ := h
  exact ⟨M, A, c, h1, h2, h3, ⟨h4.1, h4.2.1, h4.2.2.1, fun b hm => h4.2.2.2.1 b (by simp [hm]), (List.pairwise_cons.1 h4.2.2.2.2).2⟩, h5⟩
theorem LsG.own (h : LsG W0 w v xss Bs d) : ∀ g, v.ownBlock = some g → d ≤ g ∧ W0.heap.size ≤ g ∧ g < w.heap.size := by
  obtain ⟨M, A, c, rfl, h2, ⟨lo, hi, cs, R, rfl, _⟩, h4, hd⟩ := h
  intro g hg
  have ht := h4.2.1 _ (List.mem_cons_self ..)
  have h5 := World.ownsRow.lt ht.1.1 g hg
  have := ht.2.1
  have := hd _ (List.mem_cons_self ..)
  simp only [hdr] at *
  omega
theorem GS.off {L : List Rg} (h : GS W0 w L Bs) {mb : Nat} (hG : w.grownBy w' (some mb)) (h0 : W0.heap.size ≤ mb) (hL : ∀ t ∈ L, mb < t.lo) (hB : ∀ b ∈ Bs, b.g ≠ mb) : GS W0 w' L Bs :=
  ⟨h.1.grown hG h.1.size (fun k hk => by injection hk with hk; omega), fun t ht => ⟨(h.2.1 t ht).1.keep fun g h1 h2 => hG.block g (by have := (h.2.1 t ht).2.2; omega) (fun e => by injection e with e; have := hL t ht; omega), (h.2.1 t ht).2.1, Nat.le_trans (h.2.1 t ht).2.2 hG.size⟩, h.2.2.1,
    fun b hm => ⟨(hG.block b.g (h.2.2.2.1 b hm).1.lt (fun e => by injection e with e; exact hB b hm e)).trans (h.2.2.2.1 b hm).1, (h.2.2.2.1 b hm).2⟩, h.2.2.2.2⟩
theorem LsG.off (h : LsG W0 w v xss Bs d) {mb : Nat} (hG : w.grownBy w' (some mb)) (h0 : W0.heap.size ≤ mb) (hd : mb < d) (hB : ∀ b ∈ Bs, b.g ≠ mb) : LsG W0 w' v xss Bs d := by
  obtain ⟨M, A, c, h1, h2, h3, h4, h5⟩ := h
  exact ⟨M, A, c, h1, h2, h3, h4.off hG h0 (fun t ht => Nat.lt_of_lt_of_le hd (h5 t ht)) hB, h5⟩
theorem wp_appG {o : Oper} {a : Act} {K : Act → World → Prop} {Q : Exit → Act → World → Prop} (s x : Operand)
    (ho : o.op = .call { callee := .builtin .append, args := #[s, x], argTypes := #[27, 27] })
    (W0 : World) (M : List Rg) (Bs : List Bxg) (A : Option Addr) (c0 : Nat) (xss : List (List Int)) (hs : a.eval s = .slice A xss.length c0) (hM : LsM M A c0 xss)
    (p c lo hh : Nat) (E : TypeId) (A3 : Option Addr) (ys : List Int) (n3 c3 c3' : Nat) (hG : GS W0 w (rt E 1 lo hh (.slice A3 n3 c3') n3 ys :: M) Bs) (hx : a.eval x = .slice (some ⟨p, 0, .none⟩) 1 c) (hn3 : n3 = ys.length) (hcell : w.cell? ⟨p, 0, .none⟩ = some (.slice A3 n3 c3)) (hys : ys.length ≤ c3) (hn : xss.length ≤ 1000) (hd : ∀ t ∈ M, d ≤ t.lo) (hdl : d ≤ lo) (hlo : lo ≤ w.heap.size)
    (h : ∀ v' w', LsG W0 w' v' (xss ++ [ys]) Bs d → w.grownBy w' (Value.slice A xss.length c0).ownBlock → K (a.put o.dst v') w') : o.wp Try.prog a w K Q := by
  subst hn3
  obtain ⟨lo1, hi1, cs, R, rfl, hRl, hR⟩ := hM
  have hG2 : GS W0 w (hdr lo1 hi1 A xss.length c0 cs :: rt E 1 lo hh (.slice A3 ys.length c3') ys.length ys :: R) Bs := hG.perm (List.Perm.swap _ _ _)
  have ht := hG2.2.1 _ (List.mem_cons_self ..)
  have hown0 : w.ownsRow lo1 23 1 (.slice A xss.length c0) xss.length cs := ht.1.1
  have hown : w.ownsRow W0.heap.size 23 1 (.slice A xss.length c0) xss.length cs := ownsRow_base hown0 ht.2.1
  have hbase : W0.heap.size ≤ w.heap.size := hG2.1.size
  obtain ⟨i, hi, hz, hsz, hb⟩ := info_parts info_list
  have hnews : ∀ j u, [Value.slice A3 ys.length c3][j]? = some u → w.cell? ((⟨p, 0, .none⟩ : Addr).add j) = some u := by
    intro j u hu
    match j with
    | 0 => simp at hu; subst hu; simpa [Addr.add] using hcell
    | j + 1 => simp at hu
  have h1 : ∀ u ∈ [Value.slice A3 ys.length c3], u.oneCell' = true := by intro u hu; simp at hu; subst hu; rfl
  obtain ⟨v', w', hrun, h2, h3, h4⟩ := run_append_own (P := Try.prog) w W0.heap.size 27 o.type 23 i _ 1 24 Try.underlying27 hi hz hsz hb rfl (by omega) (.slice A xss.length c0) xss.length cs hown ⟨p, 0, .none⟩ 1 c [.slice A3 ys.length c3] (by simp) hnews h1 (by unfold maxLen; omega) (by omega) hbase
  have hwh : (∀ g, v'.ownBlock = some g → (Value.slice A xss.length c0).ownBlock = some g) ∨ (∀ g, v'.ownBlock = some g → w.heap.size ≤ g) := by
    rcases hown.2 with ⟨hv, h0⟩ | ⟨g0, cap, cur, hv, hbg, hg, hnc, hcm, hcs, htake⟩
    · simp only [Value.slice.injEq] at hv
      obtain ⟨rfl, _, rfl⟩ := hv
      have hx0 : cs = [] := List.eq_nil_of_length_eq_zero (by have := hown.1; omega)
      subst hx0
      obtain ⟨v2, w2, hr2, h22, _⟩ := run_append_own (P := Try.prog) w w.heap.size 27 o.type 23 i _ 1 24 Try.underlying27 hi hz hsz hb rfl (by omega) (.slice .none 0 0) 0 [] (World.ownsRow_nil _ _ _ _) ⟨p, 0, .none⟩ 1 c [.slice A3 ys.length c3] (by simp) hnews h1 (by unfold maxLen; omega) (by omega) (Nat.le_refl _)
      rw [h0] at hrun
      rw [hrun] at hr2
      injection hr2 with e1 e2
      subst e1
      right
      intro g hg
      exact (World.ownsRow.lt h22 g hg).1
    · simp only [Value.slice.injEq] at hv
      obtain ⟨rfl, _, rfl⟩ := hv
      by_cases hroom : xss.length + 1 ≤ c0
      · have hr2 := run_append_room (P := Try.prog) w 27 o.type 23 i Try.underlying27 hi g0 xss.length c0 cur hg ⟨p, 0, .none⟩ 1 c [.slice A3 ys.length c3] (by simp [hsz]) hnews h1 hroom (by rw [hsz, hcs]; simp; omega)
        rw [hrun] at hr2
        injection hr2 with e1 e2
        subst e1
        exact .inl fun g hg => hg
      · have hr2 := run_append_grow (P := Try.prog) w 27 o.type 23 i _ Try.underlying27 hi hz ⟨g0, 0, .none⟩ xss.length c0 cs (by rw [hsz]; exact hown.1) (World.ownsRow.cells hown (g := g0) rfl) ⟨p, 0, .none⟩ 1 c [.slice A3 ys.length c3] (by simp [hsz]) hnews (by omega) (by omega) (growslice_fits (by omega) (by rw [hb]; omega))
        rw [hrun] at hr2
        injection hr2 with e1 e2
        subst e1
        right
        intro g hg'
        simp [Value.ownBlock] at hg'
        omega
  have hlen : cs.length = xss.length := by have := hown.1; omega
  have hLn : LsG W0 w' v' (xss ++ [ys]) Bs d := by
    have hd1 : d ≤ lo1 := hd _ (List.mem_cons_self ..)
    have hsl : ∃ A' c', v' = .slice A' (xss.length + 1) c' ∧ xss.length + 1 ≤ c' := by
      rcases h2.2 with ⟨_, h0⟩ | ⟨g, cap, cur, hv, _, _, hnc, _⟩
      · simp at h0
      · exact ⟨_, cap, by simpa using hv, by simpa using hnc⟩
    obtain ⟨A', c', rfl, hc'⟩ := hsl
    have hst : ∃ lo2 hi2, w'.ownsRow lo2 23 1 (.slice A' (xss.length + 1) c') (xss.length + 1) (cs ++ [.slice A3 ys.length c3]) ∧ (∀ g, (Value.slice A' (xss.length + 1) c').ownBlock = some g → g < hi2) ∧ ((lo2 = lo1 ∧ hi2 = hi1) ∨ (lo2 = w.heap.size ∧ hi2 = w'.heap.size)) := by
      rcases hwh with hw | hw
      · exact ⟨lo1, hi1, ownsRow_up (by simpa using h2) (fun g hg => (World.ownsRow.lt hown0 g (hw g hg)).1), fun g hg => ht.1.2 g (hw g hg), .inl ⟨rfl, rfl⟩⟩
      · exact ⟨w.heap.size, w'.heap.size, ownsRow_up (by simpa using h2) hw, fun g hg => (World.ownsRow.lt h2 g hg).2, .inr ⟨rfl, rfl⟩⟩
    obtain ⟨lo2, hi2, hO2, hh2, hor⟩ := hst
    have hS := GS.swapR hG2 hO2 hh2 hor h3
    have e0 : (xss ++ [ys]).length = xss.length + 1 := by simp
    refine ⟨hdr lo2 hi2 A' (xss.length + 1) c' (cs ++ [.slice A3 ys.length c3]) :: (R ++ [rt E 1 lo hh (.slice A3 ys.length c3') ys.length ys]), A', c', by rw [e0], by rw [e0]; exact hc', ⟨lo2, hi2, _, _, by rw [e0], by simp [hRl], fun j hj => ?_⟩, ?_, fun t ht => ?_⟩
    · by_cases e : j = xss.length
      · subst e
        have e1 : (xss ++ [ys]).getD xss.length [] = ys := by simp [List.getD_eq_getElem?_getD]
        rw [e1]
        exact ⟨E, lo, hh, A3, c3, c3', hys, by rw [← hlen, List.getElem?_append_right (Nat.le_refl _), Nat.sub_self]; rfl, by rw [← hRl, List.getElem?_append_right (Nat.le_refl _), Nat.sub_self]; rfl⟩
      · have hj2 : j < xss.length := by simp at hj; omega
        have e1 : (xss ++ [ys]).getD j [] = xss.getD j [] := by simp [List.getD_eq_getElem?_getD, List.getElem?_append_left hj2]
        rw [e1]
        obtain ⟨Ej, lj, hj', Aj, cj, cj', k1, k2, k3⟩ := hR j hj2
        exact ⟨Ej, lj, hj', Aj, cj, cj', k1, by rw [List.getElem?_append_left (by omega)]; exact k2, by rw [List.getElem?_append_left (by omega)]; exact k3⟩
    · exact hS.perm (List.Perm.cons _ (List.perm_append_singleton _ _).symm)
    · rcases List.mem_cons.1 ht with rfl | ht
      · show d ≤ lo2
        omega
      · rcases List.mem_append.1 ht with ht | ht
        · exact hd _ (List.mem_cons_of_mem _ ht)
        · obtain rfl : t = _ := List.mem_singleton.1 ht
          exact hdl
  unfold Oper.wp execOp
  simp only [ho, resolve, invoke, builtin, Sem.run_bind, Sem.run_pure, Result.andThen_ok, List.map_toArray, List.map_cons, List.map_nil, hs, hx, hrun]
  exact h v' w' hLn h3
theorem wpList_appG {ops : Array Oper} {rest : List Oper} {o : Oper} {a : Act} {Q : Exit → Act → World → Prop} (hgd : o.guard = .none) (s x : Operand)
    (ho : o.op = .call { callee := .builtin .append, args := #[s, x], argTypes := #[27, 27] })
    (W0 : World) (M : List Rg) (Bs : List Bxg) (A : Option Addr) (c0 : Nat) (xss : List (List Int)) (hs : a.eval s = .slice A xss.length c0) (hM : LsM M A c0 xss)
    (p c lo hh : Nat) (E : TypeId) (A3 : Option Addr) (ys : List Int) (n3 c3 c3' : Nat) (hG : GS W0 w (rt E 1 lo hh (.slice A3 n3 c3') n3 ys :: M) Bs) (hx : a.eval x = .slice (some ⟨p, 0, .none⟩) 1 c) (hn3 : n3 = ys.length) (hcell : w.cell? ⟨p, 0, .none⟩ = some (.slice A3 n3 c3)) (hys : ys.length ≤ c3) (hn : xss.length ≤ 1000) (hd : ∀ t ∈ M, d ≤ t.lo) (hdl : d ≤ lo) (hlo : lo ≤ w.heap.size)
    (h : ∀ v' w', LsG W0 w' v' (xss ++ [ys]) Bs d → w.grownBy w' (Value.slice A xss.length c0).ownBlock → wpList Try.prog ops Q rest (a.put o.dst v') w') : wpList Try.prog ops Q (o :: rest) a w :=
  wpList_plain hgd fun _ hK => wp_appG s x ho W0 M Bs A c0 xss hs hM p c lo hh E A3 ys n3 c3 c3' hG hx hn3 hcell hys hn hd hdl hlo fun v' w' h1 h2 => hK _ _ (h v' w' h1 h2)
end
end Go.Proofs.Ytkjebidkkopalaa
namespace Go.Proofs.Ytkjebidkkopalaa
open Go.RowKit
set_option linter.unusedSimpArgs false
set_option linter.unusedVariables false
set_option maxRecDepth 20000

def pxk (P : Nat) (xs : List Int) (k : Nat) : List Int := (xs.drop (k * P)).take P
theorem pxk_len {P : Nat} {xs : List Int} {k : Nat} (h : k * P + P ≤ xs.length) : (pxk P xs k).length = P := by simp [pxk]; omega
theorem pxk_get {P : Nat} {xs : List Int} {k j : Nat} (h : j < P) : (pxk P xs k).getD j 0 = xs.getD (k * P + j) 0 := by
  unfold pxk
  simp [List.getD_eq_getElem?_getD, List.getElem?_take, List.getElem?_drop, h]
def acL (P : Nat) (xs : List Int) : Nat → List (List Int)
  | 0 => []
  | k + 1 => if pxk P xs k ∈ acL P xs k then acL P xs k else acL P xs k ++ [pxk P xs k]
theorem acL_len (P : Nat) (xs : List Int) : ∀ k, (acL P xs k).length ≤ k
  | 0 => Nat.le_refl _
  | k + 1 => by
    have ih := acL_len P xs k
    unfold acL
    split
    · omega
    · simp; omega
theorem acL_row {P : Nat} {xs : List Int} : ∀ {k : Nat}, k * P ≤ xs.length → ∀ ys ∈ acL P xs k, ∃ i, i < k ∧ ys = pxk P xs i
  | 0, _, ys, h => by simp [acL] at h
  | k + 1, hk, ys, h => by
    have hk' : k * P ≤ xs.length := by rw [Nat.add_mul] at hk; omega
    unfold acL at h
    split at h
    · obtain ⟨i, hi, e⟩ := acL_row hk' ys h
      exact ⟨i, by omega, e⟩
    · rcases List.mem_append.1 h with h | h
      · obtain ⟨i, hi, e⟩ := acL_row hk' ys h
        exact ⟨i, by omega, e⟩
      · simp at h
        exact ⟨k, by omega, h⟩
theorem Lss.base_le {w : World} {base base' : Nat} {v : Value} {xss : List (List Int)} (h : Lss w base v xss) (hb : base' ≤ base) : Lss w base' v xss := by
  obtain ⟨h1, cs, hO, hR⟩ := h
  refine ⟨Nat.le_trans hb h1, cs, ?_, fun i hi => ?_⟩
  · refine ⟨hO.1, ?_⟩
    rcases hO.2 with h2 | ⟨g, cap, cur, hv, hbg, r⟩
    · exact .inl h2
    · exact .inr ⟨g, cap, cur, hv, by omega, r⟩
  · obtain ⟨Ai, ci, k1, k2, k3, k4⟩ := hR i hi
    exact ⟨Ai, ci, k1, k2, k3, fun h0 a ha => ⟨Nat.le_trans hb (k4 h0 a ha).1, (k4 h0 a ha).2⟩⟩
set_option maxHeartbeats 4000000 in
theorem sCat_any (A A' : Option Addr) (c c' n n' : Nat) (xss : List (List Int)) (ys : List Int) (w : World) (hn : n = xss.length) (hn' : n' = ys.length) (h : Rdss w w.heap.size A xss) (hy : Rds .i64 w w.heap.size A' ys) (hl : tot xss ≤ 2000000) (hl' : ys.length ≤ 2000000) :
    Calls Try.prog 81 #[.slice A n c, .slice A' n' c'] w fun e w' => ∃ q : Int, e = .returned (.int .i64 q) ∧ (q < 0 ↔ ys ∉ xss) ∧ ∃ m, w' = w.drewN m := by
  have Hh := Lib.hid h
  have HY := Lib.hid hy
  have Hn := Lib.hid hn
  have Hn' := Lib.hid hn'
  have Hl' := Lib.hid hl'
  have HL : Hid (∀ i, i < xss.length → (xss.getD i []).length ≤ 2000000) := Lib.hid fun i hi => Nat.le_trans (len_le_tot hi) hl
  have hnl : n ≤ 2000000 := by rw [hn]; unfold tot at hl; omega
  clear h hy hn hn' hl hl'
  go_enter Try.func81, Try.ntmps81
  go_wp2
  go_loopw [5] (fun i wr => ∃ k : Nat, k ≤ n ∧ i = .int .i64 (k : Int) ∧ Hid (∀ i, i < k → xss.getD i [] ≠ ys) ∧ Hid (∃ m, wr = w.drewN m)) (fun i _ => n - (intOf i).toNat)
  case atStart => exact ⟨0, Nat.zero_le _, rfl, Lib.hid (fun i hi => by omega), Lib.hid ⟨0, rfl⟩⟩
  case round =>
    obtain ⟨k, hk, rfl, HN, HW⟩ := hrel
    by_cases hlt : k < n
    · have hkl : k < xss.length := by have := Hn.out; omega
      have hkp : ∀ p, wr.cell? p = w.cell? p := by obtain ⟨m, e⟩ := HW.out; intro p; rw [e]; rfl
      obtain ⟨b, off, Ai, ci, rfl, hb, hci, hc0, hr0⟩ := Hh.out.at hkl
      have hc := (hkp _).trans hc0
      have HR := Lib.hid (hr0.keep (w' := wr) fun p _ => hkp p)
      have HYw := Lib.hid (HY.out.keep (w' := wr) fun p _ => hkp p)
      have hml := HL.out k hkl
      have HE := Lib.hid (sEqualInts_any Ai A' ci c' (xss.getD k []) ys _ _ wr HR.out HYw.out (by omega) (by have := Hl'.out; omega))
      rw [← Hn'.out] at HE
      have HX : Hid (xss.getD k [] = ys → ys ∈ xss) := Lib.hid (fun e => by rw [← e, List.getD_eq_getElem?_getD, List.getElem?_eq_getElem hkl]; exact List.getElem_mem hkl)
      have HK : Hid (xss.getD k [] ≠ ys → ∀ i, i < k + 1 → xss.getD i [] ≠ ys) := Lib.hid (fun h i hi => by
        by_cases e : i = k
        · subst e; exact h
        · exact HN.out i (by omega))
      obtain ⟨xs, hxs⟩ : ∃ xs, xs = xss.getD k [] := ⟨_, rfl⟩
      rw [← hxs] at HK HX HE hc hml
      clear hc0 hr0 hkp hci hxs HR
      go_wp2_with fail
      refine HE.out.mono ?_
      rintro e w2 ⟨rfl, m2, rfl⟩
      by_cases hxy : xs = ys
      · rw [decide_eq_true hxy]
        have HM := Lib.hid (HX.out hxy)
        clear hxy HE
        go_wp2
        go_ret
        exact ⟨(k : Int), rfl, ⟨fun h => by omega, fun h => absurd HM.out h⟩, by obtain ⟨m, e⟩ := HW.out; exact ⟨m + m2, by rw [e]; exact World.drewN_drewN _ _ _⟩⟩
      · rw [decide_eq_false hxy]
        have HN2 : Hid (xs ≠ ys) := Lib.hid hxy
        clear hxy HE HX
        have HWn : Hid (∃ m, wr.drewN m2 = w.drewN m) := Lib.hid (by obtain ⟨m, e⟩ := HW.out; exact ⟨m + m2, by rw [e]; exact World.drewN_drewN _ _ _⟩)
        have HNn := Lib.hid (HK.out HN2.out)
        go_wp2
        go_roundw
        case rel => exact ⟨k + 1, by omega, by go_num, HNn, HWn⟩
        case measure => simp [intOf]; omega
    · have hk' : k = n := by omega
      have HF : Hid (ys ∉ xss) := Lib.hid (fun hm => by
        obtain ⟨i, hi, e⟩ := List.mem_iff_getElem.1 hm
        have := HN.out i (by have := Hn.out; omega)
        rw [List.getD_eq_getElem?_getD, List.getElem?_eq_getElem hi] at this
        exact this e)
      go_wp2
      go_ret
      exact ⟨-1, rfl, ⟨fun _ => HF.out, fun _ => by omega⟩, HW.out⟩
set_option maxHeartbeats 8000000 in
theorem sAll_any (W H P : Nat) (hW1 : 1 ≤ W) (hW : W ≤ 16) (hH1 : 1 ≤ H) (hH : H ≤ 16) (hP1 : 1 ≤ P) (hP4 : P ≤ 4) (A : Option Addr) (c : Nat) (xs : List Int) (hln : xs.length = W * H * P) (hlc : xs.length ≤ c) (w : World) (hx : Rds .i64 w w.heap.size A xs) :
    Calls Try.prog 45 #[.agg #[.int .i64 (W : Int), .int .i64 (H : Int), .int .i64 (P : Int), .slice A xs.length c]] w fun e w' => ∃ v, e = .returned v ∧ Lss w' (w.heap.size + 1) v (acL P xs (W * H)) ∧ Below w.heap.size w w' := by
  obtain ⟨N, hN⟩ : ∃ N, N = W * H := ⟨_, rfl⟩
  have hN256 : N ≤ 256 := by rw [hN]; exact Nat.mul_le_mul hW hH
  have hNpos : 0 < N := by rw [hN]; exact Nat.mul_pos hW1 hH1
  have hpos : 0 < xs.length := by rw [hln, ← hN]; exact Nat.mul_pos hNpos hP1
  obtain ⟨b, off, rfl, hb, hcx⟩ := hx.cells_ hpos
  have HX := Lib.hid hx
  have HCx := Lib.hid hcx
  obtain ⟨n1, hn1⟩ : ∃ n1, n1 = xs.length := ⟨_, rfl⟩
  have HLn : Hid (n1 = N * P) := Lib.hid (by rw [hn1, hln, hN])
  have Hn1 := Lib.hid hn1
  have hn1b : n1 ≤ 1024 := by rw [hn1, hln, ← hN]; have := Nat.mul_le_mul hN256 hP4; omega
  have hlc2 : n1 ≤ c := by rw [hn1]; exact hlc
  have HB0 : Hid (Bx ((w.alloc (.cells #[.int .i64 (W : Int), .int .i64 (H : Int), .int .i64 (P : Int), .slice (some ⟨b, off, none⟩) n1 c] 25)).alloc (.cells #[] 23)) w.heap.size 25 #[.int .i64 (W : Int), .int .i64 (H : Int), .int .i64 (P : Int), .slice (some ⟨b, off, none⟩) n1 c] ∧ Below w.heap.size w ((w.alloc (.cells #[.int .i64 (W : Int), .int .i64 (H : Int), .int .i64 (P : Int), .slice (some ⟨b, off, none⟩) n1 c] 25)).alloc (.cells #[] 23)) ∧ Lss ((w.alloc (.cells #[.int .i64 (W : Int), .int .i64 (H : Int), .int .i64 (P : Int), .slice (some ⟨b, off, none⟩) n1 c] 25)).alloc (.cells #[] 23)) (w.heap.size + 1) (.slice (some ⟨w.heap.size + 1, 0, none⟩) 0 0) []) := Lib.hid (by
    have h1 := Lss.none (w.alloc (.cells #[.int .i64 (W : Int), .int .i64 (H : Int), .int .i64 (P : Int), .slice (some ⟨b, off, none⟩) n1 c] 25))
    refine ⟨(Bx.new w _ _).alloc _, ((Below.refl _ _).alloc (Nat.le_refl _) _).alloc (by simp) _, ?_⟩
    simpa using h1)
  rw [← hn1, ← hN]
  clear hx hcx hln hlc hpos hn1 hN HX
  go_enter Try.func45, Try.ntmps45
  go_wp2
  go_loopw [3, 4, 5] (fun v i x wr => ∃ k : Nat, k ≤ N ∧ i = .int .i64 ((k * P : Nat) : Int) ∧ Hid (Bx wr w.heap.size 25 #[.int .i64 (W : Int), .int .i64 (H : Int), .int .i64 (P : Int), .slice (some ⟨b, off, none⟩) n1 c] ∧ Below w.heap.size w wr ∧ Lss wr (w.heap.size + 1) v (acL P xs k))) (fun _ i _ _ => n1 - (intOf i).toNat)
  case atStart => exact ⟨0, Nat.zero_le _, by rw [Nat.zero_mul]; rfl, HB0⟩
  case round =>
    obtain ⟨k, hk, rfl, hI⟩ := hrel
    clear HB0
    obtain ⟨m0, m1, m2, m3⟩ := bx4 (T := 25) hI.out.1
    obtain ⟨A3, c3, rfl, hc3⟩ := hI.out.2.2.slice
    by_cases hlt : k < N
    · obtain ⟨q, hq⟩ : ∃ q, q = k * P := ⟨_, rfl⟩
      obtain ⟨q2, hq2⟩ : ∃ q2, q2 = (k + 1) * P := ⟨_, rfl⟩
      have hqq : q2 = q + P := by rw [hq, hq2, Nat.add_mul, Nat.one_mul]
      have hq2n : q2 ≤ n1 := by rw [hq2, HLn.out]; exact Nat.mul_le_mul_right P hlt
      have hqn : q < n1 := by omega
      rw [← hq]
      have hlp : q + P ≤ xs.length := by have := Hn1.out; omega
      have HLy : Hid ((pxk P xs k).length = P) := Lib.hid (pxk_len (by rw [← hq]; exact hlp))
      have hmem : Rds .i64 wr wr.heap.size (some ⟨b, off + q, none⟩) (pxk P xs k) := by
        refine .inr ⟨b, off + q, rfl, Nat.lt_of_lt_of_le hb hI.out.2.1.size, fun j hj => ?_⟩
        have hjP : j < P := by rw [HLy.out] at hj; exact hj
        rw [pxk_get hjP, ← hq, Nat.add_assoc]
        exact (hI.out.2.1.cell (p := ⟨b, off + (q + j), none⟩) hb).trans (HCx.out (q + j) (by omega))
      have HCP := Lib.hid (copyInts_any (some ⟨b, off + q, none⟩) (c - q) (pxk P xs k) wr hmem (by rw [HLy.out]; omega))
      rw [HLy.out] at HCP
      have HSt : Hid (acL P xs (k + 1) = if pxk P xs k ∈ acL P xs k then acL P xs k else acL P xs k ++ [pxk P xs k]) := Lib.hid rfl
      have HRow : Hid (∀ i, i < (acL P xs k).length → ((acL P xs k).getD i []).length ≤ 4) := Lib.hid (fun i hi => by
        obtain ⟨j, hj, e⟩ := acL_row (P := P) (xs := xs) (k := k) (by rw [← hq]; omega) ((acL P xs k).getD i []) (by rw [List.getD_eq_getElem?_getD, List.getElem?_eq_getElem hi]; exact List.getElem_mem hi)
        rw [e]
        unfold pxk
        rw [List.length_take]; omega)
      have hal := acL_len P xs k
      have i2 : (q : Int) + (P : Int) = (q2 : Int) := by rw [hqq]; simp
      have hw2 : IntKind.i64.wrap ((q2 : Nat) : Int) = (q2 : Int) := IntWalk.i64_in _ (by omega)
      have k1 : q ≤ q2 := by omega
      have k2 : q2 ≤ c := by omega
      have k3 : ¬ (c = q) := by omega
      have k4 : (q : Int) ≤ (q2 : Int) := by omega
      have k5 : (q2 : Int) ≤ (c : Int) := by omega
      have k6 : (q : Int) < (n1 : Int) := by omega
      have hqP : q2 - q = P := by omega
      have HQ : Hid ((q2 : Int) = (((k + 1) * P : Nat) : Int)) := Lib.hid (by rw [hq2])
      clear hmem hlp hq hqq hq2
      obtain ⟨ys, hys⟩ : ∃ ys, ys = pxk P xs k := ⟨_, rfl⟩
      rw [← hys] at HLy HCP HSt
      clear hys
      generalize acL P xs k = L at *
      go_wp2_with fail
      refine HCP.out.mono ?_
      rintro e w2 ⟨v2, rfl, hO2, hB2⟩
      obtain ⟨A5, c5, rfl, hc5⟩ := hO2.slice
      have hL2 := hI.out.2.2.below hB2
      have hX2 := hI.out.1.below hB2
      have hBw := hI.out.2.1.trans (hB2.mono hI.out.2.1.size)
      have htl : tot L ≤ 2000000 := by have := tot_le HRow.out; omega
      have HCA := Lib.hid (sCat_any A3 A5 c3 c5 L.length ys.length L ys w2 rfl rfl hL2.rdss hO2.rds.2 htl (by rw [HLy.out]; omega))
      have hsep0 : 0 < ys.length → ∀ a : Addr, A5 = some a → wr.heap.size ≤ a.block ∧ a.block < w2.heap.size := by
        intro h0 a ha
        obtain ⟨g1, cap, e1, h2, h3⟩ := hO2.form h0
        injection e1 with e1
        rw [e1] at ha
        injection ha with ha
        subst ha
        exact ⟨h2, h3⟩
      have hown : ∀ g, (Value.slice A3 L.length c3).ownBlock = some g → g < wr.heap.size := by
        obtain ⟨_, cs, hO5, _⟩ := hI.out.2.2
        exact fun g e => (World.ownsRow.lt hO5 _ e).2
      have hws : w.heap.size + 1 ≤ wr.heap.size := hI.out.1.lt
      clear hI hB2
      go_wp2_with fail
      refine HCA.out.mono ?_
      rintro e w3 ⟨z, rfl, hz, m3', rfl⟩
      have HL3 := Lib.hid (hL2.move (w' := w2.drewN m3') (Nat.le_refl _) fun _ _ _ => rfl)
      have HO3 := Lib.hid (hO2.drewN m3')
      have HX3 : Hid (Bx (w2.drewN m3') w.heap.size 25 #[.int .i64 (W : Int), .int .i64 (H : Int), .int .i64 (P : Int), .slice (some ⟨b, off, none⟩) n1 c]) := Lib.hid hX2
      have HB3 : Hid (Below w.heap.size w (w2.drewN m3')) := Lib.hid ⟨hBw.os, hBw.tape, hBw.output, hBw.size, hBw.block⟩
      have hs3 : (w2.drewN m3').heap.size = w2.heap.size := rfl
      rw [← hs3] at hsep0
      clear hL2 hO2 hX2 hBw HCA hs3 HCP
      generalize w2.drewN m3' = w4 at *
      have HZ := Lib.hid hz
      clear hz
      by_cases hzn : z < 0
      · have HLn2 : Hid (acL P xs (k + 1) = L ++ [ys]) := Lib.hid (by rw [HSt.out, if_neg (HZ.out.1 hzn)])
        have HLi := Lib.hid (HL3.out.alloc (.cells #[.slice A5 ys.length c5] 23))
        have HSz : Hid (w4.heap.size < (w4.alloc (.cells #[.slice A5 ys.length c5] 23)).heap.size) := Lib.hid (by simp)
        have HXr := Lib.hid ((HO3.out.rds.2.alloc (Nat.le_refl _) (.cells #[.slice A5 ys.length c5] 23)).more (Nat.le_of_lt HSz.out))
        have HS := Lib.hid (fun h0 a ha => show w.heap.size + 1 ≤ a.block ∧ a.block < (w4.alloc (.cells #[.slice A5 ys.length c5] 23)).heap.size ∧ (Value.slice A3 L.length c3).ownBlock ≠ some a.block from ⟨by have := (hsep0 h0 a ha).1; omega, Nat.lt_trans (hsep0 h0 a ha).2 HSz.out, fun e => by have h1 := hown _ e; have h2 := (hsep0 h0 a ha).1; omega⟩)
        have HCl : Hid ((w4.alloc (.cells #[.slice A5 ys.length c5] 23)).cell? ⟨w4.heap.size, 0, none⟩ = some (.slice A5 ys.length c5)) := Lib.hid (cell_of_row _ _ _ _ _ _ (heap_alloc_new w4 _))
        have HXi := Lib.hid (HX3.out.alloc (.cells #[.slice A5 ys.length c5] 23))
        have HBi := Lib.hid (HB3.out.alloc HB3.out.size (.cells #[.slice A5 ys.length c5] 23))
        have hx1000 : L.length ≤ 1000 := by omega
        clear hsep0 hown HL3 HO3 HX3 HB3 HSz
        obtain ⟨m0, m1, m2, m3⟩ := bx4 (T := 25) HXi.out
        clear m0 m1 m2 m3
        go_wp2_with (at_builtin; refine wpList_appL rfl (.tmp 29) (.tmp 31) rfl (w.heap.size + 1) (.slice A3 L.length c3) L rfl HLi.out w4.heap.size 1 A5 ys ys.length c5 rfl rfl HCl.out hc5 HXr.out HS.out hx1000 ?_; intro v3 w5 hL5 hG5 hlo; have m5 := (bx4 (T := 25) ((hG5.block w.heap.size HXi.out.lt (fun e => by have := hlo _ e.symm; omega)).trans HXi.out)).2.2.1)
        have HNew : Hid (Bx w5 w.heap.size 25 #[.int .i64 (W : Int), .int .i64 (H : Int), .int .i64 (P : Int), .slice (some ⟨b, off, none⟩) n1 c] ∧ Below w.heap.size w w5 ∧ Lss w5 (w.heap.size + 1) v3 (acL P xs (k + 1))) := Lib.hid ⟨(hG5.block w.heap.size HXi.out.lt (fun e => by have := hlo _ e.symm; omega)).trans HXi.out, HBi.out.grown hG5 HBi.out.size (fun j hj => by have := hlo j hj; omega), by rw [HLn2.out]; exact hL5⟩
        clear hL5 hG5 hlo HLi HXr HS HCl HXi HBi m5
        go_roundw
        case rel => exact ⟨k + 1, by omega, by rw [← HQ.out], HNew⟩
        case measure => simp [intOf]; omega
      · have HLn2 : Hid (acL P xs (k + 1) = L) := Lib.hid (by
          rw [HSt.out]
          by_cases hm : ys ∈ L
          · rw [if_pos hm]
          · exact absurd (HZ.out.2 hm) hzn)
        have HNew : Hid (Bx w4 w.heap.size 25 #[.int .i64 (W : Int), .int .i64 (H : Int), .int .i64 (P : Int), .slice (some ⟨b, off, none⟩) n1 c] ∧ Below w.heap.size w w4 ∧ Lss w4 (w.heap.size + 1) (.slice A3 L.length c3) (acL P xs (k + 1))) := Lib.hid ⟨HX3.out, HB3.out, by rw [HLn2.out]; exact HL3.out⟩
        obtain ⟨m0, m1, m2, m3⟩ := bx4 (T := 25) HX3.out
        clear hsep0 hown HL3 HO3 HX3 HB3
        go_wp2
        go_roundw
        case rel => exact ⟨k + 1, by omega, by rw [← HQ.out], HNew⟩
        case measure => simp [intOf]; omega
    · have hk' : k = N := by omega
      have hlen : n1 = k * P := by rw [hk']; exact HLn.out
      have hnl : ¬ ((k * P : Nat) : Int) < (n1 : Int) := by omega
      subst hk'
      obtain ⟨q, hq⟩ : ∃ q, q = k * P := ⟨_, rfl⟩
      rw [← hq] at hnl ⊢
      clear hlen hq
      go_wp2
      go_ret
      exact ⟨_, rfl, hI.out.2.2, hI.out.2.1⟩
end Go.Proofs.Ytkjebidkkopalaa
namespace Go.Proofs.Ytkjebidkkopalaa
open Go.RowKit
set_option linter.unusedSimpArgs false
set_option linter.unusedVariables false
set_option maxRecDepth 20000

theorem GS.tailR {W0 w : World} {t : Rg} {L : List Rg} {Bs : List Bxg} (h : GS W0 w (t :: L) Bs) : GS W0 w L Bs :=
  ⟨h.1, fun s hs => h.2.1 s (by simp [hs]), (List.pairwise_cons.1 h.2.2.1).2, fun b hm => ⟨(h.2.2.2.1 b hm).1, (h.2.2.2.1 b hm).2.1, fun s hs => (h.2.2.2.1 b hm).2.2 s (by simp [hs])⟩, h.2.2.2.2⟩
set_option maxHeartbeats 8000000 in
theorem sAllG_any (W H P : Nat) (hW1 : 1 ≤ W) (hW : W ≤ 16) (hH1 : 1 ≤ H) (hH : H ≤ 16) (hP1 : 1 ≤ P) (hP4 : P ≤ 4) (A : Option Addr) (c : Nat) (xs : List Int) (hln : xs.length = W * H * P) (hlc : xs.length ≤ c) (w : World) (hx : Rds .i64 w w.heap.size A xs) :
    Calls Try.prog 45 #[.agg #[.int .i64 (W : Int), .int .i64 (H : Int), .int .i64 (P : Int), .slice A xs.length c]] w fun e w' => ∃ v, e = .returned v ∧ LsG w w' v (acL P xs (W * H)) [] 0 := by
  obtain ⟨N, hN⟩ : ∃ N, N = W * H := ⟨_, rfl⟩
  have hN256 : N ≤ 256 := by rw [hN]; exact Nat.mul_le_mul hW hH
  have hNpos : 0 < N := by rw [hN]; exact Nat.mul_pos hW1 hH1
  have hpos : 0 < xs.length := by rw [hln, ← hN]; exact Nat.mul_pos hNpos hP1
  obtain ⟨b, off, rfl, hb, hcx⟩ := hx.cells_ hpos
  have HX := Lib.hid hx
  have HCx := Lib.hid hcx
  obtain ⟨n1, hn1⟩ : ∃ n1, n1 = xs.length := ⟨_, rfl⟩
  have HLn : Hid (n1 = N * P) := Lib.hid (by rw [hn1, hln, hN])
  have Hn1 := Lib.hid hn1
  have hn1b : n1 ≤ 1024 := by rw [hn1, hln, ← hN]; have := Nat.mul_le_mul hN256 hP4; omega
  have hlc2 : n1 ≤ c := by rw [hn1]; exact hlc
  have HB0 : Hid (LsG w ((w.alloc (.cells #[.int .i64 (W : Int), .int .i64 (H : Int), .int .i64 (P : Int), .slice (some ⟨b, off, none⟩) n1 c] 25)).alloc (.cells #[] 23)) (.slice (some ⟨w.heap.size + 1, 0, none⟩) 0 0) [] [⟨w.heap.size, 25, #[.int .i64 (W : Int), .int .i64 (H : Int), .int .i64 (P : Int), .slice (some ⟨b, off, none⟩) n1 c]⟩] 0) := Lib.hid (by
    have h1 := LsG.none (GS.box' (GS.start w) 25 #[.int .i64 (W : Int), .int .i64 (H : Int), .int .i64 (P : Int), .slice (some ⟨b, off, none⟩) n1 c] w.heap.size rfl) (Nat.zero_le _)
    simpa using h1)
  rw [← hn1, ← hN]
  clear hx hcx hln hlc hpos hn1 hN HX
  go_enter Try.func45, Try.ntmps45
  go_wp2
  go_loopw [3, 4, 5] (fun v i x wr => ∃ k : Nat, k ≤ N ∧ i = .int .i64 ((k * P : Nat) : Int) ∧ Hid (LsG w wr v (acL P xs k) [⟨w.heap.size, 25, #[.int .i64 (W : Int), .int .i64 (H : Int), .int .i64 (P : Int), .slice (some ⟨b, off, none⟩) n1 c]⟩] 0)) (fun _ i _ _ => n1 - (intOf i).toNat)
  case atStart => exact ⟨0, Nat.zero_le _, by rw [Nat.zero_mul]; rfl, HB0⟩
  case round =>
    obtain ⟨k, hk, rfl, hI⟩ := hrel
    clear HB0
    obtain ⟨m0, m1, m2, m3⟩ := bx4 (T := 25) (hI.out.bx (List.Mem.head _))
    obtain ⟨M, A3, c3, rfl, hc3, hM, hG, _⟩ := hI.out
    have HM := Lib.hid hM
    have HG := Lib.hid hG
    clear hM hG
    by_cases hlt : k < N
    · obtain ⟨q, hq⟩ : ∃ q, q = k * P := ⟨_, rfl⟩
      obtain ⟨q2, hq2⟩ : ∃ q2, q2 = (k + 1) * P := ⟨_, rfl⟩
      have hqq : q2 = q + P := by rw [hq, hq2, Nat.add_mul, Nat.one_mul]
      have hq2n : q2 ≤ n1 := by rw [hq2, HLn.out]; exact Nat.mul_le_mul_right P hlt
      have hqn : q < n1 := by omega
      rw [← hq]
      have hlp : q + P ≤ xs.length := by have := Hn1.out; omega
      have HLy : Hid ((pxk P xs k).length = P) := Lib.hid (pxk_len (by rw [← hq]; exact hlp))
      have hmem : Rds .i64 wr wr.heap.size (some ⟨b, off + q, none⟩) (pxk P xs k) := by
        refine .inr ⟨b, off + q, rfl, Nat.lt_of_lt_of_le hb hI.out.below.size, fun j hj => ?_⟩
        have hjP : j < P := by rw [HLy.out] at hj; exact hj
        rw [pxk_get hjP, ← hq, Nat.add_assoc]
        exact (hI.out.below.cell (p := ⟨b, off + (q + j), none⟩) hb).trans (HCx.out (q + j) (by omega))
      have HCP := Lib.hid (copyInts_any (some ⟨b, off + q, none⟩) (c - q) (pxk P xs k) wr hmem (by rw [HLy.out]; omega))
      rw [HLy.out] at HCP
      have HSt : Hid (acL P xs (k + 1) = if pxk P xs k ∈ acL P xs k then acL P xs k else acL P xs k ++ [pxk P xs k]) := Lib.hid rfl
      have HRow : Hid (∀ i, i < (acL P xs k).length → ((acL P xs k).getD i []).length ≤ 4) := Lib.hid (fun i hi => by
        obtain ⟨j, hj, e⟩ := acL_row (P := P) (xs := xs) (k := k) (by rw [← hq]; omega) ((acL P xs k).getD i []) (by rw [List.getD_eq_getElem?_getD, List.getElem?_eq_getElem hi]; exact List.getElem_mem hi)
        rw [e]
        unfold pxk
        rw [List.length_take]; omega)
      have hal := acL_len P xs k
      have i2 : (q : Int) + (P : Int) = (q2 : Int) := by rw [hqq]; simp
      have hw2 : IntKind.i64.wrap ((q2 : Nat) : Int) = (q2 : Int) := IntWalk.i64_in _ (by omega)
      have k1 : q ≤ q2 := by omega
      have k2 : q2 ≤ c := by omega
      have k3 : ¬ (c = q) := by omega
      have k4 : (q : Int) ≤ (q2 : Int) := by omega
      have k5 : (q2 : Int) ≤ (c : Int) := by omega
      have k6 : (q : Int) < (n1 : Int) := by omega
      have hqP : q2 - q = P := by omega
      have HQ : Hid ((q2 : Int) = (((k + 1) * P : Nat) : Int)) := Lib.hid (by rw [hq2])
      clear hmem hlp hq hqq hq2
      obtain ⟨ys, hys⟩ : ∃ ys, ys = pxk P xs k := ⟨_, rfl⟩
      rw [← hys] at HLy HCP HSt
      clear hys
      generalize acL P xs k = L at *
      go_wp2_with fail
      refine HCP.out.mono ?_
      rintro e w2 ⟨v2, rfl, hO2, hB2⟩
      obtain ⟨A5, c5, rfl, hc5⟩ := hO2.slice
      have hG2 := HG.out.add hO2 hB2
      have htl : tot L ≤ 2000000 := by have := tot_le HRow.out; omega
      have HCA := Lib.hid (sCat_any A3 A5 c3 c5 L.length ys.length L ys w2 rfl rfl (LsM.rds hG2 HM.out (fun t ht => by simp [ht])) hO2.rds.2 htl (by rw [HLy.out]; omega))
      have HG2 := Lib.hid hG2
      have hsz2 := hB2.size
      clear hI hB2 hG2 HG hO2
      go_wp2_with fail
      refine HCA.out.mono ?_
      rintro e w3 ⟨z, rfl, hz, m3', rfl⟩
      have HG3 := Lib.hid (HG2.out.drewN m3')
      clear HG2 HCA HCP
      have HSz : Hid (wr.heap.size ≤ (w2.drewN m3').heap.size) := Lib.hid hsz2
      clear hsz2
      generalize w2.drewN m3' = w4 at *
      have HZ := Lib.hid hz
      clear hz
      by_cases hzn : z < 0
      · have HLn2 : Hid (acL P xs (k + 1) = L ++ [ys]) := Lib.hid (by rw [HSt.out, if_neg (HZ.out.1 hzn)])
        have HG4 := Lib.hid (HG3.out.call ((Below.refl w4.heap.size w4).alloc (Nat.le_refl _) (.cells #[.slice A5 ys.length c5] 23)))
        have HCl : Hid ((w4.alloc (.cells #[.slice A5 ys.length c5] 23)).cell? ⟨w4.heap.size, 0, none⟩ = some (.slice A5 ys.length c5)) := Lib.hid (cell_of_row _ _ _ _ _ _ (heap_alloc_new w4 _))
        have hx1000 : L.length ≤ 1000 := by omega
        have HLo : Hid (wr.heap.size ≤ (w4.alloc (.cells #[.slice A5 ys.length c5] 23)).heap.size) := Lib.hid (Nat.le_trans HSz.out (by simp))
        clear HG3
        go_wp2_with (at_builtin; refine wpList_appG rfl (.tmp 29) (.tmp 31) rfl w M _ A3 c3 L rfl HM.out w4.heap.size 1 wr.heap.size w2.heap.size 3 A5 ys ys.length c5 c5 HG4.out rfl rfl HCl.out hc5 hx1000 (fun _ _ => Nat.zero_le _) (Nat.zero_le _) HLo.out ?_; intro v3 w5 hL5 hG5; have m5 := (bx4 (T := 25) (hL5.bx (List.Mem.head _))).2.2.1)
        have HNew : Hid (LsG w w5 v3 (acL P xs (k + 1)) [⟨w.heap.size, 25, #[.int .i64 (W : Int), .int .i64 (H : Int), .int .i64 (P : Int), .slice (some ⟨b, off, none⟩) n1 c]⟩] 0) := Lib.hid (by rw [HLn2.out]; exact hL5)
        clear hL5 hG5 HG4 HCl m5
        go_roundw
        case rel => exact ⟨k + 1, by omega, by rw [← HQ.out], HNew⟩
        case measure => simp [intOf]; omega
      · have HLn2 : Hid (acL P xs (k + 1) = L) := Lib.hid (by
          rw [HSt.out]
          by_cases hm : ys ∈ L
          · rw [if_pos hm]
          · exact absurd (HZ.out.2 hm) hzn)
        have HNew : Hid (LsG w w4 (.slice A3 L.length c3) (acL P xs (k + 1)) [⟨w.heap.size, 25, #[.int .i64 (W : Int), .int .i64 (H : Int), .int .i64 (P : Int), .slice (some ⟨b, off, none⟩) n1 c]⟩] 0) := Lib.hid (by rw [HLn2.out]; exact ⟨M, A3, c3, rfl, hc3, HM.out, HG3.out.tailR, fun _ _ => Nat.zero_le _⟩)
        obtain ⟨m0, m1, m2, m3⟩ := bx4 (T := 25) (HNew.out.bx (List.Mem.head _))
        clear HG3
        go_wp2
        go_roundw
        case rel => exact ⟨k + 1, by omega, by rw [← HQ.out], HNew⟩
        case measure => simp [intOf]; omega
    · have hk' : k = N := by omega
      have hlen : n1 = k * P := by rw [hk']; exact HLn.out
      have hnl : ¬ ((k * P : Nat) : Int) < (n1 : Int) := by omega
      subst hk'
      obtain ⟨q, hq⟩ : ∃ q, q = k * P := ⟨_, rfl⟩
      rw [← hq] at hnl ⊢
      clear hlen hq
      go_wp2
      go_ret
      exact ⟨_, rfl, hI.out.drop⟩
def palOk (W H P : Int) (xs : List Int) : Bool := vim W H P xs && decide ((acL P.toNat xs (W.toNat * H.toNat)).length ≤ 16)
def palL (W H P : Int) (xs : List Int) : List (List Int) := cond (palOk W H P xs) (acL P.toNat xs (W.toNat * H.toNat)) []
def PalM (W H P : Int) (xs : List Int) (w : World) (e : Ending) (w' : World) : Prop :=
  ∃ M A c, e = .returned (.tuple #[.slice A (palL W H P xs).length c, .bool (palOk W H P xs)]) ∧ (palL W H P xs).length ≤ c ∧ LsM M A c (palL W H P xs) ∧ GS w w' M []
theorem PalM.mk {W H P : Int} {xs : List Int} {w w' : World} {v : Value} {yss : List (List Int)} {ok : Bool} (h : LsG w w' v yss [] 0) (h1 : palL W H P xs = yss) (h2 : palOk W H P xs = ok) : PalM W H P xs w (.returned (.tuple #[v, .bool ok])) w' := by
  obtain ⟨M, A, c, rfl, hc, hM, hG, _⟩ := h
  unfold PalM
  rw [h1, h2]
  exact ⟨M, A, c, rfl, hc, hM, hG⟩
theorem LsG.below' {W0 w : World} {Bs : List Bxg} (hB : Below W0.heap.size W0 w) : LsG W0 w (.slice .none 0 0) [] [] 0 := LsG.nil ⟨hB, by simp, .nil, by simp, .nil⟩ (Nat.zero_le _)
theorem LsG.from {W0 w w' : World} {v : Value} {xss : List (List Int)} (hB : Below W0.heap.size W0 w) (h : LsG w w' v xss [] 0) : LsG W0 w' v xss [] 0 := by
  obtain ⟨M, A, c, h1, h2, h3, h4, h5⟩ := h
  have hs := hB.size
  exact ⟨M, A, c, h1, h2, h3, ⟨hB.trans (h4.1.mono hs), fun t ht => ⟨(h4.2.1 t ht).1, by have := (h4.2.1 t ht).2.1; omega, (h4.2.1 t ht).2.2⟩, h4.2.2.1, by simp, .nil⟩, h5⟩
set_option maxHeartbeats 8000000 in
theorem s_PaletteOf (W H P : Int) (A : Option Addr) (c : Nat) (xs : List Int) (w : World) (hx : Rds .i64 w w.heap.size A xs) (hl : xs.length ≤ 2000000) (hlc : xs.length ≤ c) :
    Calls Try.prog 13 #[.agg #[.int .i64 W, .int .i64 H, .int .i64 P, .slice A xs.length c]] w (PalM W H P xs w) := by
  have HX := Lib.hid hx
  clear hx
  have S0 : GS w (w.alloc (.cells #[.int .i64 W, .int .i64 H, .int .i64 P, .slice A xs.length c] 25)) [] [⟨w.heap.size, 25, #[.int .i64 W, .int .i64 H, .int .i64 P, .slice A xs.length c]⟩] := GS.box' (GS.start w) 25 #[.int .i64 W, .int .i64 H, .int .i64 P, .slice A xs.length c] w.heap.size rfl
  go_enter Try.func13, Try.ntmps13
  go_wp2_with fail
  generalize w.alloc (.cells #[.int .i64 W, .int .i64 H, .int .i64 P, .slice A xs.length c] 25) = u0 at *
  refine (sVimg_any W H P A c xs u0 (S0.arg HX.out) hl).mono ?_
  rintro e u1 ⟨rfl, hB⟩
  have S1 := S0.call hB
  clear hB S0
  cases hv : vim W H P xs
  · have HB := Lib.hid S1.below
    have HE : Hid (palOk W H P xs = false ∧ palL W H P xs = []) := Lib.hid (by unfold palL palOk; rw [hv]; exact ⟨rfl, rfl⟩)
    clear S1 hv
    go_wp2
    exact bodyPost_ret (v := .tuple #[.slice none 0 0, .bool false]) (by simp [results, Try.results13, go_sem]) rfl (PalM.mk (LsG.below' (Bs := []) HB.out) HE.out.2 HE.out.1)
  · obtain ⟨W, H, P, rfl, rfl, rfl, hW1, hW, hH1, hH, hP1, hP4, hln, hby⟩ := vim_nat hv
    have HLn := Lib.hid hln
    have HN := Lib.hid (acL_len P xs (W * H))
    have HE : Hid (palOk W H P xs = decide ((acL P xs (W * H)).length ≤ 16) ∧ palL W H P xs = cond (decide ((acL P xs (W * H)).length ≤ 16)) (acL P xs (W * H)) []) := Lib.hid (by unfold palL palOk; rw [hv]; exact ⟨rfl, rfl⟩)
    have hWH : W * H ≤ 256 := by have := Nat.mul_le_mul hW hH; omega
    clear hv hln hby
    obtain ⟨d0, d1, d2, d3⟩ := S1.b0_4
    have HA1 := Lib.hid (sAllG_any W H P hW1 hW hH1 hH hP1 hP4 A c xs HLn.out hlc u1 (S1.arg HX.out))
    go_wp2_with fail
    refine HA1.out.mono ?_
    rintro e u2 ⟨v2, rfl, hL2⟩
    have S2 := S1.call hL2.below
    obtain ⟨A2, c2, rfl, hc2⟩ := hL2.slice
    obtain ⟨n2, hn2⟩ : ∃ n2, n2 = (acL P xs (W * H)).length := ⟨_, rfl⟩
    rw [← hn2] at HE ⊢
    have hn256 : n2 ≤ 256 := by rw [hn2]; exact Nat.le_trans HN.out hWH
    clear S1 hL2 HA1 d0 d1 d2 d3 hn2
    by_cases h16 : (n2 : Int) > 16
    · have HB := Lib.hid S2.below
      have HE2 : Hid (palOk W H P xs = false ∧ palL W H P xs = []) := Lib.hid (by have h1 := HE.out; rw [decide_eq_false (show ¬ n2 ≤ 16 by omega)] at h1; exact h1)
      clear S2 HE
      go_wp2
      exact bodyPost_ret (v := .tuple #[.slice none 0 0, .bool false]) (by simp [results, Try.results13, go_sem]) rfl (PalM.mk (LsG.below' (Bs := []) HB.out) HE2.out.2 HE2.out.1)
    · have HE2 : Hid (palOk W H P xs = true ∧ palL W H P xs = acL P xs (W * H)) := Lib.hid (by have h1 := HE.out; rw [decide_eq_true (show n2 ≤ 16 by omega)] at h1; exact h1)
      obtain ⟨d0, d1, d2, d3⟩ := S2.b0_4
      have HA2 := Lib.hid (sAllG_any W H P hW1 hW hH1 hH hP1 hP4 A c xs HLn.out hlc u2 (S2.arg HX.out))
      go_wp2_with fail
      refine HA2.out.mono ?_
      rintro e u3 ⟨v3, rfl, hL3⟩
      have HB := Lib.hid S2.below
      have HL3 := Lib.hid (LsG.from HB.out hL3)
      clear S2 hL3 HA2 d0 d1 d2 d3 HE
      go_wp2
      exact bodyPost_ret (v := .tuple #[v3, .bool true]) (by simp [results, Try.results13, go_sem]) rfl (PalM.mk HL3.out HE2.out.2 HE2.out.1)
end Go.Proofs.Ytkjebidkkopalaa
namespace Go.Proofs.Ytkjebidkkopalaa
open Go.RowKit Go.WideMaps Go.WideElems Go.Maps
set_option linter.unusedSimpArgs false
set_option linter.unusedVariables false

theorem colLaid : laidOutB Try.prog = true := by kernel_rfl
theorem colRow : (66 : TypeId) < Try.prog.types.size := of_decide_eq_true (by kernel_rfl)
theorem colCells : Try.prog.cellsOf 66 = 4 := by kernel_rfl
theorem colArr : ArrKey Try.prog 66 3 4 := ⟨Try.underlying66, by kernel_rfl, by kernel_rfl, colCells⟩
theorem colWide : (match Try.prog.underlying 66 with | some (.array _ _) | some (.struct _) => true | _ => false) = true := by rw [Try.underlying66]
set_option maxRecDepth 100000 in
theorem colKeyed : Keyed Try.prog 66 := Keyed.of_law (deep_law_laid colLaid (m := 2) (by omega) colRow (by kernel_rfl) colWide)
theorem colSize : ∃ m, Try.prog.types.size = m + 1 := ⟨_, (Nat.succ_pred_eq_of_pos (Nat.lt_of_le_of_lt (Nat.zero_le _) colRow)).symm⟩
theorem keyOf_four {P : Program} {k e : TypeId} {q : IntKind} (A : ArrKey P k e 4) (he : P.underlying e = some (.int q)) (hsz : ∃ m, P.types.size = m + 1) {a b c d : Int} (wa : (Lit.int q a).wf = true) (wb : (Lit.int q b).wf = true) (wc : (Lit.int q c).wf = true) (wd : (Lit.int q d).wf = true) :
    keyOf P k (.agg #[.int q a, .int q b, .int q c, .int q d]) = some (.string (keyBytes [.int q a, .int q b, .int q c, .int q d])) := by
  have hkt := A.keyType hsz
  obtain ⟨m, hm⟩ := hsz
  unfold keyOf
  simp only [A.hu]
  rw [if_pos (by simp [hkt, Value.formed, A.hu, A.size]), hm]
  unfold Program.keyLits
  simp only [A.hu, Value.cells]
  rw [if_pos (by rw [A.size]; rfl), show List.range 4 = [0, 1, 2, 3] from rfl, List.mapM_cons, List.mapM_cons, List.mapM_cons, List.mapM_cons, List.mapM_nil]
  simp [A.one, Program.keyLits, he, wa, wb, wc, wd]
def ckl (ys : List Int) : Lit := .string (keyBytes [.int .i64 (ys.getD 0 0), .int .i64 (ys.getD 1 0), .int .i64 (ys.getD 2 0), .int .i64 (ys.getD 3 0)])
theorem wf_byte {n : Int} (h : 0 ≤ n ∧ n ≤ 255) : (Lit.int .i64 n).wf = true := by
  have h : -1000 ≤ n ∧ n ≤ 1000 := by omega
  simp only [Lit.wf, Bool.and_eq_true, decide_eq_true_eq]
  exact ⟨by show -9223372036854775808 ≤ n; omega, by show n ≤ 9223372036854775807; omega⟩
theorem keyOf_col {ys : List Int} (h : allB 0 255 ys = true) : keyOf Try.prog 66 (colV (fun p => ys.getD p 0)) = some (ckl ys) :=
  keyOf_four colArr Try.underlying3 colSize (wf_byte (byte_all h 0)) (wf_byte (byte_all h 1)) (wf_byte (byte_all h 2)) (wf_byte (byte_all h 3))
theorem ckl_inj {P : Nat} {xs ys : List Int} (hP : P ≤ 4) (hx : xs.length = P) (hy : ys.length = P) (bx : allB 0 255 xs = true) (by' : allB 0 255 ys = true) (h : ckl xs = ckl ys) : xs = ys := by
  have e := colKeyed.inj (keyOf_col bx) (h ▸ keyOf_col by')
  unfold colV at e
  simp only [Value.agg.injEq] at e
  have e0 := congrArg (fun a : Array Value => a.toList) e
  simp at e0
  obtain ⟨e0, e1, e2, e3⟩ := e0
  refine List.ext_getElem (by omega) fun j h1 h2 => ?_
  have g : ∀ j, j < 4 → xs.getD j 0 = ys.getD j 0 := by
    intro j hj
    match j, hj with
    | 0, _ => simpa [List.getD_eq_getElem?_getD] using e0
    | 1, _ => simpa [List.getD_eq_getElem?_getD] using e1
    | 2, _ => simpa [List.getD_eq_getElem?_getD] using e2
    | 3, _ => simpa [List.getD_eq_getElem?_getD] using e3
  have := g j (by omega)
  simpa [List.getD_eq_getElem?_getD, h1, h2] using this
def MpI (w : World) (b n P : Nat) (nv : List Int → Int) : Prop :=
  ∃ D : DataW Unit, IsMap D ∧ w.ownsMap Try.prog 66 (plainElem Try.prog 3) b n D ∧ ∀ ys : List Int, ys.length = P → allB 0 255 ys = true → (∀ z, D.atKey (ckl ys) z = z) ∨ ∀ z, D.atKey (ckl ys) z = .lit (.int .i64 (nv ys))
theorem MpI.made (w : World) (P : Nat) (nv : List Int → Int) : MpI (w.alloc (.map #[] 0)) w.heap.size 0 P nv :=
  ⟨.map [], isMap_empty, World.ownsMap_made w Try.prog 66 _, fun ys _ _ => .inl fun z => atKey_of_not_has (by simp [has_eq]) z⟩
theorem MpI.kept {w w' : World} {b n P : Nat} {nv : List Int → Int} (h : MpI w b n P nv) (hk : w'.heap[b]? = w.heap[b]?) : MpI w' b n P nv := by
  obtain ⟨D, h1, ⟨es, clock, hb, r⟩, h3⟩ := h
  exact ⟨D, h1, ⟨es, clock, hk.trans hb, r⟩, h3⟩
theorem MpI.mono {w : World} {b n P : Nat} {nv : List Int → Int} (h : MpI w b n P nv) {m : Nat} (hm : n ≤ m) : MpI w b m P nv := by
  obtain ⟨D, h1, h2, h3⟩ := h
  exact ⟨D, h1, h2.mono hm, h3⟩
theorem MpI.lt {w : World} {b n P : Nat} {nv : List Int → Int} (h : MpI w b n P nv) : b < w.heap.size := by
  obtain ⟨D, h1, h2, h3⟩ := h
  exact h2.lt
theorem mpi_zero (w : World) : (zeroValue 3).run Try.prog w = .ok (.int .i64 0) w := by kernel_rfl
theorem MpI.look {w : World} {b n P : Nat} {nv : List Int → Int} (h : MpI w b n P nv) {ys : List Int} (hl : ys.length = P) (hy : allB 0 255 ys = true) :
    (Instr.lookup 71 (.map (some b)) (colV (fun p => ys.getD p 0)) true).run Try.prog w = .ok (.tuple #[.int .i64 0, .bool false]) w ∨ (Instr.lookup 71 (.map (some b)) (colV (fun p => ys.getD p 0)) true).run Try.prog w = .ok (.tuple #[.int .i64 (nv ys), .bool true]) w := by
  obtain ⟨D, h1, ⟨es, clock, hb, F, hs, rfl⟩, h3⟩ := h
  rcases fit_look true colKeyed Try.underlying71 (mpi_zero w) hb F (keyOf_col hy) with ⟨hrun, _, _⟩ | ⟨e0, y, _, _, hrun, hR, hat, _⟩
  · exact .inl hrun
  · right
    obtain ⟨c, hv, hz, _⟩ := plainElem_int_inv Try.underlying3 hR
    rcases h3 ys hl hy with hn | hn
    · have a1 := (hat (.lit (.int .i64 (c + 1)))).symm.trans (hn _)
      rw [hz] at a1
      simp at a1
      omega
    · have a1 := (hat .nil).symm.trans (hn _)
      rw [hz] at a1
      simp at a1
      rw [hrun, hv, a1]
      rfl
theorem MpI.get {w : World} {b n P : Nat} {nv : List Int → Int} (h : MpI w b n P nv) {ys : List Int} (hl : ys.length = P) (hy : allB 0 255 ys = true)
    (hin : (Instr.lookup 71 (.map (some b)) (colV (fun p => ys.getD p 0)) true).run Try.prog w = .ok (.tuple #[.int .i64 (nv ys), .bool true]) w) :
    (Instr.lookup 71 (.map (some b)) (colV (fun p => ys.getD p 0)) false).run Try.prog w = .ok (.int .i64 (nv ys)) w := by
  obtain ⟨D, h1, ⟨es, clock, hb, F, hs, rfl⟩, h3⟩ := h
  rcases fit_look true colKeyed Try.underlying71 (mpi_zero w) hb F (keyOf_col hy) with ⟨hrun, hno, _⟩ | ⟨e0, y, hm0, hk0, hrun, hR, hat, _⟩
  · rw [hrun] at hin
    simp at hin
  · rcases fit_look false colKeyed Try.underlying71 (mpi_zero w) hb F (keyOf_col hy) with ⟨_, hno, _⟩ | ⟨e1, y1, _, _, hrun1, hR1, hat1, _⟩
    · exact absurd hk0 (hno e0 hm0)
    · obtain ⟨c, hv, hz, _⟩ := plainElem_int_inv Try.underlying3 hR
      obtain ⟨c1, hv1, hz1, _⟩ := plainElem_int_inv Try.underlying3 hR1
      have a1 := (hat .nil).symm.trans (hat1 .nil)
      rw [hz, hz1] at a1
      simp at a1
      rw [hrun, hv] at hin
      simp at hin
      rw [hrun1, hv1, ← a1, hin]
      rfl
theorem MpI.store {w : World} {b n P : Nat} {nv : List Int → Int} (hP : P ≤ 4) (h : MpI w b n P nv) {ys : List Int} (hl : ys.length = P) (hy : allB 0 255 ys = true) (hn : n < maxLen) (hw : (Lit.int .i64 (nv ys)).wf = true) :
    ∃ w', (Instr.mapUpdate 71 (.map (some b)) (colV (fun p => ys.getD p 0)) (.int .i64 (nv ys))).run Try.prog w = .ok () w' ∧ MpI w' b (n + 1) P nv ∧ w.grownBy w' (some b) ∧
      (Instr.lookup 71 (.map (some b)) (colV (fun p => ys.getD p 0)) true).run Try.prog w' = .ok (.tuple #[.int .i64 (nv ys), .bool true]) w' := by
  obtain ⟨D, h1, h2, h3⟩ := h
  obtain ⟨w', hrun, ho, hg⟩ := h2.update colKeyed Try.underlying71 hn (keyOf_col hy) (plainElem_int Try.underlying3 hw)
  have hM : MpI w' b (n + 1) P nv := by
    refine ⟨D.put (ckl ys) (.lit (.int .i64 (nv ys))), h1.put _ _, ho, fun zs hz hzb => ?_⟩
    by_cases e : ckl zs = ckl ys
    · have := ckl_inj hP hz hl hzb hy e
      subst this
      exact .inr fun z => atKey_put_same h1 (colKeyed.key (keyOf_col hy)) _ z
    · rcases h3 zs hz hzb with h | h
      · exact .inl fun z => (atKey_put_other e _ z).trans (h z)
      · exact .inr fun z => (atKey_put_other e _ z).trans (h z)
  refine ⟨w', hrun, hM, hg, ?_⟩
  obtain ⟨es, clock, hb, F, hs, hD⟩ := ho
  rcases fit_look true colKeyed Try.underlying71 (mpi_zero w') hb F (keyOf_col hy) with ⟨hrun2, _, hat⟩ | ⟨e0, y, _, _, hrun2, hR, hat, _⟩
  · have a1 := hat (.lit (.int .i64 (nv ys + 1)))
    rw [← hD, atKey_put_same h1 (colKeyed.key (keyOf_col hy))] at a1
    simp at a1
    omega
  · obtain ⟨c, hv, hz, _⟩ := plainElem_int_inv Try.underlying3 hR
    have a1 := hat .nil
    rw [← hD, atKey_put_same h1 (colKeyed.key (keyOf_col hy)), hz] at a1
    simp at a1
    rw [hrun2, hv, ← a1]
    rfl
end Go.Proofs.Ytkjebidkkopalaa
namespace Go.Proofs.Ytkjebidkkopalaa
open Go.RowKit Go.WideMaps Go.WideElems Go.Maps
set_option linter.unusedSimpArgs false
set_option linter.unusedVariables false

theorem plainElem_bool_inv {H : Type} {P : Program} {e : TypeId} (he : P.underlying e = some .bool) {v : Value} {z : DataW H × List MemPlace} (h : plainElem P e v = some z) : ∃ a, v = .bool a ∧ z = (.lit (.bool a), []) := by
  unfold plainElem at h
  rw [he] at h
  cases v <;> simp at h
  subst h
  exact ⟨_, rfl, rfl⟩
def MpB (w : World) (b n P : Nat) (L : List (List Int)) : Prop :=
  ∃ D : DataW Unit, IsMap D ∧ w.ownsMap Try.prog 66 (plainElem Try.prog 4) b n D ∧ ∀ ys : List Int, ys.length = P → allB 0 255 ys = true → (ys ∉ L → ∀ z, D.atKey (ckl ys) z = z) ∧ (ys ∈ L → ∀ z, D.atKey (ckl ys) z = .lit (.bool true))
theorem MpB.made (w : World) (P : Nat) : MpB (w.alloc (.map #[] 0)) w.heap.size 0 P [] :=
  ⟨.map [], isMap_empty, World.ownsMap_made w Try.prog 66 _, fun ys _ _ => ⟨fun _ z => atKey_of_not_has (by simp [has_eq]) z, fun h => by simp at h⟩⟩
theorem MpB.kept {w w' : World} {b n P : Nat} {L : List (List Int)} (h : MpB w b n P L) (hk : w'.heap[b]? = w.heap[b]?) : MpB w' b n P L := by
  obtain ⟨D, h1, ⟨es, clock, hb, r⟩, h3⟩ := h
  exact ⟨D, h1, ⟨es, clock, hk.trans hb, r⟩, h3⟩
theorem MpB.mono {w : World} {b n P : Nat} {L : List (List Int)} (h : MpB w b n P L) {m : Nat} (hm : n ≤ m) : MpB w b m P L := by
  obtain ⟨D, h1, h2, h3⟩ := h
  exact ⟨D, h1, h2.mono hm, h3⟩
theorem MpB.lt {w : World} {b n P : Nat} {L : List (List Int)} (h : MpB w b n P L) : b < w.heap.size := by
  obtain ⟨D, h1, h2, h3⟩ := h
  exact h2.lt
theorem MpB.below {w w' : World} {b n P : Nat} {L : List (List Int)} (h : MpB w b n P L) (hB : Below w.heap.size w w') : MpB w' b n P L := h.kept (hB.block b h.lt)
theorem mpb_zero (w : World) : (zeroValue 4).run Try.prog w = .ok (.bool false) w := by kernel_rfl
theorem MpB.get {w : World} {b n P : Nat} {L : List (List Int)} (h : MpB w b n P L) {ys : List Int} (hl : ys.length = P) (hy : allB 0 255 ys = true) :
    (Instr.lookup 60 (.map (some b)) (colV (fun p => ys.getD p 0)) false).run Try.prog w = .ok (.bool (decide (ys ∈ L))) w := by
  obtain ⟨D, h1, ⟨es, clock, hb, F, hs, rfl⟩, h3⟩ := h
  have h4 := h3 ys hl hy
  rcases fit_look false colKeyed Try.underlying60 (mpb_zero w) hb F (keyOf_col hy) with ⟨hrun, _, hat⟩ | ⟨e0, y, _, _, hrun, hR, hat, _⟩
  · by_cases hm : ys ∈ L
    · have a1 := (hat .nil).symm.trans (h4.2 hm .nil)
      simp at a1
    · rw [hrun, decide_eq_false hm]; rfl
  · obtain ⟨c, hv, hz⟩ := plainElem_bool_inv Try.underlying4 hR
    by_cases hm : ys ∈ L
    · have a1 := (hat .nil).symm.trans (h4.2 hm .nil)
      rw [hz] at a1
      simp at a1
      rw [hrun, hv, a1, decide_eq_true hm]
      rfl
    · have a1 := (hat (.lit (.int .i64 0))).symm.trans (h4.1 hm _)
      rw [hz] at a1
      simp at a1
theorem MpB.store {w : World} {b n P : Nat} {L : List (List Int)} (hP : P ≤ 4) (h : MpB w b n P L) {ys : List Int} (hl : ys.length = P) (hy : allB 0 255 ys = true) (hn : n < maxLen) :
    ∃ w', (Instr.mapUpdate 60 (.map (some b)) (colV (fun p => ys.getD p 0)) (.bool true)).run Try.prog w = .ok () w' ∧ MpB w' b (n + 1) P (L ++ [ys]) ∧ w.grownBy w' (some b) := by
  obtain ⟨D, h1, h2, h3⟩ := h
  obtain ⟨w', hrun, ho, hg⟩ := h2.update colKeyed Try.underlying60 hn (keyOf_col hy) (plainElem_bool Try.underlying4 true)
  refine ⟨w', hrun, ⟨D.put (ckl ys) (.lit (.bool true)), h1.put _ _, ho, fun zs hz hzb => ?_⟩, hg⟩
  by_cases e : ckl zs = ckl ys
  · have := ckl_inj hP hz hl hzb hy e
    subst this
    exact ⟨fun hn => absurd (by simp) hn, fun _ z => atKey_put_same h1 (colKeyed.key (keyOf_col hy)) _ z⟩
  · have hne : zs ≠ ys := fun h => e (by rw [h])
    have h4 := h3 zs hz hzb
    refine ⟨fun hn z => (atKey_put_other e _ z).trans (h4.1 (fun h => hn (by simp [h])) z), fun hm z => (atKey_put_other e _ z).trans (h4.2 ?_ z)⟩
    rcases List.mem_append.1 hm with h | h
    · exact h
    · simp at h; exact absurd h hne
end Go.Proofs.Ytkjebidkkopalaa
namespace Go.Proofs.Ytkjebidkkopalaa
open Go.RowKit Go.Shelf
set_option linter.unusedSimpArgs false
set_option linter.unusedVariables false
set_option maxRecDepth 20000

theorem pxk_pxl {W P k : Nat} {xs : List Int} (h : k * P + P ≤ xs.length) : pxl W P xs (k % W) (k / W) = pxk P xs k := by
  have e : k / W * W + k % W = k := Nat.div_add_mod' k W
  refine List.ext_getElem (by rw [pxl_len, pxk_len h]) fun j h1 h2 => ?_
  rw [pxl_len] at h1
  have h3 := pxl_get W P xs (k % W) (k / W) j h1
  have h4 := pxk_get (xs := xs) (k := k) h1
  unfold px pix at h3
  rw [e] at h3
  have h5 := h3.trans h4.symm
  simpa [List.getD_eq_getElem?_getD, h1, h2, pxl_len] using h5
theorem acL_mono {P : Nat} {xs : List Int} {k n : Nat} (h : k ≤ n) : (acL P xs k).length ≤ (acL P xs n).length := by
  induction n with
  | zero => rw [show k = 0 by omega]; exact Nat.le_refl _
  | succ n ih =>
    rcases Nat.lt_or_ge k (n + 1) with h1 | h1
    · refine Nat.le_trans (ih (by omega)) ?_
      show _ ≤ (if pxk P xs n ∈ acL P xs n then acL P xs n else acL P xs n ++ [pxk P xs n]).length
      split
      · exact Nat.le_refl _
      · simp
    · rw [show k = n + 1 by omega]; exact Nat.le_refl _
theorem pal_cells {w : World} {b W H P : Nat} {xs : List Int} (hc : ∀ j, j < (img W H 4 (pxc W P xs)).length → w.cell? ⟨b, 0 + j, none⟩ = some (.int .i64 ((img W H 4 (pxc W P xs)).getD j 0))) {k : Nat} (hk : k < W * H) (hl : xs.length = W * H * P) :
    w.cell? ⟨b, k * 4, none⟩ = some (.int .i64 ((pxk P xs k).getD 0 0)) ∧ w.cell? ⟨b, k * 4 + 1, none⟩ = some (.int .i64 ((pxk P xs k).getD 1 0)) ∧ w.cell? ⟨b, k * 4 + 2, none⟩ = some (.int .i64 ((pxk P xs k).getD 2 0)) ∧ w.cell? ⟨b, k * 4 + 3, none⟩ = some (.int .i64 ((pxk P xs k).getD 3 0)) := by
  have h1 : k * P + P ≤ xs.length := by
    rw [hl]
    have := Nat.mul_le_mul_right P hk
    rw [Nat.succ_mul] at this
    exact this
  have e : ∀ p, p < 4 → w.cell? ⟨b, k * 4 + p, none⟩ = some (.int .i64 ((pxk P xs k).getD p 0)) := fun p hp => by
    rw [← Nat.zero_add (k * 4 + p), hc (k * 4 + p) (by rw [img_len]; omega), img_at _ hk hp]
    unfold pxc
    rw [pxk_pxl h1]
  exact ⟨by simpa using e 0 (by omega), e 1 (by omega), e 2 (by omega), e 3 (by omega)⟩
theorem bx_own4 {w : World} {g base P : Nat} {ys : List Int} (hP : P ≤ 4) (hl : ys.length = P) (hX : Bx w g 66 #[.int .i64 (ys.getD 0 0), .int .i64 (ys.getD 1 0), .int .i64 (ys.getD 2 0), .int .i64 (ys.getD 3 0)]) (hb : base ≤ g) : w.ownsRow base 66 1 (.slice (some ⟨g, 0, none⟩) P 4) P (ys.map (.int .i64)) := by
  refine ⟨by simp [hl], .inr ⟨g, 4, _, rfl, hb, hX, hP, by unfold maxLen; omega, rfl, ?_⟩⟩
  subst hl
  match ys, hP with
  | [], _ => rfl
  | [a], _ => rfl
  | [a, b], _ => rfl
  | [a, b, c], _ => rfl
  | [a, b, c, d], _ => rfl
  | a :: b :: c :: d :: e :: l, h => simp at h
theorem LsG.d0 {W0 w : World} {v : Value} {xss : List (List Int)} {Bs : List Bxg} {d : Nat} (h : LsG W0 w v xss Bs d) : LsG W0 w v xss Bs 0 := by
  obtain ⟨M, A, c, h1, h2, h3, h4, h5⟩ := h
  exact ⟨M, A, c, h1, h2, h3, h4, fun _ _ => Nat.zero_le _⟩
theorem fld_gridP (a b v : Value) (w : World) : (Instr.field 63 (.agg #[a, b, v]) 2).run Try.prog w = .ok v w := by
  simp [Instr.field, run_underlying Try.underlying63, asAgg, go_sem]
set_option maxHeartbeats 16000000 in
theorem i_PaletteOf (W H P : Int) (A : Option Addr) (c : Nat) (xs : List Int) (w : World) (hx : Rds .i64 w w.heap.size A xs) (hl : xs.length ≤ 2000000) (hlc : xs.length ≤ c) :
    Calls Try.prog 12 #[.agg #[.int .i64 W, .int .i64 H, .int .i64 P, .slice A xs.length c]] w (PalM W H P xs w) := by
  have HX := Lib.hid hx
  clear hx
  have S0 : GS w (w.alloc (.cells #[.int .i64 W, .int .i64 H, .int .i64 P, .slice A xs.length c] 25)) [] [⟨w.heap.size, 25, #[.int .i64 W, .int .i64 H, .int .i64 P, .slice A xs.length c]⟩] := GS.box' (GS.start w) 25 #[.int .i64 W, .int .i64 H, .int .i64 P, .slice A xs.length c] w.heap.size rfl
  obtain ⟨d0, d1, d2, d3⟩ := S0.b0_4
  go_enter Try.func12, Try.ntmps12
  go_wp2_with fail
  generalize w.alloc (.cells #[.int .i64 W, .int .i64 H, .int .i64 P, .slice A xs.length c] 25) = u0 at *
  refine (iVimg_any W H P A c xs u0 (S0.arg HX.out) hl).mono ?_
  rintro e u1 ⟨rfl, hB⟩
  have S1 := S0.call hB
  clear hB S0 d0 d1 d2 d3
  cases hv : vim W H P xs
  · have HB := Lib.hid S1.below
    have HE : Hid (palOk W H P xs = false ∧ palL W H P xs = []) := Lib.hid (by unfold palL palOk; rw [hv]; exact ⟨rfl, rfl⟩)
    clear S1 hv
    go_wp2
    exact bodyPost_ret (v := .tuple #[.slice none 0 0, .bool false]) (by simp [results, Try.results12, go_sem]) rfl (PalM.mk (LsG.below' (Bs := []) HB.out) HE.out.2 HE.out.1)
  · obtain ⟨W, H, P, rfl, rfl, rfl, hW1, hW, hH1, hH, hP1, hP4, hln, hby⟩ := vim_nat hv
    have HLn := Lib.hid hln
    have HE : Hid (palOk W H P xs = decide ((acL P xs (W * H)).length ≤ 16) ∧ palL W H P xs = cond (decide ((acL P xs (W * H)).length ≤ 16)) (acL P xs (W * H)) []) := Lib.hid (by unfold palL palOk; rw [hv]; exact ⟨rfl, rfl⟩)
    have HYa : Hid (∀ k, k < W * H → allB 0 255 (pxk P xs k) = true ∧ (pxk P xs k).length = P) := Lib.hid (fun k hk => by
      have h1 : k * P + P ≤ xs.length := by
        rw [hln]
        have := Nat.mul_le_mul_right P hk
        rw [Nat.succ_mul] at this
        exact this
      refine ⟨allB_yes fun j hj => ?_, pxk_len h1⟩
      rw [pxk_len h1] at hj
      rw [pxk_get hj]
      exact hby _ (by omega))
    clear hv hln hby
    obtain ⟨mb, hmb⟩ : ∃ mb, mb = u1.heap.size := ⟨_, rfl⟩
    have hwm : w.heap.size < mb := by rw [hmb]; exact (S1.bx (List.Mem.head _)).lt
    have S2 := S1.call ((Below.refl u1.heap.size u1).alloc (Nat.le_refl _) (.map #[] 0))
    have hM2 := MpB.made u1 P
    rw [← hmb] at hM2
    have hmk := fun W : World => run_makeMap (P := Try.prog) 60 W
    have Hmb := Lib.hid hmb
    obtain ⟨u2, hu2⟩ : ∃ u2, u2 = u1.alloc (.map #[] 0) := ⟨_, rfl⟩
    rw [← hu2] at S2 hM2
    obtain ⟨d0, d1, d2, d3⟩ := S2.b0_4
    have HGR := Lib.hid (gridOf_any W H P hW hH hP1 hP4 hW1 hH1 A c xs HLn.out hlc u2 (S2.arg HX.out))
    clear S1
    rw [hu2] at d0 d1 d2 d3
    go_wp2_with fail
    rw [← hu2, ← Hmb.out]
    clear d0 d1 d2 d3 hmk hu2 hmb Hmb
    refine HGR.out.mono ?_
    rintro e u4 ⟨v4, rfl, hO4, hB4⟩
    obtain ⟨N, hN⟩ : ∃ N, N = W * H := ⟨_, rfl⟩
    have hN256 : N ≤ 256 := by rw [hN]; exact Nat.mul_le_mul hW hH
    have hNpos : 0 < N := by rw [hN]; exact Nat.mul_pos hW1 hH1
    have hrow : ∃ b4 c4, v4 = .slice (some ⟨b4, 0, none⟩) N c4 ∧ N ≤ c4 ∧ u2.heap.size ≤ b4 ∧ b4 < u4.heap.size ∧ ∀ j, j < (img W H 4 (pxc W P xs)).length → u4.cell? ⟨b4, 0 + j, none⟩ = some (.int .i64 ((img W H 4 (pxc W P xs)).getD j 0)) := by
      obtain ⟨A4, c4, rfl, hc4⟩ := hO4.slice
      have h0 : 0 < (img W H 4 (pxc W P xs)).length := by rw [img_len, ← hN]; omega
      have hr := (GS.start u2).addR hO4 hB4
      have hr2 : Rds .i64 u4 u4.heap.size A4 (img W H 4 (pxc W P xs)) := GS.rdsT (E := 66) (C := 4) (lo := u2.heap.size) (hi := u4.heap.size) (A := A4) (n := W * H) (m := W * H) (c := c4) hr (List.Mem.head _)
      rcases hO4.2 with ⟨_, h1⟩ | ⟨g, cap, cur, hvv, hbg, hg, hnc, _⟩
      · omega
      · simp only [Value.slice.injEq] at hvv
        obtain ⟨rfl, _, rfl⟩ := hvv
        obtain ⟨b, off, e1, hb, hcx⟩ := hr2.cells_ h0
        injection e1 with e1
        injection e1 with e2 e3
        subst e2
        subst e3
        exact ⟨g, c4, by rw [hN], by rw [hN]; exact hc4, hbg, hb, hcx⟩
    obtain ⟨b4, c4, rfl, hc4, hb4, hb4d, hcx⟩ := hrow
    obtain ⟨d, hd⟩ : ∃ d, d = u4.heap.size := ⟨_, rfl⟩
    rw [← hd] at hb4d
    have HCx := Lib.hid hcx
    have S4 := S2.call hB4
    have hml := hM2.lt
    have hmd : mb < d := by rw [hd]; exact Nat.lt_of_lt_of_le hml hB4.size
    have hmb4 : mb < b4 := Nat.lt_of_lt_of_le hml hb4
    have hI0 : Hid (LsG w u4 (.slice .none 0 0) (acL P xs 0) [⟨w.heap.size, 25, #[.int .i64 (W : Int), .int .i64 (H : Int), .int .i64 (P : Int), .slice A xs.length c]⟩] d) := Lib.hid (LsG.nil S4 (by rw [hd]; exact Nat.le_refl _))
    have hJ0 : Hid (MpB u4 mb 0 P (acL P xs 0) ∧ u4.heap[b4]? = u4.heap[b4]? ∧ (acL P xs 0).length ≤ 16 ∧ d ≤ u4.heap.size) := Lib.hid ⟨hM2.below hB4, rfl, Nat.zero_le _, by rw [hd]; exact Nat.le_refl _⟩
    rw [← hN] at HE HYa HLn
    have HN := Lib.hid hN
    clear hO4 hB4 S2 S4 hM2 hml hb4 hcx hd HGR hN
    have hfl := fld_gridP
    go_wp2
    clear hfl
    go_loopw [5, 16] (fun v i wr => ∃ k : Nat, k ≤ N ∧ i = .int .i64 (k : Int) ∧ Hid (LsG w wr v (acL P xs k) [⟨w.heap.size, 25, #[.int .i64 (W : Int), .int .i64 (H : Int), .int .i64 (P : Int), .slice A xs.length c]⟩] d) ∧ Hid (MpB wr mb k P (acL P xs k) ∧ wr.heap[b4]? = u4.heap[b4]? ∧ (acL P xs k).length ≤ 16 ∧ d ≤ wr.heap.size)) (fun _ i _ => N - (intOf i).toNat)
    case atStart => exact ⟨0, Nat.zero_le _, rfl, hI0, Lib.hid ⟨hJ0.out.1, rfl, hJ0.out.2.2⟩⟩
    case round =>
      obtain ⟨k, hk, rfl, hL, hJ⟩ := hrel
      clear hI0 hJ0
      by_cases hlt : k < N
      · obtain ⟨x0, x1, x2, x3⟩ := pal_cells (k := k) HCx.out (by rw [← HN.out]; exact hlt) (by rw [← HN.out]; exact HLn.out)
        have hkp : ∀ o, wr.cell? ⟨b4, o, none⟩ = u4.cell? ⟨b4, o, none⟩ := fun o => World.cell?_of_block hJ.out.2.1
        rw [← hkp] at x0 x1 x2 x3
        have HSt : Hid (acL P xs (k + 1) = if pxk P xs k ∈ acL P xs k then acL P xs k else acL P xs k ++ [pxk P xs k]) := Lib.hid rfl
        have hYa := HYa.out k hlt
        have HMo : Hid (∀ n, n = acL P xs (k + 1) → n.length ≤ (acL P xs N).length) := Lib.hid (fun n hn => by rw [hn]; exact acL_mono hlt)
        obtain ⟨ys, hys⟩ : ∃ ys, ys = pxk P xs k := ⟨_, rfl⟩
        rw [← hys] at x0 x1 x2 x3 HSt hYa
        have HLy := Lib.hid hYa.2
        have HYb := Lib.hid hYa.1
        clear hkp hYa hys
        obtain ⟨y0, e0⟩ : ∃ v, ys.getD 0 0 = v := ⟨_, rfl⟩
        obtain ⟨y1, e1⟩ : ∃ v, ys.getD 1 0 = v := ⟨_, rfl⟩
        obtain ⟨y2, e2⟩ : ∃ v, ys.getD 2 0 = v := ⟨_, rfl⟩
        obtain ⟨y3, e3⟩ : ∃ v, ys.getD 3 0 = v := ⟨_, rfl⟩
        rw [e0] at x0
        rw [e1] at x1
        rw [e2] at x2
        rw [e3] at x3
        obtain ⟨gx, hgx⟩ : ∃ gx, gx = wr.heap.size := ⟨_, rfl⟩
        have hL2 := hL.out.box 66 #[.int .i64 y0, .int .i64 y1, .int .i64 y2, .int .i64 y3] gx hgx
        have hM2 := hJ.out.1.below ((Below.refl wr.heap.size wr).alloc (Nat.le_refl _) (.cells #[.int .i64 y0, .int .i64 y1, .int .i64 y2, .int .i64 y3] 66))
        have hb2 : (wr.alloc (.cells #[.int .i64 y0, .int .i64 y1, .int .i64 y2, .int .i64 y3] 66)).heap[b4]? = u4.heap[b4]? := (Below.heap_alloc wr _ b4 (Nat.lt_of_lt_of_le hb4d hJ.out.2.2.2)).trans hJ.out.2.1
        have hd2 : d ≤ (wr.alloc (.cells #[.int .i64 y0, .int .i64 y1, .int .i64 y2, .int .i64 y3] 66)).heap.size := Nat.le_trans hJ.out.2.2.2 (by simp)
        have hgm : gx ≠ mb := by have := hJ.out.2.2.2; omega
        have h16 := hJ.out.2.2.1
        have Hgx := Lib.hid hgx
        obtain ⟨z0, z1, z2, z3⟩ := bx4 (T := 66) (hL2.bx (List.Mem.head _))
        obtain ⟨p0, p1, p2, p3⟩ := bx4 (T := 25) (hL2.bx (List.mem_cons_of_mem _ (List.Mem.head _)))
        have hlk := hM2.get HLy.out HYb.out
        simp only [colV] at hlk
        rw [e0, e1, e2, e3] at hlk
        obtain ⟨M, A3, c3, rfl, hc3, hM, hG, hdm⟩ := hL2
        have HM := Lib.hid hM
        have HG := Lib.hid hG
        have Hdm := Lib.hid hdm
        have HOw : Hid (∀ g, (Value.slice A3 (acL P xs k).length c3).ownBlock = some g → d ≤ g) := Lib.hid (fun g hg => (LsG.own (W0 := w) ⟨M, A3, c3, rfl, hc3, hM, hG, hdm⟩ g hg).1)
        have HMb := Lib.hid hM2
        have Hb4 := Lib.hid hb2
        have Hd := Lib.hid hd2
        rw [hgx] at z0 z1 z2 z3
        clear hL hJ hM hG hdm hM2 hb2 hd2 hgx
        generalize acL P xs k = L at *
        by_cases hm : ys ∈ L
        · rw [decide_eq_true hm] at hlk
          have HS2 : Hid (acL P xs (k + 1) = L) := Lib.hid (by rw [HSt.out, if_pos hm])
          clear HSt hm p0 p1 p2 p3
          go_wp2
          go_roundw
          case rel => exact ⟨k + 1, by omega, by go_num, Lib.hid (by rw [HS2.out]; exact LsG.other ⟨M, A3, c3, rfl, hc3, HM.out, HG.out, Hdm.out⟩), Lib.hid ⟨by rw [HS2.out]; exact HMb.out.mono (Nat.le_succ _), Hb4.out, by rw [HS2.out]; exact h16, Hd.out⟩⟩
          case measure => simp [intOf]; omega
        · rw [decide_eq_false hm] at hlk
          have HS2 : Hid (acL P xs (k + 1) = L ++ [ys]) := Lib.hid (by rw [HSt.out, if_neg hm])
          clear HSt hm
          by_cases hfull : L.length = 16
          · have hbq : ((L.length : Int) == 16) = true := beq_iff_eq.2 (by omega)
            have HE2 : Hid (palOk W H P xs = false ∧ palL W H P xs = []) := Lib.hid (by
              have h1 := HE.out
              have h2 := HMo.out _ HS2.out.symm
              rw [List.length_append, hfull] at h2
              simp at h2
              rw [decide_eq_false (show ¬ (acL P xs N).length ≤ 16 by omega)] at h1
              exact h1)
            have HB := Lib.hid HG.out.below
            have hf : (L.length : Int) = 16 := by omega
            clear hbq HE HMo HS2 hfull p0 p1 p2 p3
            go_wp2
            exact bodyPost_ret (v := .tuple #[.slice none 0 0, .bool false]) (by simp [results, Try.results12, go_sem]) rfl (PalM.mk (LsG.below' (Bs := []) HB.out) HE2.out.2 HE2.out.1)
          · have hbq : ((L.length : Int) == 16) = false := beq_eq_false_iff_ne.2 (by omega)
            obtain ⟨w6, hst, hM6, hG6⟩ := MpB.store hP4 HMb.out HLy.out HYb.out (by unfold maxLen; omega)
            simp only [colV] at hst
            rw [e0, e1, e2, e3] at hst
            have hg6 := HG.out.off hG6 (Nat.le_of_lt hwm) (fun t ht => Nat.lt_of_lt_of_le hmd (Hdm.out t ht)) (fun b hb => by
              rcases List.mem_cons.1 hb with rfl | hb
              · exact hgm
              · obtain rfl : b = _ := List.mem_singleton.1 hb
                exact Nat.ne_of_lt hwm)
            have hHM6 : MpB w6 mb (k + 1) P (L ++ [ys]) := hM6
            have Hb6 : Hid (w6.heap[b4]? = u4.heap[b4]?) := Lib.hid ((hG6.block b4 (Nat.lt_of_lt_of_le hb4d Hd.out) (fun e => by injection e with e; omega)).trans Hb4.out)
            have Hd6 : Hid (d ≤ w6.heap.size) := Lib.hid (Nat.le_trans Hd.out hG6.size)
            have HG6 := Lib.hid hg6
            have HMb6 := Lib.hid (show MpB w6 mb (k + 1) P (L ++ [ys]) from hHM6)
            have Hb6' := Lib.hid (show w6.heap[b4]? = u4.heap[b4]? from Hb6.out)
            have hx1000 : L.length ≤ 1000 := by omega
            have HF16 : Hid (L.length + 1 ≤ 16) := Lib.hid (by omega)
            have HPX : Hid (∀ u, Calls Try.prog 43 #[.agg #[.int .i64 y0, .int .i64 y1, .int .i64 y2, .int .i64 y3], .int .i64 (P : Int)] u fun e w' => e = .returned (.slice (some ⟨u.heap.size, 0, none⟩) P P) ∧ Bx w' u.heap.size 66 #[.int .i64 y0, .int .i64 y1, .int .i64 y2, .int .i64 y3] ∧ Below u.heap.size u w') := Lib.hid (fun u => by
              have h := pixelOf_any (fun p => ys.getD p 0) P hP4 u
              simp only [colV] at h
              rw [e0, e1, e2, e3] at h
              exact h)
            go_upto_region 12 with fail
            rw [← Hgx.out]
            obtain ⟨z0, z1, z2, z3⟩ := bx4 (T := 66) (hg6.bx (List.Mem.head _))
            obtain ⟨q0, q1, q2, q3⟩ := bx4 (T := 25) (hg6.bx (List.mem_cons_of_mem _ (List.Mem.head _)))
            have e0' := e0
            have e1' := e1
            have e2' := e2
            have e3' := e3
            clear hlk hst p0 p1 p2 p3 hM6 hG6 HG HMb Hb4 Hd Hgx hg6 hHM6 Hb6 x0 x1 x2 x3 e0 e1 e2 e3 hbq hfull
            go_wp2_with fail
            refine (HPX.out _).mono ?_
            rintro e w5 ⟨rfl, hX5, hB5⟩
            obtain ⟨l5, hl5⟩ : ∃ l5, l5 = w6.heap.size := ⟨_, rfl⟩
            have hO5 := bx_own4 (base := w6.heap.size) hP4 HLy.out (by rw [e0', e1', e2', e3']; exact hX5) (Nat.le_refl _)
            have hG5 : GS w w5 (rt 66 1 l5 w5.heap.size (.slice (some ⟨l5, 0, none⟩) P 4) P ys :: M) [⟨gx, 66, #[.int .i64 y0, .int .i64 y1, .int .i64 y2, .int .i64 y3]⟩, ⟨w.heap.size, 25, #[.int .i64 (W : Int), .int .i64 (H : Int), .int .i64 (P : Int), .slice A xs.length c]⟩] := by rw [hl5]; exact HG6.out.addR hO5 hB5
            have HG5 := Lib.hid hG5
            have HB5 := Lib.hid hB5
            have HL5 : Hid (d ≤ l5 ∧ l5 ≤ w5.heap.size) := Lib.hid ⟨by rw [hl5]; exact Hd6.out, by rw [hl5]; exact hB5.size⟩
            rw [← hl5]
            clear hO5 hG5 hX5 hB5 hl5
            have HG7 := Lib.hid (HG5.out.call ((Below.refl w5.heap.size w5).alloc (Nat.le_refl _) (.cells #[.slice (some ⟨l5, 0, none⟩) P P] 23)))
            have HCl : Hid ((w5.alloc (.cells #[.slice (some ⟨l5, 0, none⟩) P P] 23)).cell? ⟨w5.heap.size, 0, none⟩ = some (.slice (some ⟨l5, 0, none⟩) P P)) := Lib.hid (cell_of_row _ _ _ _ _ _ (heap_alloc_new w5 _))
            have HB7 := Lib.hid (HB5.out.alloc HB5.out.size (.cells #[.slice (some ⟨l5, 0, none⟩) P P] 23))
            have HL7 : Hid (d ≤ l5 ∧ l5 ≤ (w5.alloc (.cells #[.slice (some ⟨l5, 0, none⟩) P P] 23)).heap.size) := Lib.hid ⟨HL5.out.1, Nat.le_trans HL5.out.2 (by simp)⟩
            clear HG5 HB5 HL5 z0 z1 z2 z3 q0 q1 q2 q3
            go_wp2_with (at_builtin; refine wpList_appG rfl (.tmp 28) (.tmp 33) rfl w M [⟨gx, 66, #[.int .i64 y0, .int .i64 y1, .int .i64 y2, .int .i64 y3]⟩, ⟨w.heap.size, 25, #[.int .i64 (W : Int), .int .i64 (H : Int), .int .i64 (P : Int), .slice A xs.length c]⟩] A3 c3 L rfl HM.out w5.heap.size 1 l5 w5.heap.size 66 (some ⟨l5, 0, none⟩) ys P P 4 HG7.out rfl HLy.out.symm HCl.out (by rw [HLy.out]; exact Nat.le_refl _) hx1000 Hdm.out HL7.out.1 HL7.out.2 ?_; intro v7 w7 hL7 hG7)
            have HL8 := Lib.hid hL7
            have HK7 : Hid (w7.heap[mb]? = w6.heap[mb]? ∧ w7.heap[b4]? = w6.heap[b4]? ∧ d ≤ w7.heap.size) := Lib.hid ⟨(hG7.block mb (Nat.lt_of_lt_of_le hmd (Nat.le_trans HL7.out.1 HL7.out.2)) (fun e => by have := HOw.out _ e.symm; omega)).trans (HB7.out.block mb (Nat.lt_of_lt_of_le hmd Hd6.out)), (hG7.block b4 (Nat.lt_of_lt_of_le hb4d (Nat.le_trans HL7.out.1 HL7.out.2)) (fun e => by have := HOw.out _ e.symm; omega)).trans (HB7.out.block b4 (Nat.lt_of_lt_of_le hb4d Hd6.out)), Nat.le_trans HL7.out.1 (Nat.le_trans HL7.out.2 hG7.size)⟩
            clear hL7 hG7 HG7 HCl HB7 HL7
            clear HPX
            go_roundw
            case rel =>
              refine ⟨k + 1, by omega, by go_num, Lib.hid (by rw [HS2.out]; exact HL8.out.other), Lib.hid ⟨by rw [HS2.out]; exact HMb6.out.kept HK7.out.1, HK7.out.2.1.trans Hb6'.out, ?_, HK7.out.2.2⟩⟩
              rw [HS2.out, List.length_append]
              exact HF16.out
            case measure => simp [intOf]; omega
      · have hk' : k = N := by omega
        subst hk'
        obtain ⟨A9, c9, rfl, hc9⟩ := hL.out.slice
        have HE2 : Hid (palOk W H P xs = true ∧ palL W H P xs = acL P xs k) := Lib.hid (by have h1 := HE.out; rw [decide_eq_true hJ.out.2.2.1] at h1; exact h1)
        go_wp2
        exact bodyPost_ret (v := .tuple #[.slice A9 (acL P xs k).length c9, .bool true]) (by simp [results, Try.results12, go_sem]) rfl (PalM.mk hL.out.drop.d0 HE2.out.2 HE2.out.1)
end Go.Proofs.Ytkjebidkkopalaa
namespace Go.Proofs.Ytkjebidkkopalaa
set_option linter.unusedVariables false

def ixOk (W H P : Int) (xs : List Int) (xss : List (List Int)) : Bool := vim W H P xs && (palB xss P && !decide (xss.length = 0))
def ixF (W P : Nat) (xs : List Int) (xss : List (List Int)) (x y p : Nat) : Int := nbI xss (pxl W P xs x y) xss.length
def ixL (W H P : Nat) (xs : List Int) (xss : List (List Int)) : List Int := img W H 1 (ixF W P xs xss)
end Go.Proofs.Ytkjebidkkopalaa
namespace Go.Proofs.Ytkjebidkkopalaa
open Go.RowKit Go.Shelf
set_option linter.unusedSimpArgs false
set_option linter.unusedVariables false
set_option maxRecDepth 20000

theorem Own.setBX {w : World} {base : Nat} {v : Value} {xs : List Int} (h : Own w base v xs) {p : Addr} (hp : p.block < base) (u : Value) : Own (w.setCell p u) base v xs :=
  h.keep fun g hg => heap_setCell_other w p g u (fun e => by have := (h.lt g hg).1; omega)
theorem grown_setX {a w : World} {row : Option Nat} (h : a.grownBy w row) {p : Addr} (hp : a.heap.size ≤ p.block) (u : Value) : a.grownBy (w.setCell p u) row :=
  ⟨h.os, h.tape, h.output, by simpa [World.setCell] using h.size, fun i hi hne => (heap_setCell_other w p i u (fun e => by omega)).trans (h.block i hi hne)⟩
theorem grown_app {a b c : World} {row r2 : Option Nat} (h : a.grownBy b row) (k : b.grownBy c r2) (hr : ∀ j, r2 = some j → a.heap.size ≤ j) : a.grownBy c row :=
  ⟨k.os.trans h.os, k.tape.trans h.tape, k.output.trans h.output, Nat.le_trans h.size k.size, fun i hi hne => (k.block i (Nat.lt_of_lt_of_le hi h.size) (fun e => by have := hr _ e.symm; omega)).trans (h.block i hi hne)⟩
theorem Own.offB {w w' : World} {base : Nat} {v : Value} {xs : List Int} (h : Own w base v xs) {g : Nat} (hG : w.grownBy w' (some g)) (hg : g < base) : Own w' base v xs :=
  h.keep fun k hk => hG.block k (h.lt k hk).2 (fun e => by have := (h.lt k hk).1; injection e with e; omega)
set_option maxHeartbeats 8000000 in
theorem buildX_any (W H : Nat) (hW : W ≤ 16) (hH : H ≤ 16) (g : Nat) (cs : Array Value) (f : Nat → Nat → Int) (w : World) (mb : Nat) (hmb : mb < w.heap.size) (I : Nat → World → Prop) (hI0 : I 0 w)
    (hI : ∀ (k : Nat) (w1 w2 : World), I k w1 → w1.heap.size ≤ w2.heap.size → (∀ k, k < w.heap.size → w2.heap[k]? = w1.heap[k]?) → I k w2)
    (eg : ∀ args w, (callFunc g args).run Try.prog w = .ok (.enter g args) w)
    (hc : ∀ (x y : Nat) (w' : World), x < W → y < H → w.heap.size ≤ w'.heap.size → I (y * W + x) w' → Calls Try.prog g (#[.int .i64 (x : Int), .int .i64 (y : Int)] ++ cs) w' fun e w'' => e = .returned (.int .i64 (f x y)) ∧ I (y * W + x + 1) w'' ∧ w'.grownBy w'' (some mb)) :
    Calls Try.prog 48 #[.int .i64 (W : Int), .int .i64 (H : Int), .func (.func g) #[] cs] w fun e w' => ∃ v, e = .returned (.agg #[.int .i64 (W : Int), .int .i64 (H : Int), v]) ∧ Own w' w.heap.size v (img W H 1 (fun x y _ => f x y)) ∧ w.grownBy w' (some mb) := by
  have HC := Lib.hid hc
  have HI := Lib.hid hI
  have hWH : W * H ≤ 256 := by have := Nat.mul_le_mul hW hH; omega
  have hWHi : (W : Int) * (H : Int) = ((W * H : Nat) : Int) := by simp
  obtain ⟨i, hi, hz, hsz, hb⟩ := info_parts info_int
  have Hi := Lib.hid hi
  have Hz := Lib.hid hz
  have Hs := Lib.hid hsz
  have Hb := Lib.hid hb
  have hnn : 0 ≤ (W : Int) * (H : Int) := by rw [hWHi]; omega
  have hnn2 : (W : Int) * (H : Int) ≤ 256 := by rw [hWHi]; omega
  have HWH := Lib.hid hWHi
  have HG0 := Lib.hid (World.grownBy_alloc w (.cells #[.int .i64 0, .int .i64 0, .slice none 0 0] 74) (some mb))
  have HII := Lib.hid hI0
  clear hc hi hz hsz hb hWHi hI hI0
  go_enter Try.func48, Try.ntmps48
  go_wp2_with (refine wpList_make_own _ rfl (.const (.int .i64 0)) (.tmp 12) 23 rfl (w.heap.size + 1) 3 i _ 1 Try.underlying23 Hi.out Hz.out Hs.out .i64 .i64 _ (W * H) rfl rfl HWH.out (by rw [Hb.out]; omega) (by unfold maxLen; omega) (by simp) ?_; intro w1 hO1 hG1)
  have HI0 : Hid (Own w1 (w.heap.size + 1) (.slice (some ⟨w.heap.size + 1, 0, none⟩) 0 (W * H)) [] ∧ Bx w1 w.heap.size 74 #[.int .i64 0, .int .i64 0, .slice none 0 0] ∧ w.grownBy w1 (some mb) ∧ I 0 w1) := Lib.hid (by
    have hs : (w.alloc (.cells #[.int .i64 0, .int .i64 0, .slice none 0 0] 74)).heap.size = w.heap.size + 1 := by simp
    have h1 : w.grownBy w1 (some mb) := grown_app HG0.out hG1 (by simp)
    refine ⟨by unfold Own; simpa using hO1, (hG1.block _ (by simp) (by simp)).trans (heap_alloc_new w _), h1, HI.out 0 w w1 HII.out h1.size (fun k hk => ?_)⟩
    exact (hG1.block k (by rw [hs]; omega) (by simp)).trans (Below.heap_alloc w _ k hk))
  clear hO1 hG1 hnn hnn2 HWH Hi Hz Hs Hb HG0 HII
  go_loopw [7, 15] (fun v i wr => ∃ y : Nat, y ≤ H ∧ i = .int .i64 y ∧ Hid (Own wr (w.heap.size + 1) v (imgk W 1 (fun x y _ => f x y) (y * W)) ∧ Bx wr w.heap.size 74 #[.int .i64 0, .int .i64 0, .slice none 0 0] ∧ w.grownBy wr (some mb) ∧ I (y * W) wr)) (fun _ i _ => H - (intOf i).toNat)
  case atStart => exact ⟨0, Nat.zero_le _, rfl, by rw [Nat.zero_mul, imgk_zero]; exact HI0⟩
  case round =>
    clear HI0
    obtain ⟨y, hy, rfl, hI⟩ := hrel
    by_cases hylt : y < H
    · go_wp2
      go_loopw [7, 19] (fun v i wr => ∃ x : Nat, x ≤ W ∧ i = .int .i64 x ∧ Hid (Own wr (w.heap.size + 1) v (imgk W 1 (fun x y _ => f x y) (y * W + x)) ∧ Bx wr w.heap.size 74 #[.int .i64 0, .int .i64 0, .slice none 0 0] ∧ w.grownBy wr (some mb) ∧ I (y * W + x) wr)) (fun _ i _ => W - (intOf i).toNat)
      case atStart => exact ⟨0, Nat.zero_le _, rfl, hI⟩
      case round =>
        clear hI
        obtain ⟨x, hx, rfl, hJ⟩ := hrel
        by_cases hxlt : x < W
        · obtain ⟨hO, hX, hG, hIw⟩ := hJ.out
          obtain ⟨A1, c1, rfl, _⟩ := hO.slice
          have hsz := hG.size
          have hxl := hX.lt
          go_wp2_with fail
          refine (HC.out x y wr hxlt hylt hsz hIw).mono ?_
          rintro e w2 ⟨rfl, hI2, hG2⟩
          have hsz2 := hG2.size
          have HO2 := Lib.hid ((hO.offB hG2 (by omega)).keep (w' := w2.alloc (.cells #[.int .i64 (f x y)] 3)) fun k hk => Below.heap_alloc w2 _ k (by have := ((hO.offB hG2 (by omega)).lt k hk).2; omega))
          have HX2 : Hid (Bx (w2.alloc (.cells #[.int .i64 (f x y)] 3)) w.heap.size 74 #[.int .i64 0, .int .i64 0, .slice none 0 0]) := Lib.hid (Bx.alloc ((hG2.block _ hxl (fun e => by injection e with e; omega)).trans hX) _)
          have hG3' : w.grownBy w2 (some mb) := gtrans hG hG2
          have HG2 := Lib.hid (gtrans hG3' (World.grownBy_alloc w2 (.cells #[.int .i64 (f x y)] 3) (some mb)))
          have HI2 := Lib.hid (HI.out _ w2 (w2.alloc (.cells #[.int .i64 (f x y)] 3)) hI2 (by simp) (fun k hk => Below.heap_alloc w2 _ k (by omega)))
          have HQ := Lib.hid (rds_one w2 (f x y))
          have hk : (imgk W 1 (fun x y _ => f x y) (y * W + x)).length ≤ 1000000 := by rw [imgk_len]; have : y * W ≤ H * W := Nat.mul_le_mul_right W hy; rw [Nat.mul_comm H W] at this; omega
          have HBS := Lib.hid (show w.heap.size + 1 ≤ (w2.alloc (.cells #[.int .i64 (f x y)] 3)).heap.size by simp; omega)
          clear hJ hO hX hG hIw hI2 hG2 hG3' hsz hsz2 hxl
          go_wp2_with (at_builtin; refine wpList_app rfl (.tmp 22) (.tmp 27) rfl (w.heap.size + 1) _ _ rfl HO2.out (some ⟨w2.heap.size, 0, none⟩) 1 1 _ [f x y] rfl rfl HQ.out (by simp; omega) HBS.out ?_; intro v3 w3 hO3 hG3)
          have HN : Hid (Own w3 (w.heap.size + 1) v3 (imgk W 1 (fun x y _ => f x y) (y * W + (x + 1))) ∧ Bx w3 w.heap.size 74 #[.int .i64 0, .int .i64 0, .slice none 0 0] ∧ w.grownBy w3 (some mb) ∧ I (y * W + (x + 1)) w3) := Lib.hid (by
            have hlo := fun j hj => (HO2.out.lt j hj).1
            refine ⟨by rw [imgk_one f hxlt]; exact hO3, (hG3.block _ HX2.out.lt (fun e => by have := hlo _ e.symm; omega)).trans HX2.out, grown_app HG2.out hG3 (fun j hj => by have := hlo j hj; omega), HI.out _ _ w3 HI2.out hG3.size (fun k hk => hG3.block k (by have := HG2.out.size; omega) (fun e => by have := hlo _ e.symm; omega))⟩)
          clear hO3 hG3 HO2 HX2 HG2 HI2 HQ hk HBS
          go_roundw
          case rel => exact ⟨x + 1, by omega, by go_num, HN⟩
          case measure => simp [intOf]; omega
        · have HN : Hid (Own wr (w.heap.size + 1) _ (imgk W 1 (fun x y _ => f x y) ((y + 1) * W)) ∧ Bx wr w.heap.size 74 #[.int .i64 0, .int .i64 0, .slice none 0 0] ∧ w.grownBy wr (some mb) ∧ I ((y + 1) * W) wr) := Lib.hid (by rw [imgk_row, show (y + 1) * W = y * W + W by rw [Nat.add_mul, Nat.one_mul]]; have := hJ.out; rwa [show x = W by omega] at this)
          clear hJ
          go_wp2
          go_roundw
          case rel => exact ⟨y + 1, by omega, by go_num, HN⟩
          case measure => simp [intOf]; omega
    · have hG := hI.out
      rw [show y = H by omega, Nat.mul_comm H W, imgk_all] at hG
      obtain ⟨hO, hX, hGr, _⟩ := hG
      obtain ⟨A1, c1, rfl, _⟩ := hO.slice
      have r0 : wr.cell? ⟨w.heap.size, 0, none⟩ = some (.int .i64 0) := cell_of_row wr _ 0 _ _ _ hX
      have r1 : wr.cell? ⟨w.heap.size, 1, none⟩ = some (.int .i64 0) := cell_of_row wr _ 1 _ _ _ hX
      have r2 : wr.cell? ⟨w.heap.size, 2, none⟩ = some (.slice none 0 0) := cell_of_row wr _ 2 _ _ _ hX
      have f0 := frozen_of_row wr w.heap.size 0 _ _ hX
      have f1 := frozen_of_row wr w.heap.size 1 _ _ hX
      have f2 := frozen_of_row wr w.heap.size 2 _ _ hX
      have HE : Hid (∀ u0 u1 u2 : Value, Own (((wr.setCell ⟨w.heap.size, 0, none⟩ u0).setCell ⟨w.heap.size, 1, none⟩ u1).setCell ⟨w.heap.size, 2, none⟩ u2) w.heap.size (.slice A1 (img W H 1 (fun x y _ => f x y)).length c1) (img W H 1 (fun x y _ => f x y)) ∧ w.grownBy (((wr.setCell ⟨w.heap.size, 0, none⟩ u0).setCell ⟨w.heap.size, 1, none⟩ u1).setCell ⟨w.heap.size, 2, none⟩ u2) (some mb)) := Lib.hid fun u0 u1 u2 =>
        ⟨(((hO.setBX (p := ⟨w.heap.size, 0, none⟩) (by simp) u0).setBX (p := ⟨w.heap.size, 1, none⟩) (by simp) u1).setBX (p := ⟨w.heap.size, 2, none⟩) (by simp) u2).base_le (by omega), grown_setX (grown_setX (grown_setX hGr (p := ⟨w.heap.size, 0, none⟩) (Nat.le_refl _) u0) (p := ⟨w.heap.size, 1, none⟩) (Nat.le_refl _) u1) (p := ⟨w.heap.size, 2, none⟩) (Nat.le_refl _) u2⟩
      clear hI hO hX hGr
      go_wp2
      exact bodyPost_ret (v := .agg #[.int .i64 (W : Int), .int .i64 (H : Int), .slice A1 (img W H 1 (fun x y _ => f x y)).length c1]) (by simp [results, Try.results48, go_sem, r0, r1, r2]) rfl ⟨_, rfl, (HE.out _ _ _).1, (HE.out _ _ _).2⟩
end Go.Proofs.Ytkjebidkkopalaa
namespace Go.Proofs.Ytkjebidkkopalaa
open Go.RowKit
set_option linter.unusedSimpArgs false
set_option linter.unusedVariables false
set_option maxRecDepth 20000

def ciOk (W H P : Int) (xs : List Int) (xss : List (List Int)) (a : Int) : Bool := vim W H P xs && (decide (P = 1) && (decide (1 ≤ a ∧ a ≤ 4) && (palB xss a && allB 0 ((xss.length : Int) - 1) xs)))
def ciF (W : Nat) (xs : List Int) (xss : List (List Int)) (x y p : Nat) : Int := (xss.getD (px W 1 xs x y 0).toNat []).getD p 0
def ciL (W H a : Nat) (xs : List Int) (xss : List (List Int)) : List Int := img W H a (ciF W xs xss)
def ColR (ok : Bool) (W H P : Int) (ys : List Int) (w : World) (e : Ending) (w' : World) : Prop :=
  ∃ v, e = .returned (.tuple #[.agg #[.int .i64 (cond ok W 0), .int .i64 (cond ok H 0), .int .i64 (cond ok P 0), v], .bool ok]) ∧ Own w' w.heap.size v (cond ok ys []) ∧ Below w.heap.size w w'
theorem ColR.no {ok : Bool} {W H P : Int} {ys : List Int} {w w' : World} (h : ok = false) (hb : Below w.heap.size w w') : ColR ok W H P ys w (.returned (.tuple #[.agg #[.int .i64 0, .int .i64 0, .int .i64 0, .slice none 0 0], .bool false])) w' := by
  subst h
  exact ⟨_, rfl, World.ownsRow_nil _ _ _ _, hb⟩
theorem ColR.yes {ok : Bool} {W H P : Int} {ys : List Int} {w w' : World} {v : Value} (h : ok = true) (ho : Own w' w.heap.size v ys) (hb : Below w.heap.size w w') : ColR ok W H P ys w (.returned (.tuple #[.agg #[.int .i64 W, .int .i64 H, .int .i64 P, v], .bool true])) w' := by
  subst h
  exact ⟨_, rfl, ho, hb⟩
theorem allB_bd {lo hi : Int} {xs : List Int} (h : allB lo hi xs = true) (j : Nat) (hj : j < xs.length) : lo ≤ xs.getD j 0 ∧ xs.getD j 0 ≤ hi := by
  unfold allB at h
  exact of_decide_eq_true h (xs.getD j 0) (by rw [List.getD_eq_getElem?_getD, List.getElem?_eq_getElem hj]; exact List.getElem_mem hj)
theorem ci_at {W H a k p : Nat} {xs : List Int} {xss : List (List Int)} {vn : Nat} (hk : k < W * H) (hp : p < a) (hv : xs.getD k 0 = (vn : Int)) : (ciL W H a xs xss).getD (k * a + p) 0 = (xss.getD vn []).getD p 0 := by
  unfold ciL
  rw [img_at _ hk hp]
  unfold ciF px pix
  rw [show (k / W * W + k % W) * 1 + 0 = k by rw [Nat.mul_one, Nat.add_zero, Nat.mul_comm]; exact Nat.div_add_mod k W, hv]
  rfl
set_option maxHeartbeats 16000000 in
theorem s_ColorImage (W H P a : Int) (A : Option Addr) (c : Nat) (xs : List Int) (A2 : Option Addr) (n2 c2 : Nat) (xss : List (List Int)) (w : World) (hx : Rds .i64 w w.heap.size A xs) (hl : xs.length ≤ 2000000) (hlc : xs.length ≤ c) (hs : Rdss w w.heap.size A2 xss) (hn2 : n2 = xss.length) (ht : tot xss ≤ 2000000) :
    Calls Try.prog 26 #[.agg #[.int .i64 W, .int .i64 H, .int .i64 P, .slice A xs.length c], .slice A2 n2 c2, .int .i64 a] w (ColR (ciOk W H P xs xss a) W H a (ciL W.toNat H.toNat a.toNat xs xss) w) := by
  have HX := Lib.hid hx
  have HS := Lib.hid hs
  have Hn2 := Lib.hid hn2
  have Htt := Lib.hid ht
  have hnl2 : n2 ≤ 2000000 := by rw [hn2]; unfold tot at ht; omega
  clear hx hs hn2 ht
  have S0 : GS w ((w.alloc (.cells #[.int .i64 W, .int .i64 H, .int .i64 P, .slice A xs.length c] 25)).alloc (.cells #[.int .i64 0, .int .i64 0, .int .i64 0, .slice none 0 0] 25)) [] [⟨(w.heap.size + 1), 25, #[.int .i64 0, .int .i64 0, .int .i64 0, .slice none 0 0]⟩, ⟨w.heap.size, 25, #[.int .i64 W, .int .i64 H, .int .i64 P, .slice A xs.length c]⟩] := GS.box' (GS.box' (GS.start w) 25 #[.int .i64 W, .int .i64 H, .int .i64 P, .slice A xs.length c] w.heap.size (by simp)) 25 #[.int .i64 0, .int .i64 0, .int .i64 0, .slice none 0 0] (w.heap.size + 1) (by simp)
  have HV : Hid (ciOk W H P xs xss a = (vim W H P xs && (decide (P = 1) && (decide (1 ≤ a ∧ a ≤ 4) && (palB xss a && allB 0 ((xss.length : Int) - 1) xs))))) := Lib.hid rfl
  go_enter Try.func26, Try.ntmps26
  go_wp2_with fail
  generalize (w.alloc (.cells #[.int .i64 W, .int .i64 H, .int .i64 P, .slice A xs.length c] 25)).alloc (.cells #[.int .i64 0, .int .i64 0, .int .i64 0, .slice none 0 0] 25) = u0 at *
  refine (sVimg_any W H P A c xs u0 (S0.arg HX.out) hl).mono ?_
  rintro e u1 ⟨rfl, hB⟩
  have S1 := S0.call hB
  clear hB S0
  cases hv : vim W H P xs
  · have Hv : Hid (ciOk W H P xs xss a = false) := Lib.hid (by rw [HV.out, hv]; rfl)
    clear hv HV
    obtain ⟨r0, r1, r2, r3⟩ := S1.b0_4
    have f0 := S1.f0 0
    have f1 := S1.f0 1
    have f2 := S1.f0 2
    have f3 := S1.f0 3
    have HE := Lib.hid (S1.e0_4 (.int .i64 0) (.int .i64 0) (.int .i64 0) (.slice none 0 0))
    clear S1
    go_wp2
    exact bodyPost_ret (v := .tuple #[.agg #[.int .i64 0, .int .i64 0, .int .i64 0, .slice none 0 0], .bool false]) (by simp [results, Try.results26, go_sem, r0, r1, r2, r3]) rfl (ColR.no Hv.out HE.out.1)
  by_cases hP1 : P = 1
  case neg =>
    have Hv : Hid (ciOk W H P xs xss a = false) := Lib.hid (by rw [HV.out, decide_eq_false hP1]; simp)
    have hPb : (P != 1) = true := bne_iff_ne.2 hP1
    clear hv HV
    obtain ⟨d0, d1, d2, d3⟩ := S1.b1_4
    obtain ⟨r0, r1, r2, r3⟩ := S1.b0_4
    have f0 := S1.f0 0
    have f1 := S1.f0 1
    have f2 := S1.f0 2
    have f3 := S1.f0 3
    have HE := Lib.hid (S1.e0_4 (.int .i64 0) (.int .i64 0) (.int .i64 0) (.slice none 0 0))
    clear S1
    go_wp2
    exact bodyPost_ret (v := .tuple #[.agg #[.int .i64 0, .int .i64 0, .int .i64 0, .slice none 0 0], .bool false]) (by simp [results, Try.results26, go_sem, r0, r1, r2, r3]) rfl (ColR.no Hv.out HE.out.1)
  subst hP1
  by_cases ha : 1 ≤ a ∧ a ≤ 4
  case neg =>
    have Hv : Hid (ciOk W H 1 xs xss a = false) := Lib.hid (by rw [HV.out, decide_eq_false ha]; simp)
    have HA := Lib.hid ha
    clear hv HV ha
    obtain ⟨d0, d1, d2, d3⟩ := S1.b1_4
    go_wp2_with fail
    refine (sIn_any a 1 4 _).mono ?_
    rintro e w2 ⟨rfl, rfl⟩
    rw [decide_eq_false HA.out]
    clear d0 d1 d2 d3
    obtain ⟨r0, r1, r2, r3⟩ := S1.b0_4
    have f0 := S1.f0 0
    have f1 := S1.f0 1
    have f2 := S1.f0 2
    have f3 := S1.f0 3
    have HE := Lib.hid (S1.e0_4 (.int .i64 0) (.int .i64 0) (.int .i64 0) (.slice none 0 0))
    clear S1
    go_wp2
    exact bodyPost_ret (v := .tuple #[.agg #[.int .i64 0, .int .i64 0, .int .i64 0, .slice none 0 0], .bool false]) (by simp [results, Try.results26, go_sem, r0, r1, r2, r3]) rfl (ColR.no Hv.out HE.out.1)
  obtain ⟨d0, d1, d2, d3⟩ := S1.b1_4
  have HA := Lib.hid ha
  clear ha
  go_wp2_with fail
  refine (sIn_any a 1 4 _).mono ?_
  rintro e w2 ⟨rfl, rfl⟩
  rw [decide_eq_true HA.out]
  go_wp2_with fail
  have HSu := Lib.hid ((HS.out.below S1.below).more S1.below.size)
  refine (sVcs_any A2 c2 n2 _ xss a u1 Hn2.out HSu.out Htt.out).mono ?_
  rintro e w2 ⟨rfl, rfl⟩
  cases hp : palB xss a
  · have Hv : Hid (ciOk W H 1 xs xss a = false) := Lib.hid (by rw [HV.out, hp]; simp)
    clear hv HV hp d0 d1 d2 d3
    obtain ⟨r0, r1, r2, r3⟩ := S1.b0_4
    have f0 := S1.f0 0
    have f1 := S1.f0 1
    have f2 := S1.f0 2
    have f3 := S1.f0 3
    have HE := Lib.hid (S1.e0_4 (.int .i64 0) (.int .i64 0) (.int .i64 0) (.slice none 0 0))
    clear S1
    go_wp2
    exact bodyPost_ret (v := .tuple #[.agg #[.int .i64 0, .int .i64 0, .int .i64 0, .slice none 0 0], .bool false]) (by simp [results, Try.results26, go_sem, r0, r1, r2, r3]) rfl (ColR.no Hv.out HE.out.1)
  have hpo := palB_of hp
  have hw1 : IntKind.i64.wrap ((n2 : Int) - 1) = (n2 : Int) - 1 := IntWalk.i64_in _ (by omega)
  go_wp2_with fail
  refine (sAllIn_any A c _ xs 0 ((n2 : Int) - 1) u1 (S1.arg HX.out) (by omega)).mono ?_
  rintro e w2 ⟨rfl, rfl⟩
  cases hal : allB 0 ((n2 : Int) - 1) xs
  · have Hv : Hid (ciOk W H 1 xs xss a = false) := Lib.hid (by rw [HV.out, ← Hn2.out, hal]; simp)
    clear hv HV hp hal d0 d1 d2 d3 hpo
    obtain ⟨r0, r1, r2, r3⟩ := S1.b0_4
    have f0 := S1.f0 0
    have f1 := S1.f0 1
    have f2 := S1.f0 2
    have f3 := S1.f0 3
    have HE := Lib.hid (S1.e0_4 (.int .i64 0) (.int .i64 0) (.int .i64 0) (.slice none 0 0))
    clear S1
    go_wp2
    exact bodyPost_ret (v := .tuple #[.agg #[.int .i64 0, .int .i64 0, .int .i64 0, .slice none 0 0], .bool false]) (by simp [results, Try.results26, go_sem, r0, r1, r2, r3]) rfl (ColR.no Hv.out HE.out.1)
  have Hv : Hid (ciOk W H 1 xs xss a = true) := Lib.hid (by rw [HV.out, ← Hn2.out, hv, hp, hal, decide_eq_true HA.out]; rfl)
  clear HV
  obtain ⟨W, H, P, rfl, rfl, hP, hW1, hW, hH1, hH, hP1, hPm, hln, hby⟩ := vim_nat hv
  obtain rfl : P = 1 := by omega
  obtain ⟨a, rfl⟩ := Int.eq_ofNat_of_zero_le (show 0 ≤ a by have := HA.out; omega)
  have ha4 : 1 ≤ a ∧ a ≤ 4 := by have := HA.out; omega
  rw [Nat.mul_one] at hln
  have hpos : 0 < xs.length := by rw [hln]; exact Nat.mul_pos hW1 hH1
  obtain ⟨b, off, rfl, hb, hcx⟩ := HX.out.cells_ hpos
  obtain ⟨n1, hn1⟩ : ∃ n1, n1 = xs.length := ⟨_, rfl⟩
  have HVn : Hid (∀ k, k < n1 → ∃ vn : Nat, xs.getD k 0 = (vn : Int) ∧ vn < n2) := Lib.hid (fun k hk => by
    have h1 := allB_bd hal k (by omega)
    exact ⟨(xs.getD k 0).toNat, by omega, by omega⟩)
  have hWH : W * H ≤ 256 := by have := Nat.mul_le_mul hW hH; omega
  obtain ⟨n, hn⟩ : ∃ n, n = W * H * a := ⟨_, rfl⟩
  have hn1024 : n ≤ 1024 := by rw [hn]; have := Nat.mul_le_mul hWH ha4.2; omega
  obtain ⟨L, hL⟩ : ∃ L, L = ciL W H a xs xss := ⟨_, rfl⟩
  have HLL : Hid (L.length = n) := Lib.hid (by rw [hL, hn]; exact img_len ..)
  have HLA : Hid (∀ (k p vn : Nat), k < n1 → p < a → xs.getD k 0 = (vn : Int) → L.getD (k * a + p) 0 = (xss.getD vn []).getD p 0) := Lib.hid (fun k p vn hk hp hv => by rw [hL]; exact ci_at (by rw [← hln, ← hn1]; exact hk) hp hv)
  have HRow := Lib.hid (fun i (hi : i < n2) => hpo.2 i (by have := Hn2.out; omega))
  have HCx := Lib.hid hcx
  have HN1 : Hid (n1 * a = n) := Lib.hid (by rw [hn1, hln, hn])
  have hn1b : n1 ≤ 256 := by omega
  have HBl := Lib.hid S1.below
  have hbu : b < u1.heap.size := Nat.lt_of_lt_of_le hb S1.below.size
  have h0pos : 0 < n2 := by obtain ⟨vn, _, h2⟩ := HVn.out 0 (by omega); omega
  obtain ⟨b2, off2, zA, zc, hA2, hb2u, zh1, zh2, zh3⟩ := HSu.out.at (i := 0) (by have := Hn2.out; omega)
  clear zh1 zh2 zh3 zA zc
  subst hA2
  have HL0 := Lib.hid hL
  have Hn := Lib.hid hn
  have Hn1 := Lib.hid hn1
  have Hg0 : Hid (0 < W * H * a) := Lib.hid (Nat.mul_pos (Nat.mul_pos hW1 hH1) ha4.1)
  clear hP hn hL hn1 hln hv hby hP1 hPm hcx hp hpo hal HX HS
  go_wp2_with fail
  refine (newImage_any W H a hW hH ha4.2 u1).mono ?_
  rintro e u3 ⟨v3, rfl, hO3, hB3⟩
  have hzl : (zeros (W * H * a)).length = n := by simp [zeros, Hn.out]
  obtain ⟨g, c3, rfl, hg1, hg2⟩ := hO3.form (by rw [hzl, Hn.out]; exact Hg0.out)
  have S3 := S1.add hO3 hB3
  rw [hzl] at S3 ⊢
  rw [← Hn.out] at S3
  rw [← Hn1.out] at S3 ⊢
  obtain ⟨lo3, hlo3⟩ : ∃ lo3, lo3 = u1.heap.size := ⟨_, rfl⟩
  obtain ⟨hi3, hhi3⟩ : ∃ hi3, hi3 = u3.heap.size := ⟨_, rfl⟩
  obtain ⟨b3, hb3⟩ : ∃ b3, b3 = u3.heap.size := ⟨_, rfl⟩
  rw [← hlo3, ← hhi3] at S3
  have HI0 : Hid (GS w (u3.alloc (.cells #[.int .i64 (W : Int), .int .i64 (H : Int), .int .i64 (a : Int), .slice (some ⟨g, 0, none⟩) n c3] 25)) [ri lo3 hi3 (.slice (some ⟨g, 0, none⟩) n c3) (L.take 0 ++ zeros (n - 0))] [⟨b3, 25, #[.int .i64 (W : Int), .int .i64 (H : Int), .int .i64 (a : Int), .slice (some ⟨g, 0, none⟩) n c3]⟩, ⟨w.heap.size + 1, 25, #[.int .i64 0, .int .i64 0, .int .i64 0, .slice none 0 0]⟩, ⟨w.heap.size, 25, #[.int .i64 (W : Int), .int .i64 (H : Int), .int .i64 1, .slice (some ⟨b, off, none⟩) n1 c]⟩] ∧ Below u1.heap.size u1 (u3.alloc (.cells #[.int .i64 (W : Int), .int .i64 (H : Int), .int .i64 (a : Int), .slice (some ⟨g, 0, none⟩) n c3] 25))) :=
    Lib.hid ⟨by simpa using GS.box' S3 _ _ b3 hb3, hB3.alloc hB3.size _⟩
  have HB3 := Lib.hid hb3
  have hgu : u1.heap.size ≤ g := hg1
  clear hO3 hB3 S1 S3 hzl hlo3 hhi3 hb3 hg1 hg2 d0 d1 d2 d3 hpos hW1 hH1
  go_wp2
  (try rw [← HB3.out])
  go_loopw [9, 10] (fun i q wr => ∃ k : Nat, k ≤ n1 ∧ i = .int .i64 (k : Int) ∧ Hid (GS w wr [ri lo3 hi3 (.slice (some ⟨g, 0, none⟩) n c3) (L.take (k * a) ++ zeros (n - (k * a)))] [⟨b3, 25, #[.int .i64 (W : Int), .int .i64 (H : Int), .int .i64 (a : Int), .slice (some ⟨g, 0, none⟩) n c3]⟩, ⟨w.heap.size + 1, 25, #[.int .i64 0, .int .i64 0, .int .i64 0, .slice none 0 0]⟩, ⟨w.heap.size, 25, #[.int .i64 (W : Int), .int .i64 (H : Int), .int .i64 1, .slice (some ⟨b, off, none⟩) n1 c]⟩] ∧ Below u1.heap.size u1 wr)) (fun i _ _ => n1 - (intOf i).toNat)
  case atStart => exact ⟨0, Nat.zero_le _, rfl, by simpa using HI0⟩
  case round =>
    obtain ⟨k, hk, rfl, hI⟩ := hrel
    clear HI0
    obtain ⟨o0, o1, o2, o3⟩ := hI.out.1.b0_4
    obtain ⟨m0, m1, m2, m3⟩ := hI.out.1.b2_4
    by_cases hlt : k < n1
    · obtain ⟨vn, hvn, hv2⟩ := HVn.out k hlt
      obtain ⟨bz, oz, Av, cv, hA2, hb2', hcv, hcell, hrow⟩ := HSu.out.at (i := vn) (by have := Hn2.out; omega)
      injection hA2 with hA2; injection hA2 with e1 e2; subst e1; subst e2
      have hvl : (xss.getD vn []).length = a := by have := (HRow.out vn hv2).1; omega
      rw [hvl] at hcell
      obtain ⟨bv, ov, rfl, hbv, hcv2⟩ := hrow.cells_ (j := 0) (by rw [hvl]; omega)
      have HCell := Lib.hid hcell
      have HCv := Lib.hid hcv2
      have Hvl := Lib.hid hvl
      have Hvn := Lib.hid hvn
      clear hcell hrow hcv2 hvl hvn hb2' hcv
      go_wp2
      go_loopw [10] (fun q wr => ∃ p : Nat, p ≤ a ∧ q = .int .i64 (p : Int) ∧ Hid (GS w wr [ri lo3 hi3 (.slice (some ⟨g, 0, none⟩) n c3) (L.take (k * a + p) ++ zeros (n - (k * a + p)))] [⟨b3, 25, #[.int .i64 (W : Int), .int .i64 (H : Int), .int .i64 (a : Int), .slice (some ⟨g, 0, none⟩) n c3]⟩, ⟨w.heap.size + 1, 25, #[.int .i64 0, .int .i64 0, .int .i64 0, .slice none 0 0]⟩, ⟨w.heap.size, 25, #[.int .i64 (W : Int), .int .i64 (H : Int), .int .i64 1, .slice (some ⟨b, off, none⟩) n1 c]⟩] ∧ Below u1.heap.size u1 wr)) (fun q _ => a - (intOf q).toNat)
      case atStart => exact ⟨0, Nat.zero_le _, rfl, hI⟩
      case round =>
        obtain ⟨p, hp, rfl, hJ⟩ := hrel
        by_cases hlt2 : p < a
        · obtain ⟨q, hq⟩ : ∃ q, q = k * a + p := ⟨_, rfl⟩
          have hqn : q < n := by
            have h1 := Nat.mul_le_mul_right a (show k + 1 ≤ n1 from hlt)
            rw [HN1.out, Nat.add_mul, Nat.one_mul] at h1
            omega
          obtain ⟨y, hy⟩ : ∃ y, y = (xss.getD vn []).getD p 0 := ⟨_, rfl⟩
          have hLy : L.getD q 0 = y := by rw [hq, hy]; exact HLA.out k p vn hlt hlt2 Hvn.out
          have HT : Hid ((L.take q ++ zeros (n - q)).set q y = L.take (q + 1) ++ zeros (n - (q + 1))) := Lib.hid (by have h := take_set_next L q (by rw [HLL.out]; exact hqn); rw [hLy, HLL.out] at h; exact h)
          have hJ' := hJ.out
          rw [← hq] at hJ'
          have HC := Lib.hid hJ'.1.drew
          have HBw := Lib.hid hJ'.2.drew
          have h1 : xs.getD k 0 = (vn : Int) := Hvn.out
          have hc1 := (HBl.out.cell (p := ⟨b, off + k, none⟩) hb).trans (HCx.out k (by have := Hn1.out; omega))
          rw [h1] at hc1
          have hc3 := HCv.out p (by rw [Hvl.out]; exact hlt2)
          rw [← hy] at hc3
          have hx1 := (HBw.out.cell (p := ⟨b, off + k, none⟩) hbu).trans hc1
          have hx2 := (HBw.out.cell (p := ⟨b2, off2 + vn, none⟩) hb2u).trans HCell.out
          have hx3 := (HBw.out.cell (p := ⟨bv, ov + p, none⟩) hbv).trans hc3
          have hlj : (L.take q ++ zeros (n - q)).length = n := by simp [zeros, HLL.out]; omega
          have Hlj := Lib.hid hlj
          have hcw := HC.out.o0.cell Hlj.out.symm (j := q) (by rw [Hlj.out]; exact hqn)
          have hfw := HC.out.o0.frozen Hlj.out.symm q
          have hka : k * a ≤ 1024 := by omega
          have i1 : (k : Int) * (a : Int) = ((k * a : Nat) : Int) := by simp
          obtain ⟨ka, hka2⟩ : ∃ ka, ka = k * a := ⟨_, rfl⟩
          rw [← hka2] at i1 hka hq
          have i2 : (ka : Int) + (p : Int) = (q : Int) := by rw [hq]; simp
          have hw1 : IntKind.i64.wrap ((ka : Nat) : Int) = (ka : Int) := IntWalk.i64_in _ (by omega)
          have hw2 : IntKind.i64.wrap ((q : Nat) : Int) = (q : Int) := IntWalk.i64_in _ (by omega)
          have HN : Hid (GS w (wr.drew.setCell ⟨g, q, none⟩ (.int .i64 y)) [ri lo3 hi3 (.slice (some ⟨g, 0, none⟩) n c3) (L.take (q + 1) ++ zeros (n - (q + 1)))] [⟨b3, 25, #[.int .i64 (W : Int), .int .i64 (H : Int), .int .i64 (a : Int), .slice (some ⟨g, 0, none⟩) n c3]⟩, ⟨w.heap.size + 1, 25, #[.int .i64 0, .int .i64 0, .int .i64 0, .slice none 0 0]⟩, ⟨w.heap.size, 25, #[.int .i64 (W : Int), .int .i64 (H : Int), .int .i64 1, .slice (some ⟨b, off, none⟩) n1 c]⟩]) := Lib.hid (by have hput := HC.out.o0.put Hlj.out.symm q y; have h := HC.out.mark0 hput.1 (by simp) hput.2; rw [HT.out] at h; exact h)
          have HBn := Lib.hid (HBw.out.setCell (p := ⟨g, q, none⟩) hgu (.int .i64 y))
          have hz1 := (HBn.out.cell (p := ⟨b, off + k, none⟩) hbu).trans hc1
          have hz2 := (HBn.out.cell (p := ⟨b2, off2 + vn, none⟩) hb2u).trans HCell.out
          have hz3 := (HBn.out.cell (p := ⟨bv, ov + p, none⟩) hbv).trans hc3
          have hq2 : q + 1 = k * a + (p + 1) := by rw [← hka2]; omega
          have HRel : Hid (GS w (wr.drew.setCell ⟨g, q, none⟩ (.int .i64 y)) [ri lo3 hi3 (.slice (some ⟨g, 0, none⟩) n c3) (L.take (k * a + (p + 1)) ++ zeros (n - (k * a + (p + 1))))] [⟨b3, 25, #[.int .i64 (W : Int), .int .i64 (H : Int), .int .i64 (a : Int), .slice (some ⟨g, 0, none⟩) n c3]⟩, ⟨w.heap.size + 1, 25, #[.int .i64 0, .int .i64 0, .int .i64 0, .slice none 0 0]⟩, ⟨w.heap.size, 25, #[.int .i64 (W : Int), .int .i64 (H : Int), .int .i64 1, .slice (some ⟨b, off, none⟩) n1 c]⟩] ∧ Below u1.heap.size u1 (wr.drew.setCell ⟨g, q, none⟩ (.int .i64 y))) := Lib.hid ⟨by rw [← hq2]; exact HN.out, HBn.out⟩
          clear hJ hJ' hI hc1 hc3 hy hLy hq2 hka2 h1 hlj hq
          generalize (List.getD (L.take q ++ zeros (n - q)) q 0) = yo at *
          go_upto_region 10 with fail
          refine wp_region_held_drew (S := (fun w' => w'.cell? ⟨b3, 3, none⟩ = some (.slice (some ⟨g, 0, none⟩) n c3) ∧ w'.cell? ⟨w.heap.size, 3, none⟩ = some (.slice (some ⟨b, off, none⟩) n1 c) ∧ w'.cell? ⟨b, off + k, none⟩ = some (.int .i64 (vn : Int)) ∧ w'.cell? ⟨b2, off2 + vn, none⟩ = some (.slice (some ⟨bv, ov, none⟩) a cv) ∧ w'.cell? ⟨bv, ov + p, none⟩ = some (.int .i64 y))) (by kernel_rfl) (by exact ⟨HC.out.b0_4.2.2.2, HC.out.b2_4.2.2.2, hx1, hx2, hx3⟩) (fun hHeld => ?_)
          refine' wpAnyH_take (i := 0) (oi := _) (v := _) ?hi21 (by kernel_rfl) (by kernel_rfl) (by kernel_rfl) ?hq21 (Or.inl ⟨?hw21, ?hy21⟩) (by assumption) ?rest21
          case hi21 => (simp only [List.getElem?_toArray, List.getElem?_cons_succ, List.getElem?_cons_zero]; rfl)
          case hq21 => exact fun _ _ _ h => h
          case hw21 => rfl
          case hy21 => (intro wq hSw; (try dsimp only at hSw); go_simp; (try with_reducible rfl))
          (try simp only [Act.put, List.setIfInBounds_toArray, List.set_cons_zero, List.set_cons_succ])
          refine' wpAnyH_take (i := 1) (oi := _) (v := _) ?hi22 (by kernel_rfl) (by kernel_rfl) (by kernel_rfl) ?hq22 (Or.inl ⟨?hw22, ?hy22⟩) (by assumption) ?rest22
          case hi22 => (simp only [List.getElem?_toArray, List.getElem?_cons_succ, List.getElem?_cons_zero]; rfl)
          case hq22 => exact fun _ _ _ h => h
          case hw22 => rfl
          case hy22 => (intro wq hSw; (try dsimp only at hSw); go_simp; (try with_reducible rfl))
          (try simp only [Act.put, List.setIfInBounds_toArray, List.set_cons_zero, List.set_cons_succ])
          refine' wpAnyH_take (i := 2) (oi := _) (v := _) ?hi23 (by kernel_rfl) (by kernel_rfl) (by kernel_rfl) ?hq23 (Or.inl ⟨?hw23, ?hy23⟩) (by assumption) ?rest23
          case hi23 => (simp only [List.getElem?_toArray, List.getElem?_cons_succ, List.getElem?_cons_zero]; rfl)
          case hq23 => exact fun _ _ _ h => h
          case hw23 => rfl
          case hy23 => (intro wq hSw; (try dsimp only at hSw); go_simp; (try with_reducible rfl))
          (try simp only [Act.put, List.setIfInBounds_toArray, List.set_cons_zero, List.set_cons_succ])
          refine' wpAnyH_take (i := 3) (oi := _) (v := _) ?hi24 (by kernel_rfl) (by kernel_rfl) (by kernel_rfl) ?hq24 (Or.inl ⟨?hw24, ?hy24⟩) (by assumption) ?rest24
          case hi24 => (simp only [List.getElem?_toArray, List.getElem?_cons_succ, List.getElem?_cons_zero]; rfl)
          case hq24 => exact fun _ _ _ h => h
          case hw24 => rfl
          case hy24 => (intro wq hSw; (try dsimp only at hSw); go_simp; (try with_reducible rfl))
          (try simp only [Act.put, List.setIfInBounds_toArray, List.set_cons_zero, List.set_cons_succ])
          refine' wpAnyH_take (i := 4) (oi := _) (v := _) ?hi25 (by kernel_rfl) (by kernel_rfl) (by kernel_rfl) ?hq25 (Or.inl ⟨?hw25, ?hy25⟩) (by assumption) ?rest25
          case hi25 => (simp only [List.getElem?_toArray, List.getElem?_cons_succ, List.getElem?_cons_zero]; rfl)
          case hq25 => exact fun _ _ _ h => h
          case hw25 => rfl
          case hy25 => (intro wq hSw; (try dsimp only at hSw); go_simp; (try with_reducible rfl))
          (try simp only [Act.put, List.setIfInBounds_toArray, List.set_cons_zero, List.set_cons_succ])
          refine' wpAnyH_take (i := 5) (oi := _) (v := _) ?hi26 (by kernel_rfl) (by kernel_rfl) (by kernel_rfl) ?hq26 (Or.inl ⟨?hw26, ?hy26⟩) (by assumption) ?rest26
          case hi26 => (simp only [List.getElem?_toArray, List.getElem?_cons_succ, List.getElem?_cons_zero]; rfl)
          case hq26 => exact fun _ _ _ h => h
          case hw26 => rfl
          case hy26 => (intro wq hSw; (try dsimp only at hSw); go_simp; (try with_reducible rfl))
          (try simp only [Act.put, List.setIfInBounds_toArray, List.set_cons_zero, List.set_cons_succ])
          refine' wpAnyH_take (i := 6) (oi := _) (v := _) ?hi27 (by kernel_rfl) (by kernel_rfl) (by kernel_rfl) ?hq27 (Or.inl ⟨?hw27, ?hy27⟩) (by assumption) ?rest27
          case hi27 => (simp only [List.getElem?_toArray, List.getElem?_cons_succ, List.getElem?_cons_zero]; rfl)
          case hq27 => exact fun _ _ _ h => h
          case hw27 => rfl
          case hy27 => (intro wq hSw; (try dsimp only at hSw); go_simp; (try with_reducible rfl))
          (try simp only [Act.put, List.setIfInBounds_toArray, List.set_cons_zero, List.set_cons_succ])
          refine' wpAnyH_take (i := 7) (oi := _) (v := _) ?hi28 (by kernel_rfl) (by kernel_rfl) (by kernel_rfl) ?hq28 (Or.inl ⟨?hw28, ?hy28⟩) (by assumption) ?rest28
          case hi28 => (simp only [List.getElem?_toArray, List.getElem?_cons_succ, List.getElem?_cons_zero]; rfl)
          case hq28 => exact fun _ _ _ h => h
          case hw28 => rfl
          case hy28 => (intro wq hSw; (try dsimp only at hSw); go_simp; (try with_reducible rfl))
          (try simp only [Act.put, List.setIfInBounds_toArray, List.set_cons_zero, List.set_cons_succ])
          refine' wpAnyH_take (i := 8) (oi := _) (v := _) ?hi29 (by kernel_rfl) (by kernel_rfl) (by kernel_rfl) ?hq29 (Or.inl ⟨?hw29, ?hy29⟩) (by assumption) ?rest29
          case hi29 => (simp only [List.getElem?_toArray, List.getElem?_cons_succ, List.getElem?_cons_zero]; rfl)
          case hq29 => exact fun _ _ _ h => h
          case hw29 => rfl
          case hy29 => (intro wq hSw; (try dsimp only at hSw); go_simp; (try with_reducible rfl))
          (try simp only [Act.put, List.setIfInBounds_toArray, List.set_cons_zero, List.set_cons_succ])
          refine' wpAnyH_take (i := 9) (oi := _) (v := _) ?hi30 (by kernel_rfl) (by kernel_rfl) (by kernel_rfl) ?hq30 (Or.inl ⟨?hw30, ?hy30⟩) (by assumption) ?rest30
          case hi30 => (simp only [List.getElem?_toArray, List.getElem?_cons_succ, List.getElem?_cons_zero]; rfl)
          case hq30 => exact fun _ _ _ h => h
          case hw30 => rfl
          case hy30 => (intro wq hSw; (try dsimp only at hSw); go_simp; (try with_reducible rfl))
          (try simp only [Act.put, List.setIfInBounds_toArray, List.set_cons_zero, List.set_cons_succ])
          refine' wpAnyH_take (i := 10) (oi := _) (v := _) ?hi31 (by kernel_rfl) (by kernel_rfl) (by kernel_rfl) ?hq31 (Or.inl ⟨?hw31, ?hy31⟩) (by assumption) ?rest31
          case hi31 => (simp only [List.getElem?_toArray, List.getElem?_cons_succ, List.getElem?_cons_zero]; rfl)
          case hq31 => exact fun _ _ _ h => h
          case hw31 => rfl
          case hy31 => (intro wq hSw; (try dsimp only at hSw); go_simp; (try with_reducible rfl))
          (try simp only [Act.put, List.setIfInBounds_toArray, List.set_cons_zero, List.set_cons_succ])
          refine' wpAnyH_take (i := 11) (oi := _) (v := _) ?hi32 (by kernel_rfl) (by kernel_rfl) (by kernel_rfl) ?hq32 (Or.inl ⟨?hw32, ?hy32⟩) (by assumption) ?rest32
          case hi32 => (simp only [List.getElem?_toArray, List.getElem?_cons_succ, List.getElem?_cons_zero]; rfl)
          case hq32 => exact fun _ _ _ h => h
          case hw32 => rfl
          case hy32 => (intro wq hSw; (try dsimp only at hSw); go_simp; (try with_reducible rfl))
          (try simp only [Act.put, List.setIfInBounds_toArray, List.set_cons_zero, List.set_cons_succ])
          refine' wpAnyH_take (i := 12) (oi := _) (v := _) ?hi33 (by kernel_rfl) (by kernel_rfl) (by kernel_rfl) ?hq33 (Or.inl ⟨?hw33, ?hy33⟩) (by assumption) ?rest33
          case hi33 => (simp only [List.getElem?_toArray, List.getElem?_cons_succ, List.getElem?_cons_zero]; rfl)
          case hq33 => exact fun _ _ _ h => h
          case hw33 => rfl
          case hy33 => (intro wq hSw; (try dsimp only at hSw); go_simp; (try with_reducible rfl))
          (try simp only [Act.put, List.setIfInBounds_toArray, List.set_cons_zero, List.set_cons_succ])
          refine' wpAnyH_take (i := 13) (oi := _) (v := _) ?hi34 (by kernel_rfl) (by kernel_rfl) (by kernel_rfl) ?hq34 (Or.inl ⟨?hw34, ?hy34⟩) (by assumption) ?rest34
          case hi34 => (simp only [List.getElem?_toArray, List.getElem?_cons_succ, List.getElem?_cons_zero]; rfl)
          case hq34 => exact fun _ _ _ h => h
          case hw34 => rfl
          case hy34 => (intro wq hSw; (try dsimp only at hSw); go_simp; (try with_reducible rfl))
          (try simp only [Act.put, List.setIfInBounds_toArray, List.set_cons_zero, List.set_cons_succ])
          refine' wpAnyH_take (i := 14) (oi := _) (v := _) ?hi35 (by kernel_rfl) (by kernel_rfl) (by kernel_rfl) ?hq35 (Or.inl ⟨?hw35, ?hy35⟩) (by assumption) ?rest35
          case hi35 => (simp only [List.getElem?_toArray, List.getElem?_cons_succ, List.getElem?_cons_zero]; rfl)
          case hq35 => exact fun _ _ _ h => h
          case hw35 => rfl
          case hy35 => (intro wq hSw; (try dsimp only at hSw); go_simp; (try with_reducible rfl))
          (try simp only [Act.put, List.setIfInBounds_toArray, List.set_cons_zero, List.set_cons_succ])
          refine' wpAnyH_take (i := 15) (oi := _) (v := _) ?hi36 (by kernel_rfl) (by kernel_rfl) (by kernel_rfl) ?hq36 (Or.inl ⟨?hw36, ?hy36⟩) (by assumption) ?rest36
          case hi36 => (simp only [List.getElem?_toArray, List.getElem?_cons_succ, List.getElem?_cons_zero]; rfl)
          case hq36 => exact fun _ _ _ h => h
          case hw36 => rfl
          case hy36 => (intro wq hSw; (try dsimp only at hSw); go_simp; (try with_reducible rfl))
          (try simp only [Act.put, List.setIfInBounds_toArray, List.set_cons_zero, List.set_cons_succ])
          refine' wpAnyH_take (i := 16) (oi := _) (v := _) ?hi37 (by kernel_rfl) (by kernel_rfl) (by kernel_rfl) ?hq37 (Or.inl ⟨?hw37, ?hy37⟩) (by assumption) ?rest37
          case hi37 => (simp only [List.getElem?_toArray, List.getElem?_cons_succ, List.getElem?_cons_zero]; rfl)
          case hq37 => exact fun _ _ _ h => h
          case hw37 => rfl
          case hy37 => (intro wq hSw; (try dsimp only at hSw); go_simp; (try with_reducible rfl))
          (try simp only [Act.put, List.setIfInBounds_toArray, List.set_cons_zero, List.set_cons_succ])
          refine' wpAnyH_take (i := 17) (oi := _) (v := _) ?hi38 (by kernel_rfl) (by kernel_rfl) (by kernel_rfl) ?hq38 (Or.inl ⟨?hw38, ?hy38⟩) (by assumption) ?rest38
          case hi38 => (simp only [List.getElem?_toArray, List.getElem?_cons_succ, List.getElem?_cons_zero]; rfl)
          case hq38 => exact fun _ _ _ h => h
          case hw38 => rfl
          case hy38 => (intro wq hSw; (try dsimp only at hSw); go_simp; (try with_reducible rfl))
          (try simp only [Act.put, List.setIfInBounds_toArray, List.set_cons_zero, List.set_cons_succ])
          refine' wpAnyH_take (i := 18) (oi := _) (v := _) ?hi39 (by kernel_rfl) (by kernel_rfl) (by kernel_rfl) ?hq39 (Or.inl ⟨?hw39, ?hy39⟩) (by assumption) ?rest39
          case hi39 => (simp only [List.getElem?_toArray, List.getElem?_cons_succ, List.getElem?_cons_zero]; rfl)
          case hq39 => exact fun _ _ _ h => h
          case hw39 => rfl
          case hy39 => (intro wq hSw; (try dsimp only at hSw); go_simp; (try with_reducible rfl))
          (try simp only [Act.put, List.setIfInBounds_toArray, List.set_cons_zero, List.set_cons_succ])
          refine wpAnyH_ready (rs := [19]) (by kernel_rfl) (by simp) ?_
          refine' AllReadyH.cons (o := _) ?hi40 (fun K hK => ?rest40) AllReadyH.nil
          case hi40 => (simp only [List.getElem?_toArray, List.getElem?_cons_succ, List.getElem?_cons_zero]; rfl)
          go_simp
          refine hK.out _ _ (by (try dsimp only); exact ⟨HN.out.b0_4.2.2.2, HN.out.b2_4.2.2.2, hz1, hz2, hz3⟩) (fun hHeld => ?_)
          clear hK K
          (try simp only [Act.put, List.setIfInBounds_toArray, List.set_cons_zero, List.set_cons_succ])
          refine wpAnyH_done (by kernel_rfl) ?_ _
          go_wp2
          go_roundw
          case rel => exact ⟨p + 1, by omega, by go_num, HRel⟩
          case measure => simp [intOf]; omega
        · have hp' : p = a := by omega
          have hN : Hid (GS w wr [ri lo3 hi3 (.slice (some ⟨g, 0, none⟩) n c3) (L.take ((k + 1) * a) ++ zeros (n - ((k + 1) * a)))] [⟨b3, 25, #[.int .i64 (W : Int), .int .i64 (H : Int), .int .i64 (a : Int), .slice (some ⟨g, 0, none⟩) n c3]⟩, ⟨w.heap.size + 1, 25, #[.int .i64 0, .int .i64 0, .int .i64 0, .slice none 0 0]⟩, ⟨w.heap.size, 25, #[.int .i64 (W : Int), .int .i64 (H : Int), .int .i64 1, .slice (some ⟨b, off, none⟩) n1 c]⟩] ∧ Below u1.heap.size u1 wr) := Lib.hid (by have h := hJ.out; rw [hp', show k * a + a = (k + 1) * a by rw [Nat.add_mul, Nat.one_mul]] at h; exact h)
          clear hJ hI
          go_wp2
          go_roundw
          case rel => exact ⟨k + 1, by omega, by go_num, hN⟩
          case measure => simp [intOf]; omega
    · have hk' : k = n1 := by omega
      have hG := hI.out.1
      rw [hk', HN1.out, Nat.sub_self, ← HLL.out, List.take_length, show zeros 0 = [] from rfl, List.append_nil, HLL.out] at hG
      obtain ⟨r0, r1, r2, r3⟩ := hG.b1_4
      have f0 := hG.f1 0
      have f1 := hG.f1 1
      have f2 := hG.f1 2
      have f3 := hG.f1 3
      have HE := Lib.hid (hG.e1_4 (.int .i64 (W : Int)) (.int .i64 (H : Int)) (.int .i64 (a : Int)) (.slice (some ⟨g, 0, none⟩) n c3))
      have HLL2 : Hid (n = L.length) := Lib.hid HLL.out.symm
      have HLe : Hid (L = ciL W H a xs xss) := HL0
      clear hI hG
      go_wp2
      exact bodyPost_ret (v := .tuple #[.agg #[.int .i64 (W : Int), .int .i64 (H : Int), .int .i64 (a : Int), .slice (some ⟨g, 0, none⟩) n c3], .bool true]) (by simp [results, Try.results26, go_sem, r0, r1, r2, r3]) rfl (ColR.yes Hv.out (by have h := HE.out.2 _ (List.Mem.head _); rw [show ciL (W : Int).toNat (H : Int).toNat (a : Int).toNat xs xss = L from HLe.out.symm]; exact h) HE.out.1)
end Go.Proofs.Ytkjebidkkopalaa
namespace Go.Proofs.Ytkjebidkkopalaa
open Go.RowKit Go.Shelf
set_option linter.unusedSimpArgs false
set_option linter.unusedVariables false
set_option maxRecDepth 20000

set_option maxHeartbeats 1000000 in
theorem iVpn_any (A : Option Addr) (c B : Nat) (xs : List Int) (P : Int) (w : World) (h : Rds .i64 w B A xs) (hl : xs.length ≤ 2000000) :
    Calls Try.prog 83 #[.slice A xs.length c, .int .i64 P] w fun e w' => e = .returned (.bool (decide ((xs.length : Int) = P) && allB 0 255 xs)) ∧ w = w' := by
  have Hh := Lib.hid h
  clear h
  by_cases hp : (xs.length : Int) = P
  · have hb : ((xs.length : Int) == P) = true := beq_iff_eq.2 hp
    have HP := Lib.hid hp
    clear hp
    go_enter Try.func83, Try.ntmps83
    go_wp2_with fail
    refine (areBytes_any A c B xs w Hh.out (by omega)).mono ?_
    rintro e w2 ⟨rfl, rfl⟩
    cases hv : allB 0 255 xs <;>
    · have HV := Lib.hid hv
      clear hv
      go_wp2
      go_ret
      exact ⟨ret_bool (by rw [decide_eq_true HP.out, HV.out]; rfl), rfl⟩
  · have hb : ((xs.length : Int) == P) = false := beq_eq_false_iff_ne.2 hp
    have HP := Lib.hid hp
    clear hp
    go_enter Try.func83, Try.ntmps83
    go_wp2
    go_ret
    exact ⟨ret_bool (by rw [decide_eq_false HP.out]; rfl), rfl⟩
def ClrR (xss : List (List Int)) (P : Int) (w : World) (e : Ending) (w' : World) : Prop :=
  Below w.heap.size w w' ∧ (((decide (1 ≤ P ∧ P ≤ 4) && palB xss P) = false ∧ e = .returned (.tuple #[.slice none 0 0, .bool false])) ∨ ((1 ≤ P ∧ P ≤ 4) ∧ palB xss P = true ∧ ∃ v, e = .returned (.tuple #[v, .bool true]) ∧ OwnC w' w.heap.size v xss.length (clr xss xss.length)))
set_option maxHeartbeats 8000000 in
theorem iClr_any (A : Option Addr) (c n : Nat) (xss : List (List Int)) (P : Int) (w : World) (hn : n = xss.length) (h : Rdss w w.heap.size A xss) (hl : tot xss ≤ 2000000) :
    Calls Try.prog 46 #[.slice A n c, .int .i64 P] w (ClrR xss P w) := by
  have Hh := Lib.hid h
  have Hn := Lib.hid hn
  have HL : Hid (∀ i, i < xss.length → (xss.getD i []).length ≤ 2000000) := Lib.hid fun i hi => Nat.le_trans (len_le_tot hi) hl
  have hnl : n ≤ 2000000 := by rw [hn]; unfold tot at hl; omega
  clear h hn hl
  by_cases h1 : 1 ≤ P ∧ P ≤ 4
  · have H1 := Lib.hid h1
    by_cases h16 : (n : Int) > 16
    · have HF : Hid ((decide (1 ≤ P ∧ P ≤ 4) && palB xss P) = false) := Lib.hid (by
        have : palB xss P = false := by
          unfold palB
          rw [decide_eq_false (show ¬ xss.length ≤ 16 by have := Hn.out; omega), Bool.and_false]
        rw [this, Bool.and_false])
      go_enter Try.func46, Try.ntmps46
      go_wp2_with fail
      refine (iIn_any P 1 4 _).mono ?_
      rintro e w2 ⟨rfl, rfl⟩
      rw [decide_eq_true H1.out]
      clear h1
      go_wp2
      exact bodyPost_ret (v := .tuple #[.slice none 0 0, .bool false]) (by simp [results, Try.results46, go_sem]) rfl ⟨Below.refl _ _, .inl ⟨HF.out, rfl⟩⟩
    have HP16 := Lib.hid (show n ≤ 16 by omega)
    go_enter Try.func46, Try.ntmps46
    go_wp2_with fail
    refine (iIn_any P 1 4 _).mono ?_
    rintro e w2 ⟨rfl, rfl⟩
    rw [decide_eq_true H1.out]
    clear h1
    go_wp2
    go_loopw [6, 8, 19] (fun v x i wr => ∃ k : Nat, k ≤ n ∧ i = .int .i64 k ∧ Hid (clN xss P k) ∧ Hid (OwnC wr w.heap.size v k (clr xss k)) ∧ Hid (Below w.heap.size w wr)) (fun _ _ i _ => n - (intOf i).toNat)
    case atStart => exact ⟨0, Nat.zero_le _, rfl, Lib.hid (fun i hi => by omega), Lib.hid (World.ownsRow_nil _ _ _ _), Lib.hid (Below.refl _ _)⟩
    case round =>
      obtain ⟨k, hk, rfl, HC, HO, HB⟩ := hrel
      by_cases hlt : k < n
      · have hkl : k < xss.length := by have := Hn.out; omega
        obtain ⟨b, off, Ai, ci, rfl, hb, hci, hc0, hr⟩ := Hh.out.at hkl
        have hml := HL.out k hkl
        have hc := (HB.out.cell (p := ⟨b, off + k, none⟩) hb).trans hc0
        have HR := Lib.hid ((hr.below HB.out).more HB.out.size)
        have HNO : Hid ((decide (((xss.getD k []).length : Int) = P) && allB 0 255 (xss.getD k [])) = false → palB xss P = false) := Lib.hid (palB_no hkl)
        have HYES : Hid (((xss.getD k []).length : Int) = P → allB 0 255 (xss.getD k []) = true → clN xss P (k + 1)) := Lib.hid (fun h1 h2 i hi => by
          by_cases e : i = k
          · subst e; exact ⟨h1, h2⟩
          · exact HC.out i (by omega))
        have HE : Hid (clr xss (k + 1) = clr xss k ++ pad4 (xss.getD k [])) := Lib.hid rfl
        obtain ⟨A1, c1, rfl, _⟩ := HO.out.slice
        clear hr hc0
        generalize xss.getD k [] = xs at *
        go_wp2_with fail
        refine (iVpn_any Ai ci _ xs P _ HR.out hml).mono ?_
        rintro e w2 ⟨rfl, rfl⟩
        cases hv : decide ((xs.length : Int) = P) && allB 0 255 xs
        · have HF := Lib.hid (HNO.out hv)
          clear hv
          go_wp2
          exact bodyPost_ret (v := .tuple #[.slice none 0 0, .bool false]) (by simp [results, Try.results46, go_sem]) rfl ⟨HB.out, .inl ⟨by rw [HF.out, Bool.and_false], rfl⟩⟩
        · rw [Bool.and_eq_true] at hv
          have HP := Lib.hid (of_decide_eq_true hv.1)
          have HF := Lib.hid (HYES.out HP.out hv.2)
          have hx4 : xs.length ≤ 4 := by have := HP.out; have := H1.out; omega
          clear hv
          go_wp2_with fail
          refine (colorOf_any Ai ci xs _ HR.out hx4).mono ?_
          rintro e w2 ⟨rfl, hB2⟩
          simp only [colV]
          have hsz := HB.out.size
          have hsz2 := hB2.size
          have HO2 : Hid (OwnC (w2.alloc (.cells #[.int .i64 (xs.getD 0 0), .int .i64 (xs.getD 1 0), .int .i64 (xs.getD 2 0), .int .i64 (xs.getD 3 0)] 66)) w.heap.size (.slice A1 k c1) k (clr xss k)) := Lib.hid ((HO.out.below hB2 (Nat.le_refl _)).alloc _)
          have HB2 : Hid (Below w.heap.size w (w2.alloc (.cells #[.int .i64 (xs.getD 0 0), .int .i64 (xs.getD 1 0), .int .i64 (xs.getD 2 0), .int .i64 (xs.getD 3 0)] 66))) := Lib.hid ((HB.out.trans (hB2.mono hsz)).alloc (by omega) _)
          have HQ := Lib.hid (box_four w2 (fun p => xs.getD p 0))
          have hk2 : k ≤ 1000000 := by omega
          have HZ := Lib.hid (show w.heap.size ≤ (w2.alloc (.cells #[.int .i64 (xs.getD 0 0), .int .i64 (xs.getD 1 0), .int .i64 (xs.getD 2 0), .int .i64 (xs.getD 3 0)] 66)).heap.size by simp; omega)
          have HE2 : Hid (clr xss (k + 1) = clr xss k ++ [xs.getD 0 0, xs.getD 1 0, xs.getD 2 0, xs.getD 3 0]) := HE
          clear hB2 HO HB HNO HYES hsz hsz2 HE
          generalize xs.getD 0 0 = y0 at *
          generalize xs.getD 1 0 = y1 at *
          generalize xs.getD 2 0 = y2 at *
          generalize xs.getD 3 0 = y3 at *
          go_wp2_with (at_builtin; refine wpList_appC rfl (.tmp 27) (.tmp 30) rfl w.heap.size (.slice A1 k c1) k (clr xss k) rfl HO2.out w2.heap.size 1 [y0, y1, y2, y3] rfl rfl HQ.out hk2 HZ.out ?_; intro v3 w3 hO3 hG3)
          go_roundw
          case rel => exact ⟨k + 1, by omega, by go_num, HF, Lib.hid (by rw [HE2.out]; exact hO3), Lib.hid (HB2.out.grown hG3 HZ.out (fun g hg => HO2.out.ge g hg))⟩
          case measure => simp [intOf]; omega
      · have hk' : k = n := by omega
        have HF : Hid (palB xss P = true) := Lib.hid (by
          have hnx := Hn.out
          rw [palB_yes (by rw [← hnx, ← hk']; exact HC.out), ← hnx]
          exact decide_eq_true HP16.out)
        go_wp2
        have hO : OwnC wr w.heap.size u6 xss.length (clr xss xss.length) := by
          have hO := HO.out
          have hnx := Hn.out
          subst hk'
          rw [← hnx]; exact hO
        exact bodyPost_ret (v := .tuple #[u6, .bool true]) (by simp [results, Try.results46, go_sem]) rfl ⟨HB.out, .inr ⟨H1.out, HF.out, _, rfl, hO⟩⟩
  · have HF : Hid ((decide (1 ≤ P ∧ P ≤ 4) && palB xss P) = false) := Lib.hid (by rw [decide_eq_false h1, Bool.false_and])
    have H1 := Lib.hid h1
    go_enter Try.func46, Try.ntmps46
    go_wp2_with fail
    refine (iIn_any P 1 4 _).mono ?_
    rintro e w2 ⟨rfl, rfl⟩
    rw [decide_eq_false H1.out]
    clear h1
    go_wp2
    exact bodyPost_ret (v := .tuple #[.slice none 0 0, .bool false]) (by simp [results, Try.results46, go_sem]) rfl ⟨Below.refl _ _, .inl ⟨HF.out, rfl⟩⟩
theorem clr_cells {w : World} {b off n : Nat} {xss : List (List Int)} (h : ∀ j, j < (clr xss n).length → w.cell? ⟨b, off + j, none⟩ = some (.int .i64 ((clr xss n).getD j 0))) {k : Nat} (hk : k < n) :
    w.cell? ⟨b, off + k * 4, none⟩ = some (.int .i64 ((xss.getD k []).getD 0 0)) ∧ w.cell? ⟨b, off + k * 4 + 1, none⟩ = some (.int .i64 ((xss.getD k []).getD 1 0)) ∧ w.cell? ⟨b, off + k * 4 + 2, none⟩ = some (.int .i64 ((xss.getD k []).getD 2 0)) ∧ w.cell? ⟨b, off + k * 4 + 3, none⟩ = some (.int .i64 ((xss.getD k []).getD 3 0)) := by
  have hl := clr_len xss n
  have e : ∀ p, p < 4 → w.cell? ⟨b, off + (k * 4 + p), none⟩ = some (.int .i64 ((xss.getD k []).getD p 0)) := fun p hp => by rw [h (k * 4 + p) (by omega), clr_get xss k p hp n hk]
  refine ⟨by simpa using e 0 (by omega), ?_, ?_, ?_⟩
  · have := e 1 (by omega); rwa [← Nat.add_assoc] at this
  · have := e 2 (by omega); rwa [← Nat.add_assoc] at this
  · have := e 3 (by omega); rwa [← Nat.add_assoc] at this
set_option maxHeartbeats 16000000 in
theorem iNof_any (A : Option Addr) (c n P : Nat) (xss : List (List Int)) (ys : List Int) (w : World) (hn : n = xss.length) (h16 : n ≤ 16) (hP : P ≤ 4) (hl' : ys.length = P) (hc : clN xss P xss.length) (by' : allB 0 255 ys = true) (h : Rds .i64 w w.heap.size A (clr xss n)) :
    Calls Try.prog 51 #[.slice A n c, colV (fun p => ys.getD p 0)] w fun e w' => e = .returned (.int .i64 (nbI xss ys n)) ∧ Below w.heap.size w w' := by
  have Hh := Lib.hid h
  have Hn := Lib.hid hn
  have HC0 := Lib.hid hc
  have HBY := Lib.hid (byte_all by')
  have HB' := Lib.hid by'
  have Hl' := Lib.hid hl'
  have HS0 := Lib.hid (GS.box' (GS.start w) 66 #[.int .i64 (ys.getD 0 0), .int .i64 (ys.getD 1 0), .int .i64 (ys.getD 2 0), .int .i64 (ys.getD 3 0)] w.heap.size rfl)
  clear h hn hc by' hl'
  simp only [colV]
  obtain ⟨G, hG⟩ : ∃ G : Nat → Int, G = fun p => ys.getD p 0 := ⟨_, rfl⟩
  have HGe := Lib.hid hG
  have e0 : ys.getD 0 0 = G 0 := by rw [hG]
  have e1 : ys.getD 1 0 = G 1 := by rw [hG]
  have e2 : ys.getD 2 0 = G 2 := by rw [hG]
  have e3 : ys.getD 3 0 = G 3 := by rw [hG]
  rw [e0, e1, e2, e3] at HS0 ⊢
  clear hG e0 e1 e2 e3
  go_enter Try.func51, Try.ntmps51
  go_wp2
  go_loopw [5, 6, 7, 10] (fun s o x i wr => ∃ k : Nat, k ≤ n ∧ i = .int .i64 k ∧ s = .int .i64 (nbI xss ys k) ∧ Hid (GS w wr [] [⟨w.heap.size, 66, #[.int .i64 (G 0), .int .i64 (G 1), .int .i64 (G 2), .int .i64 (G 3)]⟩])) (fun _ _ _ i _ => n - (intOf i).toNat)
  case atStart => exact ⟨0, Nat.zero_le _, rfl, rfl, HS0⟩
  case round =>
    obtain ⟨k, hk, rfl, rfl, HS⟩ := hrel
    clear HS0
    by_cases hlt : k < n
    · have hkl : k < xss.length := by have := Hn.out; omega
      have hrd := HS.out.arg Hh.out
      obtain ⟨b, off, rfl, hb, hcs⟩ := hrd.cells_ (j := k * 4) (by rw [clr_len]; omega)
      obtain ⟨x0, x1, x2, x3⟩ := clr_cells hcs hlt
      have hp1 := HC0.out k hkl
      have HC1 := Lib.hid (byte_all hp1.2)
      have hg1 := gpL_bd hP hp1 Hl'.out HB'.out
      have E1 : Hid (cgN (fun p => (xss.getD k []).getD p 0) G 4 = gpL xss ys k) := Lib.hid (by
        rw [HGe.out, cg_gap hP (by have := hp1.1; omega) Hl'.out]
        unfold gpL
        rw [show (xss.getD k []).length = P by have := hp1.1; omega])
      obtain ⟨F, hF⟩ : ∃ F : Nat → Int, F = fun p => (xss.getD k []).getD p 0 := ⟨_, rfl⟩
      have f0 : (xss.getD k []).getD 0 0 = F 0 := by rw [hF]
      have f1 : (xss.getD k []).getD 1 0 = F 1 := by rw [hF]
      have f2 : (xss.getD k []).getD 2 0 = F 2 := by rw [hF]
      have f3 : (xss.getD k []).getD 3 0 = F 3 := by rw [hF]
      have HF1 : Hid (∀ j, j < 4 → 0 ≤ F j ∧ F j ≤ 255) := Lib.hid (fun j _ => by rw [hF]; exact HC1.out j)
      have HG1 : Hid (∀ j, j < 4 → 0 ≤ G j ∧ G j ≤ 255) := Lib.hid (fun j _ => by rw [HGe.out]; exact HBY.out j)
      rw [← hF] at E1
      rw [f0] at x0
      rw [f1] at x1
      rw [f2] at x2
      rw [f3] at x3
      clear HC1 hp1 f0 f1 f2 f3 hF
      have HS1 := Lib.hid (HS.out.box 66 #[.int .i64 (F 0), .int .i64 (F 1), .int .i64 (F 2), .int .i64 (F 3)])
      by_cases hk0 : k = 0
      · have HE : Hid (nbI xss ys (k + 1) = k) := Lib.hid (by unfold nbI; rw [hk0, ncN_one]; rfl)
        have HM : nbI xss ys k = -1 := by rw [hk0]; rfl
        rw [HM]
        clear hcs hrd HM E1 hg1 hk0
        go_upto_region 5 with fail
        clear x0 x1 x2 x3 hb HS
        obtain ⟨gz, hgz⟩ : ∃ gz, gz = wr.heap.size := ⟨_, rfl⟩
        rw [← hgz] at HS1 ⊢
        generalize wr.alloc (.cells #[.int .i64 (F 0), .int .i64 (F 1), .int .i64 (F 2), .int .i64 (F 3)] 66) = u5 at *
        clear hgz
        have HC := Lib.hid HS1.out.drew
        refine wp_region_held_drew (S := (fun w' => (w'.cell? ⟨gz, 0, none⟩ = some (.int .i64 (F 0)) ∧ w'.cell? ⟨gz, 1, none⟩ = some (.int .i64 (F 1)) ∧ w'.cell? ⟨gz, 2, none⟩ = some (.int .i64 (F 2)) ∧ w'.cell? ⟨gz, 3, none⟩ = some (.int .i64 (F 3))))) (by kernel_rfl) (by exact HC.out.c4 (T := 66) (by simp)) (fun hHeld => ?_)
        refine' wpAnyH_take (i := 0) (oi := _) (v := _) ?hi1 (by kernel_rfl) (by kernel_rfl) (by kernel_rfl) ?hq1 (Or.inl ⟨?hw1, ?hy1⟩) (by assumption) ?rest1
        case hi1 => (simp only [List.getElem?_toArray, List.getElem?_cons_succ, List.getElem?_cons_zero]; rfl)
        case hq1 => exact fun _ _ _ h => h
        case hw1 => rfl
        case hy1 => (intro wq hSw; (try dsimp only at hSw); go_simp; (try with_reducible rfl))
        (try simp only [Act.put, List.setIfInBounds_toArray, List.set_cons_zero, List.set_cons_succ])
        refine' wpAnyH_take (i := 1) (oi := _) (v := Value.bool true) ?hi2 (by kernel_rfl) (by kernel_rfl) (by kernel_rfl) ?hq2 (Or.inl ⟨?hw2, ?hy2⟩) (by assumption) ?rest2
        case hi2 => (simp only [List.getElem?_toArray, List.getElem?_cons_succ, List.getElem?_cons_zero]; rfl)
        case hq2 => exact fun _ _ _ h => h
        case hw2 => rfl
        case hy2 => (intro wq hSw; (try dsimp only at hSw); (try go_simp); (first | done | (with_reducible rfl) | rfl | simp))
        (try simp only [Act.put, List.setIfInBounds_toArray, List.set_cons_zero, List.set_cons_succ])
        refine' wpAnyH_take (i := 2) (oi := _) (v := Value.bool true) ?hi3 (by kernel_rfl) (by kernel_rfl) (by kernel_rfl) ?hq3 (Or.inl ⟨?hw3, ?hy3⟩) (by assumption) ?rest3
        case hi3 => (simp only [List.getElem?_toArray, List.getElem?_cons_succ, List.getElem?_cons_zero]; rfl)
        case hq3 => exact fun _ _ _ h => h
        case hw3 => rfl
        case hy3 => (intro wq hSw; (try dsimp only at hSw); (try go_simp); (first | done | (with_reducible rfl) | rfl | simp))
        (try simp only [Act.put, List.setIfInBounds_toArray, List.set_cons_zero, List.set_cons_succ])
        refine' wpAnyH_take (i := 3) (oi := _) (v := undef) ?hi4 (by kernel_rfl) (by kernel_rfl) (by kernel_rfl) ?hq4 (Or.inr ?hw4) (by assumption) ?rest4
        case hi4 => (simp only [List.getElem?_toArray, List.getElem?_cons_succ, List.getElem?_cons_zero]; rfl)
        case hq4 => exact fun _ _ _ h => h
        case hw4 => exact ⟨rfl, rfl⟩
        (try simp only [Act.put, List.setIfInBounds_toArray, List.set_cons_zero, List.set_cons_succ])
        refine' wpAnyH_take (i := 4) (oi := _) (v := undef) ?hi5 (by kernel_rfl) (by kernel_rfl) (by kernel_rfl) ?hq5 (Or.inr ?hw5) (by assumption) ?rest5
        case hi5 => (simp only [List.getElem?_toArray, List.getElem?_cons_succ, List.getElem?_cons_zero]; rfl)
        case hq5 => exact fun _ _ _ h => h
        case hw5 => exact ⟨rfl, rfl⟩
        (try simp only [Act.put, List.setIfInBounds_toArray, List.set_cons_zero, List.set_cons_succ])
        refine' wpAnyH_take (i := 5) (oi := _) (v := undef) ?hi6 (by kernel_rfl) (by kernel_rfl) (by kernel_rfl) ?hq6 (Or.inr ?hw6) (by assumption) ?rest6
        case hi6 => (simp only [List.getElem?_toArray, List.getElem?_cons_succ, List.getElem?_cons_zero]; rfl)
        case hq6 => exact fun _ _ _ h => h
        case hw6 => exact ⟨rfl, rfl⟩
        (try simp only [Act.put, List.setIfInBounds_toArray, List.set_cons_zero, List.set_cons_succ])
        refine' wpAnyH_take (i := 6) (oi := _) (v := undef) ?hi7 (by kernel_rfl) (by kernel_rfl) (by kernel_rfl) ?hq7 (Or.inr ?hw7) (by assumption) ?rest7
        case hi7 => (simp only [List.getElem?_toArray, List.getElem?_cons_succ, List.getElem?_cons_zero]; rfl)
        case hq7 => exact fun _ _ _ h => h
        case hw7 => exact ⟨rfl, rfl⟩
        (try simp only [Act.put, List.setIfInBounds_toArray, List.set_cons_zero, List.set_cons_succ])
        refine' wpAnyH_take (i := 7) (oi := _) (v := undef) ?hi8 (by kernel_rfl) (by kernel_rfl) (by kernel_rfl) ?hq8 (Or.inr ?hw8) (by assumption) ?rest8
        case hi8 => (simp only [List.getElem?_toArray, List.getElem?_cons_succ, List.getElem?_cons_zero]; rfl)
        case hq8 => exact fun _ _ _ h => h
        case hw8 => exact ⟨rfl, rfl⟩
        (try simp only [Act.put, List.setIfInBounds_toArray, List.set_cons_zero, List.set_cons_succ])
        refine' wpAnyH_take (i := 8) (oi := _) (v := undef) ?hi9 (by kernel_rfl) (by kernel_rfl) (by kernel_rfl) ?hq9 (Or.inr ?hw9) (by assumption) ?rest9
        case hi9 => (simp only [List.getElem?_toArray, List.getElem?_cons_succ, List.getElem?_cons_zero]; rfl)
        case hq9 => exact fun _ _ _ h => h
        case hw9 => exact ⟨rfl, rfl⟩
        (try simp only [Act.put, List.setIfInBounds_toArray, List.set_cons_zero, List.set_cons_succ])
        refine' wpAnyH_take (i := 9) (oi := _) (v := undef) ?hi10 (by kernel_rfl) (by kernel_rfl) (by kernel_rfl) ?hq10 (Or.inr ?hw10) (by assumption) ?rest10
        case hi10 => (simp only [List.getElem?_toArray, List.getElem?_cons_succ, List.getElem?_cons_zero]; rfl)
        case hq10 => exact fun _ _ _ h => h
        case hw10 => exact ⟨rfl, rfl⟩
        (try simp only [Act.put, List.setIfInBounds_toArray, List.set_cons_zero, List.set_cons_succ])
        refine' wpAnyH_take (i := 10) (oi := _) (v := undef) ?hi11 (by kernel_rfl) (by kernel_rfl) (by kernel_rfl) ?hq11 (Or.inr ?hw11) (by assumption) ?rest11
        case hi11 => (simp only [List.getElem?_toArray, List.getElem?_cons_succ, List.getElem?_cons_zero]; rfl)
        case hq11 => exact fun _ _ _ h => h
        case hw11 => exact ⟨rfl, rfl⟩
        (try simp only [Act.put, List.setIfInBounds_toArray, List.set_cons_zero, List.set_cons_succ])
        refine' wpAnyH_take (i := 11) (oi := _) (v := undef) ?hi12 (by kernel_rfl) (by kernel_rfl) (by kernel_rfl) ?hq12 (Or.inr ?hw12) (by assumption) ?rest12
        case hi12 => (simp only [List.getElem?_toArray, List.getElem?_cons_succ, List.getElem?_cons_zero]; rfl)
        case hq12 => exact fun _ _ _ h => h
        case hw12 => exact ⟨rfl, rfl⟩
        (try simp only [Act.put, List.setIfInBounds_toArray, List.set_cons_zero, List.set_cons_succ])
        refine' wpAnyH_take (i := 12) (oi := _) (v := undef) ?hi13 (by kernel_rfl) (by kernel_rfl) (by kernel_rfl) ?hq13 (Or.inr ?hw13) (by assumption) ?rest13
        case hi13 => (simp only [List.getElem?_toArray, List.getElem?_cons_succ, List.getElem?_cons_zero]; rfl)
        case hq13 => exact fun _ _ _ h => h
        case hw13 => exact ⟨rfl, rfl⟩
        (try simp only [Act.put, List.setIfInBounds_toArray, List.set_cons_zero, List.set_cons_succ])
        refine' wpAnyH_take (i := 13) (oi := _) (v := Value.bool true) ?hi14 (by kernel_rfl) (by kernel_rfl) (by kernel_rfl) ?hq14 (Or.inl ⟨?hw14, ?hy14⟩) (by assumption) ?rest14
        case hi14 => (simp only [List.getElem?_toArray, List.getElem?_cons_succ, List.getElem?_cons_zero]; rfl)
        case hq14 => exact fun _ _ _ h => h
        case hw14 => rfl
        case hy14 => (intro wq hSw; (try dsimp only at hSw); (try go_simp); (first | done | (with_reducible rfl) | rfl | simp))
        (try simp only [Act.put, List.setIfInBounds_toArray, List.set_cons_zero, List.set_cons_succ])
        refine wpAnyH_done (by kernel_rfl) ?_ _
        have HFF := Lib.hid (show GS _ _ _ _ from ⟨HC.out.1, HC.out.2.1, HC.out.2.2.1, fun b hm => HC.out.2.2.2.1 b (List.mem_cons_of_mem _ hm), (List.pairwise_cons.1 HC.out.2.2.2.2).2⟩)
        clear HC HS1
        go_wp2
        go_roundw
        case rel => exact ⟨k + 1, by omega, by go_num, by rw [HE.out], HFF⟩
        case measure => simp [intOf]; omega
      · have hz := ncN_lt xss ys k (by omega)
        have HM : Hid (nbI xss ys k = ncN xss ys k) := Lib.hid (by unfold nbI; rw [if_neg hk0])
        have HE : Hid (nbI xss ys (k + 1) = if gpL xss ys k < gpL xss ys (ncN xss ys k) then (k : Int) else (ncN xss ys k : Nat)) := Lib.hid (by
          unfold nbI
          rw [if_neg (by omega)]
          show ((if gpL xss ys k < gpL xss ys (ncN xss ys k) then k else ncN xss ys k : Nat) : Int) = _
          split <;> rfl)
        rw [HM.out]
        generalize ncN xss ys k = z at *
        have hzl : z < xss.length := by omega
        obtain ⟨z0, z1, z2, z3⟩ := clr_cells hcs (show z < n by omega)
        have hp2 := HC0.out z hzl
        have HC2 := Lib.hid (byte_all hp2.2)
        have hg2 := gpL_bd hP hp2 Hl'.out HB'.out
        have E2 : Hid (cgN (fun p => (xss.getD z []).getD p 0) G 4 = gpL xss ys z) := Lib.hid (by
          rw [HGe.out, cg_gap hP (by have := hp2.1; omega) Hl'.out]
          unfold gpL
          rw [show (xss.getD z []).length = P by have := hp2.1; omega])
        obtain ⟨D, hD⟩ : ∃ D : Nat → Int, D = fun p => (xss.getD z []).getD p 0 := ⟨_, rfl⟩
        have f0 : (xss.getD z []).getD 0 0 = D 0 := by rw [hD]
        have f1 : (xss.getD z []).getD 1 0 = D 1 := by rw [hD]
        have f2 : (xss.getD z []).getD 2 0 = D 2 := by rw [hD]
        have f3 : (xss.getD z []).getD 3 0 = D 3 := by rw [hD]
        have HD1 : Hid (∀ j, j < 4 → 0 ≤ D j ∧ D j ≤ 255) := Lib.hid (fun j _ => by rw [hD]; exact HC2.out j)
        rw [← hD] at E2
        rw [f0] at z0
        rw [f1] at z1
        rw [f2] at z2
        rw [f3] at z3
        clear HC2 hp2 f0 f1 f2 f3 hD hcs hrd HM
        generalize gpL xss ys k = g1 at *
        generalize gpL xss ys z = g2 at *
        have HY0 := Lib.hid (show ((wr.alloc (.cells #[.int .i64 (F 0), .int .i64 (F 1), .int .i64 (F 2), .int .i64 (F 3)] 66)).cell? ⟨b, off + z * 4, none⟩ = some (.int .i64 (D 0)) ∧ (wr.alloc (.cells #[.int .i64 (F 0), .int .i64 (F 1), .int .i64 (F 2), .int .i64 (F 3)] 66)).cell? ⟨b, off + z * 4 + 1, none⟩ = some (.int .i64 (D 1)) ∧ (wr.alloc (.cells #[.int .i64 (F 0), .int .i64 (F 1), .int .i64 (F 2), .int .i64 (F 3)] 66)).cell? ⟨b, off + z * 4 + 2, none⟩ = some (.int .i64 (D 2)) ∧ (wr.alloc (.cells #[.int .i64 (F 0), .int .i64 (F 1), .int .i64 (F 2), .int .i64 (F 3)] 66)).cell? ⟨b, off + z * 4 + 3, none⟩ = some (.int .i64 (D 3))) from ⟨(World.cell?_alloc_lt wr _ _ hb).trans z0, (World.cell?_alloc_lt wr _ _ hb).trans z1, (World.cell?_alloc_lt wr _ _ hb).trans z2, (World.cell?_alloc_lt wr _ _ hb).trans z3⟩)
        have hbz : b < (wr.alloc (.cells #[.int .i64 (F 0), .int .i64 (F 1), .int .i64 (F 2), .int .i64 (F 3)] 66)).heap.size := by simp; omega
        go_upto_region 5 with fail
        clear x0 x1 x2 x3 z0 z1 z2 z3 hb HS
        obtain ⟨gz, hgz⟩ : ∃ gz, gz = wr.heap.size := ⟨_, rfl⟩
        rw [← hgz] at HS1 ⊢
        generalize wr.alloc (.cells #[.int .i64 (F 0), .int .i64 (F 1), .int .i64 (F 2), .int .i64 (F 3)] 66) = u5 at *
        clear hgz
        have HCA := Lib.hid (fun u => icg_any F G HF1.out HG1.out u)
        have HCB := Lib.hid (fun u => icg_any D G HD1.out HG1.out u)
        rw [E1.out] at HCA
        rw [E2.out] at HCB
        unfold colV at HCA HCB
        by_cases hg : g1 < g2
        · rw [if_pos hg] at HE
          have HC := Lib.hid HS1.out.drew
          have hgd : decide (g1 < g2) = true := decide_eq_true hg
          have hzn : decide ((z : Int) < 0) = false := decide_eq_false (by omega)
          have hzn2 : z < n := by omega
          refine wp_region_held_drew (S := (fun w' => (w'.cell? ⟨gz, 0, none⟩ = some (.int .i64 (F 0)) ∧ w'.cell? ⟨gz, 1, none⟩ = some (.int .i64 (F 1)) ∧ w'.cell? ⟨gz, 2, none⟩ = some (.int .i64 (F 2)) ∧ w'.cell? ⟨gz, 3, none⟩ = some (.int .i64 (F 3))) ∧ (w'.cell? ⟨w.heap.size, 0, none⟩ = some (.int .i64 (G 0)) ∧ w'.cell? ⟨w.heap.size, 1, none⟩ = some (.int .i64 (G 1)) ∧ w'.cell? ⟨w.heap.size, 2, none⟩ = some (.int .i64 (G 2)) ∧ w'.cell? ⟨w.heap.size, 3, none⟩ = some (.int .i64 (G 3))) ∧ (w'.cell? ⟨b, off + z * 4, none⟩ = some (.int .i64 (D 0)) ∧ w'.cell? ⟨b, off + z * 4 + 1, none⟩ = some (.int .i64 (D 1)) ∧ w'.cell? ⟨b, off + z * 4 + 2, none⟩ = some (.int .i64 (D 2)) ∧ w'.cell? ⟨b, off + z * 4 + 3, none⟩ = some (.int .i64 (D 3))))) (by kernel_rfl) (by exact ⟨HC.out.c4 (T := 66) (by simp), HC.out.c4 (T := 66) (by simp), HY0.out⟩) (fun hHeld => ?_)
          refine' wpAnyH_take (i := 0) (oi := _) (v := _) ?hi15 (by kernel_rfl) (by kernel_rfl) (by kernel_rfl) ?hq15 (Or.inl ⟨?hw15, ?hy15⟩) (by assumption) ?rest15
          case hi15 => (simp only [List.getElem?_toArray, List.getElem?_cons_succ, List.getElem?_cons_zero]; rfl)
          case hq15 => exact fun _ _ _ h => h
          case hw15 => rfl
          case hy15 => (intro wq hSw; (try dsimp only at hSw); go_simp; (try with_reducible rfl))
          (try simp only [Act.put, List.setIfInBounds_toArray, List.set_cons_zero, List.set_cons_succ])
          refine' wpAnyH_take (i := 1) (oi := _) (v := Value.bool false) ?hi16 (by kernel_rfl) (by kernel_rfl) (by kernel_rfl) ?hq16 (Or.inl ⟨?hw16, ?hy16⟩) (by assumption) ?rest16
          case hi16 => (simp only [List.getElem?_toArray, List.getElem?_cons_succ, List.getElem?_cons_zero]; rfl)
          case hq16 => exact fun _ _ _ h => h
          case hw16 => rfl
          case hy16 => (intro wq hSw; (try dsimp only at hSw); (try go_simp); (first | done | (with_reducible rfl) | rfl | exact hzn | rw [hzn] | simp))
          (try simp only [Act.put, List.setIfInBounds_toArray, List.set_cons_zero, List.set_cons_succ])
          refine' wpAnyH_take (i := 2) (oi := _) (v := Value.bool false) ?hi17 (by kernel_rfl) (by kernel_rfl) (by kernel_rfl) ?hq17 (Or.inl ⟨?hw17, ?hy17⟩) (by assumption) ?rest17
          case hi17 => (simp only [List.getElem?_toArray, List.getElem?_cons_succ, List.getElem?_cons_zero]; rfl)
          case hq17 => exact fun _ _ _ h => h
          case hw17 => rfl
          case hy17 => (intro wq hSw; (try dsimp only at hSw); (try go_simp); (first | done | (with_reducible rfl) | rfl | simp))
          (try simp only [Act.put, List.setIfInBounds_toArray, List.set_cons_zero, List.set_cons_succ])
          refine' wpAnyH_take (i := 3) (oi := _) (v := _) ?hi18 (by kernel_rfl) (by kernel_rfl) (by kernel_rfl) ?hq18 (Or.inl ⟨?hw18, ?hy18⟩) (by assumption) ?rest18
          case hi18 => (simp only [List.getElem?_toArray, List.getElem?_cons_succ, List.getElem?_cons_zero]; rfl)
          case hq18 => exact fun _ _ _ h => h
          case hw18 => rfl
          case hy18 => (intro wq hSw; (try dsimp only at hSw); go_simp; (try with_reducible rfl))
          (try simp only [Act.put, List.setIfInBounds_toArray, List.set_cons_zero, List.set_cons_succ])
          refine' wpAnyH_take (i := 4) (oi := _) (v := _) ?hi19 (by kernel_rfl) (by kernel_rfl) (by kernel_rfl) ?hq19 (Or.inl ⟨?hw19, ?hy19⟩) (by assumption) ?rest19
          case hi19 => (simp only [List.getElem?_toArray, List.getElem?_cons_succ, List.getElem?_cons_zero]; rfl)
          case hq19 => exact fun _ _ _ h => h
          case hw19 => rfl
          case hy19 => (intro wq hSw; (try dsimp only at hSw); go_simp; (try with_reducible rfl))
          (try simp only [Act.put, List.setIfInBounds_toArray, List.set_cons_zero, List.set_cons_succ])
          refine' wpAnyH_take (i := 6) (oi := _) (v := _) ?hi20 (by kernel_rfl) (by kernel_rfl) (by kernel_rfl) ?hq20 (Or.inl ⟨?hw20, ?hy20⟩) (by assumption) ?rest20
          case hi20 => (simp only [List.getElem?_toArray, List.getElem?_cons_succ, List.getElem?_cons_zero]; rfl)
          case hq20 => exact fun _ _ _ h => h
          case hw20 => rfl
          case hy20 => (intro wq hSw; (try dsimp only at hSw); go_simp; (try with_reducible rfl))
          (try simp only [Act.put, List.setIfInBounds_toArray, List.set_cons_zero, List.set_cons_succ])
          refine' wpAnyH_take (i := 7) (oi := _) (v := _) ?hi21 (by kernel_rfl) (by kernel_rfl) (by kernel_rfl) ?hq21 (Or.inl ⟨?hw21, ?hy21⟩) (by assumption) ?rest21
          case hi21 => (simp only [List.getElem?_toArray, List.getElem?_cons_succ, List.getElem?_cons_zero]; rfl)
          case hq21 => exact fun _ _ _ h => h
          case hw21 => rfl
          case hy21 => (intro wq hSw; (try dsimp only at hSw); go_simp; (try with_reducible rfl))
          (try simp only [Act.put, List.setIfInBounds_toArray, List.set_cons_zero, List.set_cons_succ])
          refine' wpAnyH_take (i := 8) (oi := _) (v := _) ?hi22 (by kernel_rfl) (by kernel_rfl) (by kernel_rfl) ?hq22 (Or.inl ⟨?hw22, ?hy22⟩) (by assumption) ?rest22
          case hi22 => (simp only [List.getElem?_toArray, List.getElem?_cons_succ, List.getElem?_cons_zero]; rfl)
          case hq22 => exact fun _ _ _ h => h
          case hw22 => rfl
          case hy22 => (intro wq hSw; (try dsimp only at hSw); go_simp; (try with_reducible rfl))
          (try simp only [Act.put, List.setIfInBounds_toArray, List.set_cons_zero, List.set_cons_succ])
          refine' wpAnyH_take (i := 9) (oi := _) (v := _) ?hi23 (by kernel_rfl) (by kernel_rfl) (by kernel_rfl) ?hq23 (Or.inl ⟨?hw23, ?hy23⟩) (by assumption) ?rest23
          case hi23 => (simp only [List.getElem?_toArray, List.getElem?_cons_succ, List.getElem?_cons_zero]; rfl)
          case hq23 => exact fun _ _ _ h => h
          case hw23 => rfl
          case hy23 => (intro wq hSw; (try dsimp only at hSw); go_simp; (try with_reducible rfl))
          (try simp only [Act.put, List.setIfInBounds_toArray, List.set_cons_zero, List.set_cons_succ])
          refine' wpAnyH_take (i := 10) (oi := _) (v := _) ?hi24 (by kernel_rfl) (by kernel_rfl) (by kernel_rfl) ?hq24 (Or.inl ⟨?hw24, ?hy24⟩) (by assumption) ?rest24
          case hi24 => (simp only [List.getElem?_toArray, List.getElem?_cons_succ, List.getElem?_cons_zero]; rfl)
          case hq24 => exact fun _ _ _ h => h
          case hw24 => rfl
          case hy24 => (intro wq hSw; (try dsimp only at hSw); go_simp; (try with_reducible rfl))
          (try simp only [Act.put, List.setIfInBounds_toArray, List.set_cons_zero, List.set_cons_succ])
          refine wpAnyH_ready (rs := [5]) (by kernel_rfl) (by simp) ?_
          refine' AllReadyH.cons (o := _) ?hi25 (fun K hK => ?rest25) AllReadyH.nil
          case hi25 => (simp only [List.getElem?_toArray, List.getElem?_cons_succ, List.getElem?_cons_zero]; rfl)
          go_simp
          go_at_call 84
          refine Calls.mono (HCA.out _) ?_
          rintro e u6 ⟨rfl, hB⟩
          have HD := Lib.hid (GS.call HC.out hB)
          have HY1 := Lib.hid (And.intro ((hB.cell (p := ⟨b, off + z * 4, none⟩) (by exact hbz)).trans HY0.out.1) (And.intro ((hB.cell (p := ⟨b, off + z * 4 + 1, none⟩) (by exact hbz)).trans HY0.out.2.1) (And.intro ((hB.cell (p := ⟨b, off + z * 4 + 2, none⟩) (by exact hbz)).trans HY0.out.2.2.1) ((hB.cell (p := ⟨b, off + z * 4 + 3, none⟩) (by exact hbz)).trans HY0.out.2.2.2))))
          have hbz2 := Nat.lt_of_lt_of_le hbz hB.size
          clear hB HC HY0 hbz
          have HC := HD
          have HY0 := HY1
          have hbz := hbz2
          clear HD HY1 hbz2
          go_wp2_with fail
          refine hK.out _ _ (by (try dsimp only); exact ⟨HC.out.c4 (T := 66) (by simp), HC.out.c4 (T := 66) (by simp), HY0.out⟩) (fun hHeld => ?_)
          clear hK K
          (try simp only [Act.put, List.setIfInBounds_toArray, List.set_cons_zero, List.set_cons_succ])
          refine wpAnyH_ready (rs := [11]) (by kernel_rfl) (by simp) ?_
          refine' AllReadyH.cons (o := _) ?hi26 (fun K hK => ?rest26) AllReadyH.nil
          case hi26 => (simp only [List.getElem?_toArray, List.getElem?_cons_succ, List.getElem?_cons_zero]; rfl)
          go_simp
          go_at_call 84
          refine Calls.mono (HCB.out _) ?_
          rintro e u6 ⟨rfl, hB⟩
          have HD := Lib.hid (GS.call HC.out hB)
          have HY1 := Lib.hid (And.intro ((hB.cell (p := ⟨b, off + z * 4, none⟩) (by exact hbz)).trans HY0.out.1) (And.intro ((hB.cell (p := ⟨b, off + z * 4 + 1, none⟩) (by exact hbz)).trans HY0.out.2.1) (And.intro ((hB.cell (p := ⟨b, off + z * 4 + 2, none⟩) (by exact hbz)).trans HY0.out.2.2.1) ((hB.cell (p := ⟨b, off + z * 4 + 3, none⟩) (by exact hbz)).trans HY0.out.2.2.2))))
          have hbz2 := Nat.lt_of_lt_of_le hbz hB.size
          clear hB HC HY0 hbz
          have HC := HD
          have HY0 := HY1
          have hbz := hbz2
          clear HD HY1 hbz2
          go_wp2_with fail
          refine hK.out _ _ (by (try dsimp only); exact ⟨HC.out.c4 (T := 66) (by simp), HC.out.c4 (T := 66) (by simp), HY0.out⟩) (fun hHeld => ?_)
          clear hK K
          (try simp only [Act.put, List.setIfInBounds_toArray, List.set_cons_zero, List.set_cons_succ])
          refine' wpAnyH_take (i := 12) (oi := _) (v := Value.bool true) ?hi27 (by kernel_rfl) (by kernel_rfl) (by kernel_rfl) ?hq27 (Or.inl ⟨?hw27, ?hy27⟩) (by assumption) ?rest27
          case hi27 => (simp only [List.getElem?_toArray, List.getElem?_cons_succ, List.getElem?_cons_zero]; rfl)
          case hq27 => exact fun _ _ _ h => h
          case hw27 => rfl
          case hy27 => (intro wq hSw; (try dsimp only at hSw); (try go_simp); (first | done | (with_reducible rfl) | rfl | exact hgd | rw [hgd] | simp))
          (try simp only [Act.put, List.setIfInBounds_toArray, List.set_cons_zero, List.set_cons_succ])
          refine' wpAnyH_take (i := 13) (oi := _) (v := Value.bool true) ?hi28 (by kernel_rfl) (by kernel_rfl) (by kernel_rfl) ?hq28 (Or.inl ⟨?hw28, ?hy28⟩) (by assumption) ?rest28
          case hi28 => (simp only [List.getElem?_toArray, List.getElem?_cons_succ, List.getElem?_cons_zero]; rfl)
          case hq28 => exact fun _ _ _ h => h
          case hw28 => rfl
          case hy28 => (intro wq hSw; (try dsimp only at hSw); (try go_simp); (first | done | (with_reducible rfl) | rfl | simp))
          (try simp only [Act.put, List.setIfInBounds_toArray, List.set_cons_zero, List.set_cons_succ])
          refine wpAnyH_done (by kernel_rfl) ?_ _
          have HFF := Lib.hid (show GS _ _ _ _ from ⟨HC.out.1, HC.out.2.1, HC.out.2.2.1, fun b hm => HC.out.2.2.2.1 b (List.mem_cons_of_mem _ hm), (List.pairwise_cons.1 HC.out.2.2.2.2).2⟩)
          clear HC HS1 HY0 hbz
          go_wp2
          go_roundw
          case rel => exact ⟨k + 1, by omega, by go_num, by rw [HE.out], HFF⟩
          case measure => simp [intOf]; omega
        · rw [if_neg hg] at HE
          have HC := Lib.hid HS1.out.drew
          have hgd : decide (g1 < g2) = false := decide_eq_false hg
          have hzn : decide ((z : Int) < 0) = false := decide_eq_false (by omega)
          have hzn2 : z < n := by omega
          refine wp_region_held_drew (S := (fun w' => (w'.cell? ⟨gz, 0, none⟩ = some (.int .i64 (F 0)) ∧ w'.cell? ⟨gz, 1, none⟩ = some (.int .i64 (F 1)) ∧ w'.cell? ⟨gz, 2, none⟩ = some (.int .i64 (F 2)) ∧ w'.cell? ⟨gz, 3, none⟩ = some (.int .i64 (F 3))) ∧ (w'.cell? ⟨w.heap.size, 0, none⟩ = some (.int .i64 (G 0)) ∧ w'.cell? ⟨w.heap.size, 1, none⟩ = some (.int .i64 (G 1)) ∧ w'.cell? ⟨w.heap.size, 2, none⟩ = some (.int .i64 (G 2)) ∧ w'.cell? ⟨w.heap.size, 3, none⟩ = some (.int .i64 (G 3))) ∧ (w'.cell? ⟨b, off + z * 4, none⟩ = some (.int .i64 (D 0)) ∧ w'.cell? ⟨b, off + z * 4 + 1, none⟩ = some (.int .i64 (D 1)) ∧ w'.cell? ⟨b, off + z * 4 + 2, none⟩ = some (.int .i64 (D 2)) ∧ w'.cell? ⟨b, off + z * 4 + 3, none⟩ = some (.int .i64 (D 3))))) (by kernel_rfl) (by exact ⟨HC.out.c4 (T := 66) (by simp), HC.out.c4 (T := 66) (by simp), HY0.out⟩) (fun hHeld => ?_)
          refine' wpAnyH_take (i := 0) (oi := _) (v := _) ?hi29 (by kernel_rfl) (by kernel_rfl) (by kernel_rfl) ?hq29 (Or.inl ⟨?hw29, ?hy29⟩) (by assumption) ?rest29
          case hi29 => (simp only [List.getElem?_toArray, List.getElem?_cons_succ, List.getElem?_cons_zero]; rfl)
          case hq29 => exact fun _ _ _ h => h
          case hw29 => rfl
          case hy29 => (intro wq hSw; (try dsimp only at hSw); go_simp; (try with_reducible rfl))
          (try simp only [Act.put, List.setIfInBounds_toArray, List.set_cons_zero, List.set_cons_succ])
          refine' wpAnyH_take (i := 1) (oi := _) (v := Value.bool false) ?hi30 (by kernel_rfl) (by kernel_rfl) (by kernel_rfl) ?hq30 (Or.inl ⟨?hw30, ?hy30⟩) (by assumption) ?rest30
          case hi30 => (simp only [List.getElem?_toArray, List.getElem?_cons_succ, List.getElem?_cons_zero]; rfl)
          case hq30 => exact fun _ _ _ h => h
          case hw30 => rfl
          case hy30 => (intro wq hSw; (try dsimp only at hSw); (try go_simp); (first | done | (with_reducible rfl) | rfl | exact hzn | rw [hzn] | simp))
          (try simp only [Act.put, List.setIfInBounds_toArray, List.set_cons_zero, List.set_cons_succ])
          refine' wpAnyH_take (i := 2) (oi := _) (v := Value.bool false) ?hi31 (by kernel_rfl) (by kernel_rfl) (by kernel_rfl) ?hq31 (Or.inl ⟨?hw31, ?hy31⟩) (by assumption) ?rest31
          case hi31 => (simp only [List.getElem?_toArray, List.getElem?_cons_succ, List.getElem?_cons_zero]; rfl)
          case hq31 => exact fun _ _ _ h => h
          case hw31 => rfl
          case hy31 => (intro wq hSw; (try dsimp only at hSw); (try go_simp); (first | done | (with_reducible rfl) | rfl | simp))
          (try simp only [Act.put, List.setIfInBounds_toArray, List.set_cons_zero, List.set_cons_succ])
          refine' wpAnyH_take (i := 3) (oi := _) (v := _) ?hi32 (by kernel_rfl) (by kernel_rfl) (by kernel_rfl) ?hq32 (Or.inl ⟨?hw32, ?hy32⟩) (by assumption) ?rest32
          case hi32 => (simp only [List.getElem?_toArray, List.getElem?_cons_succ, List.getElem?_cons_zero]; rfl)
          case hq32 => exact fun _ _ _ h => h
          case hw32 => rfl
          case hy32 => (intro wq hSw; (try dsimp only at hSw); go_simp; (try with_reducible rfl))
          (try simp only [Act.put, List.setIfInBounds_toArray, List.set_cons_zero, List.set_cons_succ])
          refine' wpAnyH_take (i := 4) (oi := _) (v := _) ?hi33 (by kernel_rfl) (by kernel_rfl) (by kernel_rfl) ?hq33 (Or.inl ⟨?hw33, ?hy33⟩) (by assumption) ?rest33
          case hi33 => (simp only [List.getElem?_toArray, List.getElem?_cons_succ, List.getElem?_cons_zero]; rfl)
          case hq33 => exact fun _ _ _ h => h
          case hw33 => rfl
          case hy33 => (intro wq hSw; (try dsimp only at hSw); go_simp; (try with_reducible rfl))
          (try simp only [Act.put, List.setIfInBounds_toArray, List.set_cons_zero, List.set_cons_succ])
          refine' wpAnyH_take (i := 6) (oi := _) (v := _) ?hi34 (by kernel_rfl) (by kernel_rfl) (by kernel_rfl) ?hq34 (Or.inl ⟨?hw34, ?hy34⟩) (by assumption) ?rest34
          case hi34 => (simp only [List.getElem?_toArray, List.getElem?_cons_succ, List.getElem?_cons_zero]; rfl)
          case hq34 => exact fun _ _ _ h => h
          case hw34 => rfl
          case hy34 => (intro wq hSw; (try dsimp only at hSw); go_simp; (try with_reducible rfl))
          (try simp only [Act.put, List.setIfInBounds_toArray, List.set_cons_zero, List.set_cons_succ])
          refine' wpAnyH_take (i := 7) (oi := _) (v := _) ?hi35 (by kernel_rfl) (by kernel_rfl) (by kernel_rfl) ?hq35 (Or.inl ⟨?hw35, ?hy35⟩) (by assumption) ?rest35
          case hi35 => (simp only [List.getElem?_toArray, List.getElem?_cons_succ, List.getElem?_cons_zero]; rfl)
          case hq35 => exact fun _ _ _ h => h
          case hw35 => rfl
          case hy35 => (intro wq hSw; (try dsimp only at hSw); go_simp; (try with_reducible rfl))
          (try simp only [Act.put, List.setIfInBounds_toArray, List.set_cons_zero, List.set_cons_succ])
          refine' wpAnyH_take (i := 8) (oi := _) (v := _) ?hi36 (by kernel_rfl) (by kernel_rfl) (by kernel_rfl) ?hq36 (Or.inl ⟨?hw36, ?hy36⟩) (by assumption) ?rest36
          case hi36 => (simp only [List.getElem?_toArray, List.getElem?_cons_succ, List.getElem?_cons_zero]; rfl)
          case hq36 => exact fun _ _ _ h => h
          case hw36 => rfl
          case hy36 => (intro wq hSw; (try dsimp only at hSw); go_simp; (try with_reducible rfl))
          (try simp only [Act.put, List.setIfInBounds_toArray, List.set_cons_zero, List.set_cons_succ])
          refine' wpAnyH_take (i := 9) (oi := _) (v := _) ?hi37 (by kernel_rfl) (by kernel_rfl) (by kernel_rfl) ?hq37 (Or.inl ⟨?hw37, ?hy37⟩) (by assumption) ?rest37
          case hi37 => (simp only [List.getElem?_toArray, List.getElem?_cons_succ, List.getElem?_cons_zero]; rfl)
          case hq37 => exact fun _ _ _ h => h
          case hw37 => rfl
          case hy37 => (intro wq hSw; (try dsimp only at hSw); go_simp; (try with_reducible rfl))
          (try simp only [Act.put, List.setIfInBounds_toArray, List.set_cons_zero, List.set_cons_succ])
          refine' wpAnyH_take (i := 10) (oi := _) (v := _) ?hi38 (by kernel_rfl) (by kernel_rfl) (by kernel_rfl) ?hq38 (Or.inl ⟨?hw38, ?hy38⟩) (by assumption) ?rest38
          case hi38 => (simp only [List.getElem?_toArray, List.getElem?_cons_succ, List.getElem?_cons_zero]; rfl)
          case hq38 => exact fun _ _ _ h => h
          case hw38 => rfl
          case hy38 => (intro wq hSw; (try dsimp only at hSw); go_simp; (try with_reducible rfl))
          (try simp only [Act.put, List.setIfInBounds_toArray, List.set_cons_zero, List.set_cons_succ])
          refine wpAnyH_ready (rs := [5]) (by kernel_rfl) (by simp) ?_
          refine' AllReadyH.cons (o := _) ?hi39 (fun K hK => ?rest39) AllReadyH.nil
          case hi39 => (simp only [List.getElem?_toArray, List.getElem?_cons_succ, List.getElem?_cons_zero]; rfl)
          go_simp
          go_at_call 84
          refine Calls.mono (HCA.out _) ?_
          rintro e u6 ⟨rfl, hB⟩
          have HD := Lib.hid (GS.call HC.out hB)
          have HY1 := Lib.hid (And.intro ((hB.cell (p := ⟨b, off + z * 4, none⟩) (by exact hbz)).trans HY0.out.1) (And.intro ((hB.cell (p := ⟨b, off + z * 4 + 1, none⟩) (by exact hbz)).trans HY0.out.2.1) (And.intro ((hB.cell (p := ⟨b, off + z * 4 + 2, none⟩) (by exact hbz)).trans HY0.out.2.2.1) ((hB.cell (p := ⟨b, off + z * 4 + 3, none⟩) (by exact hbz)).trans HY0.out.2.2.2))))
          have hbz2 := Nat.lt_of_lt_of_le hbz hB.size
          clear hB HC HY0 hbz
          have HC := HD
          have HY0 := HY1
          have hbz := hbz2
          clear HD HY1 hbz2
          go_wp2_with fail
          refine hK.out _ _ (by (try dsimp only); exact ⟨HC.out.c4 (T := 66) (by simp), HC.out.c4 (T := 66) (by simp), HY0.out⟩) (fun hHeld => ?_)
          clear hK K
          (try simp only [Act.put, List.setIfInBounds_toArray, List.set_cons_zero, List.set_cons_succ])
          refine wpAnyH_ready (rs := [11]) (by kernel_rfl) (by simp) ?_
          refine' AllReadyH.cons (o := _) ?hi40 (fun K hK => ?rest40) AllReadyH.nil
          case hi40 => (simp only [List.getElem?_toArray, List.getElem?_cons_succ, List.getElem?_cons_zero]; rfl)
          go_simp
          go_at_call 84
          refine Calls.mono (HCB.out _) ?_
          rintro e u6 ⟨rfl, hB⟩
          have HD := Lib.hid (GS.call HC.out hB)
          have HY1 := Lib.hid (And.intro ((hB.cell (p := ⟨b, off + z * 4, none⟩) (by exact hbz)).trans HY0.out.1) (And.intro ((hB.cell (p := ⟨b, off + z * 4 + 1, none⟩) (by exact hbz)).trans HY0.out.2.1) (And.intro ((hB.cell (p := ⟨b, off + z * 4 + 2, none⟩) (by exact hbz)).trans HY0.out.2.2.1) ((hB.cell (p := ⟨b, off + z * 4 + 3, none⟩) (by exact hbz)).trans HY0.out.2.2.2))))
          have hbz2 := Nat.lt_of_lt_of_le hbz hB.size
          clear hB HC HY0 hbz
          have HC := HD
          have HY0 := HY1
          have hbz := hbz2
          clear HD HY1 hbz2
          go_wp2_with fail
          refine hK.out _ _ (by (try dsimp only); exact ⟨HC.out.c4 (T := 66) (by simp), HC.out.c4 (T := 66) (by simp), HY0.out⟩) (fun hHeld => ?_)
          clear hK K
          (try simp only [Act.put, List.setIfInBounds_toArray, List.set_cons_zero, List.set_cons_succ])
          refine' wpAnyH_take (i := 12) (oi := _) (v := Value.bool false) ?hi41 (by kernel_rfl) (by kernel_rfl) (by kernel_rfl) ?hq41 (Or.inl ⟨?hw41, ?hy41⟩) (by assumption) ?rest41
          case hi41 => (simp only [List.getElem?_toArray, List.getElem?_cons_succ, List.getElem?_cons_zero]; rfl)
          case hq41 => exact fun _ _ _ h => h
          case hw41 => rfl
          case hy41 => (intro wq hSw; (try dsimp only at hSw); (try go_simp); (first | done | (with_reducible rfl) | rfl | exact hgd | rw [hgd] | simp))
          (try simp only [Act.put, List.setIfInBounds_toArray, List.set_cons_zero, List.set_cons_succ])
          refine' wpAnyH_take (i := 13) (oi := _) (v := Value.bool false) ?hi42 (by kernel_rfl) (by kernel_rfl) (by kernel_rfl) ?hq42 (Or.inl ⟨?hw42, ?hy42⟩) (by assumption) ?rest42
          case hi42 => (simp only [List.getElem?_toArray, List.getElem?_cons_succ, List.getElem?_cons_zero]; rfl)
          case hq42 => exact fun _ _ _ h => h
          case hw42 => rfl
          case hy42 => (intro wq hSw; (try dsimp only at hSw); (try go_simp); (first | done | (with_reducible rfl) | rfl | simp))
          (try simp only [Act.put, List.setIfInBounds_toArray, List.set_cons_zero, List.set_cons_succ])
          refine wpAnyH_done (by kernel_rfl) ?_ _
          have HFF := Lib.hid (show GS _ _ _ _ from ⟨HC.out.1, HC.out.2.1, HC.out.2.2.1, fun b hm => HC.out.2.2.2.1 b (List.mem_cons_of_mem _ hm), (List.pairwise_cons.1 HC.out.2.2.2.2).2⟩)
          clear HC HS1 HY0 hbz
          go_wp2
          go_roundw
          case rel => exact ⟨k + 1, by omega, by go_num, by rw [HE.out], HFF⟩
          case measure => simp [intOf]; omega
    · have hk' : k = n := by omega
      subst hk'
      go_wp2
      go_ret
      exact ⟨rfl, HS.out.below⟩
set_option maxHeartbeats 8000000 in
theorem i_NearestColor (A A' : Option Addr) (c c' n n' : Nat) (xss : List (List Int)) (ys : List Int) (w : World) (hn : n = xss.length) (hn' : n' = ys.length) (h : Rdss w w.heap.size A xss) (hy : Rds .i64 w w.heap.size A' ys) (hl : tot xss ≤ 2000000) (hl' : ys.length ≤ 2000000) :
    Calls Try.prog 21 #[.slice A n c, .slice A' n' c'] w fun e w' => e = .returned (.int .i64 (ncV xss ys)) ∧ Below w.heap.size w w' := by
  have HY := Lib.hid hy
  have Hn := Lib.hid hn
  have Hn' := Lib.hid hn'
  have Hl' := Lib.hid hl'
  have HCO := Lib.hid (iClr_any A c n xss (ys.length : Int) w hn h hl)
  have HNO : Hid (ncOk xss ys = false → ncV xss ys = -1) := Lib.hid (fun h => by unfold ncV; rw [h]; rfl)
  have HYS : Hid (ncOk xss ys = true → ncV xss ys = (ncN xss ys xss.length : Nat)) := Lib.hid (fun h => by unfold ncV; rw [h]; rfl)
  have HD : Hid (ncOk xss ys = (decide (1 ≤ (ys.length : Int) ∧ (ys.length : Int) ≤ 4) && (allB 0 255 ys && (palB xss ys.length && !decide (xss.length = 0))))) := Lib.hid rfl
  rw [← hn'] at HCO
  clear h hy hn hn' hl hl'
  go_enter Try.func21, Try.ntmps21
  go_wp2_with fail
  refine HCO.out.mono ?_
  rintro e w2 ⟨hB, hor⟩
  have HB := Lib.hid hB
  have HY2 := Lib.hid ((HY.out.below hB).more hB.size)
  clear hB
  rcases hor with ⟨hno, rfl⟩ | ⟨hP, hpal, v, rfl, hO⟩
  · have HF := Lib.hid (HNO.out (by
      rw [HD.out, ← Hn'.out]
      cases h1 : decide (1 ≤ (n' : Int) ∧ (n' : Int) ≤ 4)
      · rfl
      · rw [h1, Bool.true_and] at hno
        rw [hno]; simp))
    clear hno
    go_wp2
    go_ret
    exact ⟨by rw [HF.out]; rfl, HB.out⟩
  · have HP := Lib.hid hP
    have HPAL := Lib.hid hpal
    have hcon := areBytes_any A' c' _ ys w2 HY2.out (by have := Hl'.out; omega)
    rw [← Hn'.out] at hcon
    have HCN := Lib.hid hcon
    have HO := Lib.hid hO
    obtain ⟨A1, c1, rfl, _⟩ := hO.slice
    clear hP hpal hcon hO
    go_wp2_with fail
    refine HCN.out.mono ?_
    rintro e w3 ⟨rfl, rfl⟩
    cases hv : allB 0 255 ys
    · have HF := Lib.hid (HNO.out (by rw [HD.out, hv]; simp))
      clear hv
      go_wp2
      go_ret
      exact ⟨by rw [HF.out]; rfl, HB.out⟩
    · have HV := Lib.hid hv
      have hcon := colorOf_any A' c' ys w2 HY2.out (by have := HP.out; have := Hn'.out; omega)
      rw [← Hn'.out] at hcon
      have HCC := Lib.hid hcon
      clear hv hcon
      go_wp2_with fail
      refine HCC.out.mono ?_
      rintro e w3 ⟨rfl, hB3⟩
      have HB3 := Lib.hid (HB.out.trans (hB3.mono HB.out.size))
      have HR3 := Lib.hid ((HO.out.rds.below hB3).more hB3.size)
      clear hB3
      have hpo := palB_of HPAL.out
      have HNF := Lib.hid (iNof_any A1 c1 xss.length n' xss ys w3 rfl hpo.1 (by have := HP.out; omega) Hn'.out.symm hpo.2 HV.out HR3.out)
      clear hpo
      go_wp2_with fail
      refine HNF.out.mono ?_
      rintro e w4 ⟨rfl, hB4⟩
      have HB4 := Lib.hid (HB3.out.trans (hB4.mono HB3.out.size))
      clear hB4
      have HE : Hid (nbI xss ys xss.length = ncV xss ys) := Lib.hid (by
        unfold nbI
        by_cases h0 : xss.length = 0
        · rw [if_pos h0, HNO.out (by rw [HD.out, decide_eq_true h0]; simp)]
        · rw [if_neg h0, HYS.out (by rw [HD.out, ← Hn'.out, HV.out, HPAL.out, decide_eq_true HP.out, decide_eq_false h0]; rfl)])
      go_wp2
      go_ret
      exact ⟨by rw [← HE.out]; rfl, HB4.out⟩
end Go.Proofs.Ytkjebidkkopalaa
namespace Go.Proofs.Ytkjebidkkopalaa
open Go.RowKit Go.Shelf
set_option linter.unusedSimpArgs false
set_option linter.unusedVariables false
set_option maxRecDepth 20000

def IxI (W H P n2 mb pg pm pc : Nat) (Ag A6 : Option Addr) (cg c6 : Nat) (xs : List Int) (xss : List (List Int)) (nv : List Int → Int) (k : Nat) (w : World) : Prop :=
  MpI w mb k P nv ∧ Bx w pg 63 #[.int .i64 (W : Int), .int .i64 (H : Int), .slice Ag (W * H) cg] ∧ Bx w pm 71 #[.map (some mb)] ∧ Bx w pc 61 #[.slice A6 n2 c6] ∧ Rds .i64 w mb Ag (img W H 4 (pxc W P xs)) ∧ Rds .i64 w mb A6 (clr xss n2)
section
variable {W H P n2 mb pg pm pc : Nat} {Ag A6 : Option Addr} {cg c6 : Nat} {xs : List Int} {xss : List (List Int)} {nv : List Int → Int} {k : Nat} {w w' : World}
theorem IxI.move (h : IxI W H P n2 mb pg pm pc Ag A6 cg c6 xs xss nv k w) {B : Nat} (hk : ∀ g, g < B → w'.heap[g]? = w.heap[g]?) (h1 : mb < B) (h2 : pg < B) (h3 : pm < B) (h4 : pc < B) : IxI W H P n2 mb pg pm pc Ag A6 cg c6 xs xss nv k w' :=
  ⟨h.1.kept (hk mb h1), (hk pg h2).trans h.2.1, (hk pm h3).trans h.2.2.1, (hk pc h4).trans h.2.2.2.1, h.2.2.2.2.1.keep fun p hp => World.cell?_of_block (hk _ (by omega)), h.2.2.2.2.2.keep fun p hp => World.cell?_of_block (hk _ (by omega))⟩
theorem IxI.moveB (h : IxI W H P n2 mb pg pm pc Ag A6 cg c6 xs xss nv k w) (hB : Below w.heap.size w w') : IxI W H P n2 mb pg pm pc Ag A6 cg c6 xs xss nv k w' :=
  h.move (B := w.heap.size) (fun g hg => hB.block g hg) h.1.lt h.2.1.lt h.2.2.1.lt h.2.2.2.1.lt
theorem IxI.grow (h : IxI W H P n2 mb pg pm pc Ag A6 cg c6 xs xss nv k w) (hG : w.grownBy w' (some mb)) (hM : MpI w' mb (k + 1) P nv) (h1 : pg < mb) (h2 : pc < mb) (h3 : pm ≠ mb) : IxI W H P n2 mb pg pm pc Ag A6 cg c6 xs xss nv (k + 1) w' := by
  have hl := h.1.lt
  have ne : ∀ g, g < w.heap.size → g ≠ mb → w'.heap[g]? = w.heap[g]? := fun g hg hn => hG.block g hg (fun e => by injection e with e; exact hn e)
  exact ⟨hM, (ne pg h.2.1.lt (by omega)).trans h.2.1, (ne pm h.2.2.1.lt h3).trans h.2.2.1, (ne pc h.2.2.2.1.lt (by omega)).trans h.2.2.2.1, h.2.2.2.2.1.keep fun p hp => World.cell?_of_block (ne _ (by omega) (by omega)), h.2.2.2.2.2.keep fun p hp => World.cell?_of_block (ne _ (by omega) (by omega))⟩
theorem IxI.more (h : IxI W H P n2 mb pg pm pc Ag A6 cg c6 xs xss nv k w) : IxI W H P n2 mb pg pm pc Ag A6 cg c6 xs xss nv (k + 1) w := ⟨h.1.mono (Nat.le_succ k), h.2⟩
end
theorem GS.argSSx {W0 w : World} {L : List Rg} {Bs : List Bxg} (h : GS W0 w L Bs) {A : Option Addr} {xss : List (List Int)} (hr : Rdss W0 W0.heap.size A xss) : Rdss w w.heap.size A xss := (hr.below h.1).more h.1.size
theorem wf_small {n : Int} (h : -1000 ≤ n ∧ n ≤ 1000) : (Lit.int .i64 n).wf = true := by
  simp only [Lit.wf, Bool.and_eq_true, decide_eq_true_eq]
  exact ⟨by show -9223372036854775808 ≤ n; omega, by show n ≤ 9223372036854775807; omega⟩
theorem nbI_bd (xss : List (List Int)) (ys : List Int) {n : Nat} (h : n ≤ 16) : -1 ≤ nbI xss ys n ∧ nbI xss ys n ≤ 16 := by
  unfold nbI
  split
  · omega
  · have := ncN_lt xss ys n (by omega); omega
set_option maxHeartbeats 16000000 in
theorem iIx1_any (W H P n2 mb pg pm pc : Nat) (hW : W ≤ 16) (hH : H ≤ 16) (hP : P ≤ 4) (Ag A6 : Option Addr) (cg c6 : Nat) (hcg : W * H ≤ cg) (xs : List Int) (xss : List (List Int)) (hn2 : n2 = xss.length) (h16 : n2 ≤ 16) (hcl : clN xss P xss.length) (hxl : xs.length = W * H * P) (hby : ∀ j, j < xs.length → 0 ≤ xs.getD j 0 ∧ xs.getD j 0 ≤ 255) (hpgm : pg < mb) (hpcm : pc < mb) (hpmm : pm ≠ mb) (x y k : Nat) (hx : x < W) (hy : y < H) (hk : k ≤ 100000) (w : World) (h : IxI W H P n2 mb pg pm pc Ag A6 cg c6 xs xss (fun ys => nbI xss ys n2) k w) :
    Calls Try.prog 49 (#[.int .i64 (x : Int), .int .i64 (y : Int)] ++ #[.pointer (some ⟨pg, 0, none⟩), .pointer (some ⟨pm, 0, none⟩), .pointer (some ⟨pc, 0, none⟩)]) w fun e w' => e = .returned (.int .i64 (nbI xss (pxl W P xs x y) n2)) ∧ IxI W H P n2 mb pg pm pc Ag A6 cg c6 xs xss (fun ys => nbI xss ys n2) (k + 1) w' ∧ w.grownBy w' (some mb) := by
  obtain ⟨ys, hys⟩ : ∃ ys, ys = pxl W P xs x y := ⟨_, rfl⟩
  have HLy : Hid (ys.length = P) := Lib.hid (by rw [hys]; exact pxl_len ..)
  have HYb : Hid (allB 0 255 ys = true) := Lib.hid (by
    rw [hys]
    refine allB_yes (fun j hj => ?_)
    rw [pxl_len] at hj
    rw [pxl_get _ _ _ _ _ _ hj]
    exact hby _ (by rw [hxl]; exact pix_lt hx hy hj))
  obtain ⟨n, hn⟩ : ∃ n, W * H = n := ⟨_, rfl⟩
  have HAT := Lib.hid (at_n W H n hn hW hH Ag cg (pxc W P xs) x y hx hy w (h.2.2.2.2.1.more (Nat.le_of_lt h.1.lt)) (by omega))
  have hF : ∀ p, pxc W P xs x y p = ys.getD p 0 := fun p => by rw [hys]; rfl
  obtain ⟨g0, g1, g2⟩ := bx3 h.2.1
  obtain ⟨v, hv⟩ : ∃ v, nbI xss ys n2 = v := ⟨_, rfl⟩
  have HNv := Lib.hid hv
  have HWf : Hid ((Lit.int .i64 (nbI xss ys n2)).wf = true) := Lib.hid (wf_small (by have := nbI_bd xss ys h16; omega))
  have HI := Lib.hid h
  have HCl := Lib.hid hcl
  have Hn2 := Lib.hid hn2
  rw [← hys, hv]
  rw [hn] at g2
  clear hys h hcl hn2 hv hby hxl
  show Calls Try.prog 49 #[.int .i64 (x : Int), .int .i64 (y : Int), .pointer (some ⟨pg, 0, none⟩), .pointer (some ⟨pm, 0, none⟩), .pointer (some ⟨pc, 0, none⟩)] w _
  go_enter Try.func49, Try.ntmps49
  go_wp2_with fail
  refine HAT.out.mono ?_
  rintro e w1 ⟨rfl, hB1⟩
  simp only [colV]
  rw [hF 0, hF 1, hF 2, hF 3]
  clear HAT hF g0 g1 g2
  obtain ⟨y0, e0⟩ : ∃ v, ys.getD 0 0 = v := ⟨_, rfl⟩
  obtain ⟨y1, e1⟩ : ∃ v, ys.getD 1 0 = v := ⟨_, rfl⟩
  obtain ⟨y2, e2⟩ : ∃ v, ys.getD 2 0 = v := ⟨_, rfl⟩
  obtain ⟨y3, e3⟩ : ∃ v, ys.getD 3 0 = v := ⟨_, rfl⟩
  rw [e0, e1, e2, e3]
  have hB2 : Below w.heap.size w (w1.alloc (.cells #[.int .i64 y0, .int .i64 y1, .int .i64 y2, .int .i64 y3] 66)) := hB1.alloc hB1.size _
  have HB2 := Lib.hid hB2
  have HI2 := Lib.hid (HI.out.moveB hB2)
  have HX2 := Lib.hid (Bx.new w1 66 #[.int .i64 y0, .int .i64 y1, .int .i64 y2, .int .i64 y3])
  obtain ⟨gx, hgx⟩ : ∃ gx, gx = w1.heap.size := ⟨_, rfl⟩
  have hgxm : mb < gx := by rw [hgx]; exact Nat.lt_of_lt_of_le HI.out.1.lt hB1.size
  have Hgx := Lib.hid hgx
  rw [← hgx] at HX2
  clear hB1 hB2 HI hgx
  rcases HI2.out.1.look HLy.out HYb.out with hlk | hlk
  · simp only [colV] at hlk
    rw [e0, e1, e2, e3] at hlk
    have m0 := bx1 HI2.out.2.2.1
    have k0 := bx1 HI2.out.2.2.2.1
    obtain ⟨x0, x1, x2, x3⟩ := bx4 (T := 66) HX2.out
    go_upto_region 4 with fail
    rw [← Hgx.out]
    clear hlk Hgx
    generalize w1.alloc (.cells #[.int .i64 y0, .int .i64 y1, .int .i64 y2, .int .i64 y3] 66) = u at *
    have hpml : pm < u.drew.heap.size := HI2.out.2.2.1.lt
    have hpcl : pc < u.drew.heap.size := HI2.out.2.2.2.1.lt
    have hgxl : gx < u.drew.heap.size := HX2.out.lt
    have HNF := Lib.hid (iNof_any A6 c6 n2 P xss ys u.drew Hn2.out h16 hP HLy.out HCl.out HYb.out ((HI2.out.2.2.2.2.2.more (Nat.le_of_lt HI2.out.1.lt)).keep (w' := u.drew) fun _ _ => rfl))
    simp only [colV] at HNF
    rw [e0, e1, e2, e3] at HNF
    have hI3 : IxI W H P n2 mb pg pm pc Ag A6 cg c6 xs xss (fun ys => nbI xss ys n2) k u.drew := HI2.out
    have HB3 := Lib.hid (HB2.out.drew)
    clear HI2 HB2
    have HI2 := Lib.hid hI3
    clear hI3
    have HX3 : Hid (Bx u.drew gx 66 #[.int .i64 y0, .int .i64 y1, .int .i64 y2, .int .i64 y3]) := Lib.hid HX2.out
    clear HX2
    have HX2 := Lib.hid HX3.out
    clear HX3
    refine wp_region_held_drew (S := (fun w' => w'.cell? ⟨pm, 0, none⟩ = some (.map (some mb)) ∧ w'.cell? ⟨gx, 0, none⟩ = some (.int .i64 y0) ∧ w'.cell? ⟨gx, 1, none⟩ = some (.int .i64 y1) ∧ w'.cell? ⟨gx, 2, none⟩ = some (.int .i64 y2) ∧ w'.cell? ⟨gx, 3, none⟩ = some (.int .i64 y3) ∧ w'.cell? ⟨pc, 0, none⟩ = some (.slice A6 n2 c6))) (by kernel_rfl) (by exact ⟨m0, x0, x1, x2, x3, k0⟩) (fun hHeld => ?_)
    refine' wpAnyH_take (i := 0) (oi := _) (v := _) ?hi1 (by kernel_rfl) (by kernel_rfl) (by kernel_rfl) ?hq1 (Or.inl ⟨?hw1, ?hy1⟩) (by assumption) ?rest1
    case hi1 => (simp only [List.getElem?_toArray, List.getElem?_cons_succ, List.getElem?_cons_zero]; rfl)
    case hq1 => exact fun _ _ _ h => h
    case hw1 => rfl
    case hy1 => (intro wq hSw; (try dsimp only at hSw); go_simp; (try with_reducible rfl))
    (try simp only [Act.put, List.setIfInBounds_toArray, List.set_cons_zero, List.set_cons_succ])
    refine' wpAnyH_take (i := 1) (oi := _) (v := _) ?hi2 (by kernel_rfl) (by kernel_rfl) (by kernel_rfl) ?hq2 (Or.inl ⟨?hw2, ?hy2⟩) (by assumption) ?rest2
    case hi2 => (simp only [List.getElem?_toArray, List.getElem?_cons_succ, List.getElem?_cons_zero]; rfl)
    case hq2 => exact fun _ _ _ h => h
    case hw2 => rfl
    case hy2 => (intro wq hSw; (try dsimp only at hSw); go_simp; (try with_reducible rfl))
    (try simp only [Act.put, List.setIfInBounds_toArray, List.set_cons_zero, List.set_cons_succ])
    refine' wpAnyH_take (i := 2) (oi := _) (v := _) ?hi3 (by kernel_rfl) (by kernel_rfl) (by kernel_rfl) ?hq3 (Or.inl ⟨?hw3, ?hy3⟩) (by assumption) ?rest3
    case hi3 => (simp only [List.getElem?_toArray, List.getElem?_cons_succ, List.getElem?_cons_zero]; rfl)
    case hq3 => exact fun _ _ _ h => h
    case hw3 => rfl
    case hy3 => (intro wq hSw; (try dsimp only at hSw); go_simp; (try with_reducible rfl))
    (try simp only [Act.put, List.setIfInBounds_toArray, List.set_cons_zero, List.set_cons_succ])
    refine' wpAnyH_take (i := 3) (oi := _) (v := _) ?hi4 (by kernel_rfl) (by kernel_rfl) (by kernel_rfl) ?hq4 (Or.inl ⟨?hw4, ?hy4⟩) (by assumption) ?rest4
    case hi4 => (simp only [List.getElem?_toArray, List.getElem?_cons_succ, List.getElem?_cons_zero]; rfl)
    case hq4 => exact fun _ _ _ h => h
    case hw4 => rfl
    case hy4 => (intro wq hSw; (try dsimp only at hSw); go_simp; (try with_reducible rfl))
    (try simp only [Act.put, List.setIfInBounds_toArray, List.set_cons_zero, List.set_cons_succ])
    refine wpAnyH_ready (rs := [4]) (by kernel_rfl) (by simp) ?_
    refine' AllReadyH.cons (o := _) ?hi5 (fun K hK => ?rest5) AllReadyH.nil
    case hi5 => (simp only [List.getElem?_toArray, List.getElem?_cons_succ, List.getElem?_cons_zero]; rfl)
    go_simp
    go_at_call 51
    refine HNF.out.mono ?_
    rintro e w5 ⟨rfl, hB5⟩
    rw [HNv.out]
    have m5 := (hB5.cell (p := ⟨pm, 0, none⟩) (by exact hpml)).trans m0
    have z0 := (hB5.cell (p := ⟨gx, 0, none⟩) (by exact hgxl)).trans x0
    have z1 := (hB5.cell (p := ⟨gx, 1, none⟩) (by exact hgxl)).trans x1
    have z2 := (hB5.cell (p := ⟨gx, 2, none⟩) (by exact hgxl)).trans x2
    have z3 := (hB5.cell (p := ⟨gx, 3, none⟩) (by exact hgxl)).trans x3
    have k5 := (hB5.cell (p := ⟨pc, 0, none⟩) (by exact hpcl)).trans k0
    have HI5 := Lib.hid (HI2.out.moveB hB5)
    have HX5 := Lib.hid (HX2.out.below hB5)
    have HB5 := Lib.hid hB5
    obtain ⟨w6, hst, hM6, hG6, hin6⟩ := MpI.store hP HI5.out.1 HLy.out HYb.out (by unfold maxLen; omega) HWf.out
    have hget6 := MpI.get hM6 HLy.out HYb.out hin6
    simp only [colV] at hst hget6
    rw [e0, e1, e2, e3, HNv.out] at hst hget6
    have HI6 := Lib.hid (HI5.out.grow hG6 hM6 hpgm hpcm hpmm)
    have HG6 := Lib.hid hG6
    clear hB5 hM6 hG6 hin6
    have m6 := bx1 HI6.out.2.2.1
    have k6 := bx1 HI6.out.2.2.2.1
    have hgm : gx ≠ mb := Nat.ne_of_gt hgxm
    have HX6 := Lib.hid ((HG6.out.block gx HX5.out.lt (fun e => by injection e with e; exact hgm e)).trans HX5.out)
    go_wp2_with fail
    refine hK.out _ _ (by (try dsimp only); exact ⟨m5, z0, z1, z2, z3, k5⟩) (fun hHeld => ?_)
    clear hK K
    (try simp only [Act.put, List.setIfInBounds_toArray, List.set_cons_zero, List.set_cons_succ])
    refine wpAnyH_ready (rs := [5]) (by kernel_rfl) (by simp) ?_
    refine' AllReadyH.cons (o := _) ?hi6 (fun K hK => ?rest6) AllReadyH.nil
    case hi6 => (simp only [List.getElem?_toArray, List.getElem?_cons_succ, List.getElem?_cons_zero]; rfl)
    go_simp
    refine hK.out _ _ (by (try dsimp only); exact ⟨m6, (bx4 (T := 66) HX6.out).1, (bx4 (T := 66) HX6.out).2.1, (bx4 (T := 66) HX6.out).2.2.1, (bx4 (T := 66) HX6.out).2.2.2, k6⟩) (fun hHeld => ?_)
    clear hK K
    (try simp only [Act.put, List.setIfInBounds_toArray, List.set_cons_zero, List.set_cons_succ])
    refine wpAnyH_done (by kernel_rfl) ?_ _
    clear m0 x0 x1 x2 x3 k0 m5 z0 z1 z2 z3 k5 hst HNF HI2 HX2
    obtain ⟨x0, x1, x2, x3⟩ := bx4 (T := 66) HX6.out
    go_wp2
    go_ret
    refine ⟨rfl, HI6.out, ?_⟩
    have hB : Below w.heap.size w w5 := HB3.out.trans (HB5.out.mono HB3.out.size)
    exact gtrans ⟨hB.os, hB.tape, hB.output, hB.size, fun i hi _ => hB.block i hi⟩ HG6.out
  · have hget := MpI.get HI2.out.1 HLy.out HYb.out hlk
    simp only [colV] at hlk hget
    rw [e0, e1, e2, e3] at hlk hget
    rw [HNv.out] at hlk hget
    clear e0 e1 e2 e3
    have m0 := bx1 HI2.out.2.2.1
    obtain ⟨x0, x1, x2, x3⟩ := bx4 (T := 66) HX2.out
    go_wp2
    go_ret
    exact ⟨rfl, HI2.out.more, ⟨HB2.out.os, HB2.out.tape, HB2.out.output, HB2.out.size, fun i hi _ => HB2.out.block i hi⟩⟩
theorem GS.mk2 {W0 w : World} {b lo hi : Nat} {T : TypeId} {cs : Array Value} {v : Value} {xs : List Int} (hB : Below W0.heap.size W0 w) (hX : Bx w b T cs) (hb : W0.heap.size ≤ b) (hO : Own w lo v xs) (hl : b < lo) (hh : ∀ g, v.ownBlock = some g → g < hi) (hhi : hi ≤ w.heap.size) : GS W0 w [ri lo hi v xs] [⟨b, T, cs⟩] :=
  ⟨hB, fun t ht => by
    rw [List.mem_singleton] at ht
    subst ht
    exact ⟨⟨hO, hh⟩, by show W0.heap.size ≤ lo; omega, hhi⟩, List.pairwise_singleton _ _, fun c hc => by
    rw [List.mem_singleton] at hc
    subst hc
    exact ⟨hX, hb, fun t ht => by
      rw [List.mem_singleton] at ht
      subst ht
      exact .inr hl⟩, List.pairwise_singleton _ _⟩
set_option maxHeartbeats 16000000 in
theorem i_IndexImage (W H P : Int) (A : Option Addr) (c : Nat) (xs : List Int) (A2 : Option Addr) (n0 c2 : Nat) (xss : List (List Int)) (w : World) (hx : Rds .i64 w w.heap.size A xs) (hl : xs.length ≤ 2000000) (hlc : xs.length ≤ c) (hs : Rdss w w.heap.size A2 xss) (hn2 : n0 = xss.length) (ht : tot xss ≤ 2000000) :
    Calls Try.prog 16 #[.agg #[.int .i64 W, .int .i64 H, .int .i64 P, .slice A xs.length c], .slice A2 n0 c2] w (ColR (ixOk W H P xs xss) W H 1 (ixL W.toNat H.toNat P.toNat xs xss) w) := by
  have HX := Lib.hid hx
  have HV : Hid (ixOk W H P xs xss = (vim W H P xs && (palB xss P && !decide (xss.length = 0)))) := Lib.hid rfl
  have S0 : GS w ((w.alloc (.cells #[.int .i64 W, .int .i64 H, .int .i64 P, .slice A xs.length c] 25)).alloc (.cells #[.int .i64 0, .int .i64 0, .int .i64 0, .slice none 0 0] 25)) [] [⟨(w.heap.size + 1), 25, #[.int .i64 0, .int .i64 0, .int .i64 0, .slice none 0 0]⟩, ⟨w.heap.size, 25, #[.int .i64 W, .int .i64 H, .int .i64 P, .slice A xs.length c]⟩] := GS.box' (GS.box' (GS.start w) 25 #[.int .i64 W, .int .i64 H, .int .i64 P, .slice A xs.length c] w.heap.size (by simp)) 25 #[.int .i64 0, .int .i64 0, .int .i64 0, .slice none 0 0] (w.heap.size + 1) (by simp)
  have Eg : Hid (∀ args w, (callFunc 49 args).run Try.prog w = .ok (.enter 49 args) w) := Lib.hid (enters_of Try.func49 (by kernel_rfl) rfl)
  have HCO := Lib.hid (iClr_any A2 c2 n0 xss P _ hn2 (S0.argSSx hs) ht)
  clear hx hs hn2 ht
  go_enter Try.func16, Try.ntmps16
  go_wp2_with fail
  generalize (w.alloc (.cells #[.int .i64 W, .int .i64 H, .int .i64 P, .slice A xs.length c] 25)).alloc (.cells #[.int .i64 0, .int .i64 0, .int .i64 0, .slice none 0 0] 25) = u0 at *
  refine HCO.out.mono ?_
  rintro e u1 ⟨hB, hor⟩
  clear HCO
  rcases hor with ⟨hno, rfl⟩ | ⟨ha, hpal, v, rfl, hO⟩
  · have Hv : Hid (ixOk W H P xs xss = false) := Lib.hid (by
      rw [HV.out]
      cases h1 : vim W H P xs
      · rfl
      · obtain ⟨_, _, P', _, _, rfl, _, _, _, _, h5, h6, _, _⟩ := vim_nat h1
        rw [decide_eq_true (show 1 ≤ (P' : Int) ∧ (P' : Int) ≤ 4 by omega), Bool.true_and] at hno
        rw [hno]; rfl)
    clear HV hno
    obtain ⟨cb, hcb⟩ : ∃ cb, cb = u1.heap.size := ⟨_, rfl⟩
    have S1 := GS.box' (S0.call hB) 61 #[.slice none 0 0] cb hcb
    clear S0 hB
    go_upto_region 2 with fail
    rw [← hcb]
    generalize u1.alloc (.cells #[.slice none 0 0] 61) = u2 at *
    clear hcb
    obtain ⟨r0, r1, r2, r3⟩ := S1.b1_4
    have f0 := S1.f1 0
    have f1 := S1.f1 1
    have f2 := S1.f1 2
    have f3 := S1.f1 3
    have HE := Lib.hid (S1.e1_4 (.int .i64 0) (.int .i64 0) (.int .i64 0) (.slice none 0 0))
    clear S1
    go_wp2
    exact bodyPost_ret (v := .tuple #[.agg #[.int .i64 0, .int .i64 0, .int .i64 0, .slice none 0 0], .bool false]) (by simp [results, Try.results16, go_sem, r0, r1, r2, r3]) rfl (ColR.no Hv.out HE.out.1)
  · have HPal := Lib.hid hpal
    have HA := Lib.hid ha
    have hpo := palB_of hpal
    have S1 := S0.addR hO hB
    obtain ⟨A6, c6, rfl, hc6⟩ := hO.slice
    obtain ⟨lo6, hlo6⟩ : ∃ lo6, lo6 = u0.heap.size := ⟨_, rfl⟩
    obtain ⟨hi6, hhi6⟩ : ∃ hi6, hi6 = u1.heap.size := ⟨_, rfl⟩
    obtain ⟨cb, hcb⟩ : ∃ cb, cb = u1.heap.size := ⟨_, rfl⟩
    obtain ⟨n2, hn2⟩ : ∃ n2, n2 = xss.length := ⟨_, rfl⟩
    rw [← hlo6, ← hhi6, ← hn2] at S1
    rw [← hn2] at hc6 hpo ⊢
    have S2 := GS.box' S1 61 #[.slice A6 n2 c6] cb hcb
    have HS2 : Hid (GS w (u1.alloc (.cells #[.slice A6 n2 c6] 61)) [rt 66 4 lo6 hi6 (.slice A6 n2 c6) n2 (clr xss n2)] [⟨cb, 61, #[.slice A6 n2 c6]⟩, ⟨(w.heap.size + 1), 25, #[.int .i64 0, .int .i64 0, .int .i64 0, .slice none 0 0]⟩, ⟨w.heap.size, 25, #[.int .i64 W, .int .i64 H, .int .i64 P, .slice A xs.length c]⟩]) := Lib.hid S2
    have HCl := Lib.hid hpo.2
    have hn16 := hpo.1
    have Hn2 := Lib.hid hn2
    clear S0 S1 S2 hB hO ha hpal hpo hn2 hlo6 hhi6
    go_upto_region 2 with fail
    rw [← hcb]
    generalize u1.alloc (.cells #[.slice A6 n2 c6] 61) = u2 at *
    clear hcb
    have q0 := bx1 HS2.out.x0
    by_cases h0 : n2 = 0
    · have Hv : Hid (ixOk W H P xs xss = false) := Lib.hid (by rw [HV.out, ← Hn2.out, decide_eq_true h0]; simp)
      clear HV
      subst h0
      have S1 := HS2.out
      obtain ⟨r0, r1, r2, r3⟩ := S1.b1_4
      have f0 := S1.f1 0
      have f1 := S1.f1 1
      have f2 := S1.f1 2
      have f3 := S1.f1 3
      have HE := Lib.hid (S1.e1_4 (.int .i64 0) (.int .i64 0) (.int .i64 0) (.slice none 0 0))
      clear S1
      go_wp2
      exact bodyPost_ret (v := .tuple #[.agg #[.int .i64 0, .int .i64 0, .int .i64 0, .slice none 0 0], .bool false]) (by simp [results, Try.results16, go_sem, r0, r1, r2, r3]) rfl (ColR.no Hv.out HE.out.1)
    · have hb0 : ((n2 : Int) == 0) = false := beq_eq_false_iff_ne.2 (by omega)
      obtain ⟨m0, m1, m2, m3⟩ := HS2.out.b2_4
      go_wp2_with fail
      refine (iVimg_any W H P A c xs u2 (HS2.out.arg HX.out) hl).mono ?_
      rintro e u3 ⟨rfl, hB⟩
      have HS3 := Lib.hid (HS2.out.call hB)
      clear HS2 hB q0 m0 m1 m2 m3
      cases hv : vim W H P xs
      · have Hv : Hid (ixOk W H P xs xss = false) := Lib.hid (by rw [HV.out, hv]; rfl)
        clear HV hv
        have S1 := HS3.out
        obtain ⟨r0, r1, r2, r3⟩ := S1.b1_4
        have f0 := S1.f1 0
        have f1 := S1.f1 1
        have f2 := S1.f1 2
        have f3 := S1.f1 3
        have HE := Lib.hid (S1.e1_4 (.int .i64 0) (.int .i64 0) (.int .i64 0) (.slice none 0 0))
        clear S1
        go_wp2
        exact bodyPost_ret (v := .tuple #[.agg #[.int .i64 0, .int .i64 0, .int .i64 0, .slice none 0 0], .bool false]) (by simp [results, Try.results16, go_sem, r0, r1, r2, r3]) rfl (ColR.no Hv.out HE.out.1)
      · have Hv : Hid (ixOk W H P xs xss = true) := Lib.hid (by rw [HV.out, hv, HPal.out, ← Hn2.out, decide_eq_false h0]; rfl)
        clear HV
        obtain ⟨W', H', P', rfl, rfl, rfl, hW1, hW, hH1, hH, hP1, hP4, hln, hby⟩ := vim_nat hv
        have HLn := Lib.hid hln
        have HBy := Lib.hid hby
        clear hv hln hby
        obtain ⟨m0, m1, m2, m3⟩ := HS3.out.b2_4
        have HGR := Lib.hid (gridOf_any W' H' P' hW hH hP1 hP4 hW1 hH1 A c xs HLn.out hlc u3 (HS3.out.arg HX.out))
        go_wp2_with fail
        refine HGR.out.mono ?_
        rintro e u4 ⟨v4, rfl, hO4, hB4⟩
        have S4 := GS.addR HS3.out hO4 hB4
        obtain ⟨A4, c4, rfl, hc4⟩ := hO4.slice
        obtain ⟨gb, hgb⟩ : ∃ gb, gb = u4.heap.size := ⟨_, rfl⟩
        have S5 := GS.box' S4 63 #[.int .i64 (W' : Int), .int .i64 (H' : Int), .slice A4 (W' * H') c4] gb hgb
        clear S4 HS3 hO4 hB4 HGR m0 m1 m2 m3
        obtain ⟨u5, hu5⟩ : ∃ u5, u5 = u4.alloc (.cells #[.int .i64 (W' : Int), .int .i64 (H' : Int), .slice A4 (W' * H') c4] 63) := ⟨_, rfl⟩
        rw [← hu5] at S5
        have hs5 : u5.heap.size = gb + 1 := by rw [hu5, hgb]; simp
        have S6 := S5.call ((Below.refl _ _).alloc (Nat.le_refl _) (.map #[] 0))
        have hs6 : (u5.alloc (.map #[] 0)).heap.size = gb + 2 := by simp [hs5]
        have S7 := GS.box' S6 71 #[.map (some (gb + 1))] (gb + 2) hs6.symm
        have hM6 := MpI.made u5 P' (fun ys => nbI xss ys n2)
        rw [hs5] at hM6
        obtain ⟨u7, hu7⟩ : ∃ u7, u7 = (u5.alloc (.map #[] 0)).alloc (.cells #[.map (some (gb + 1))] 71) := ⟨_, rfl⟩
        rw [← hu7] at S7
        have h57 : ∀ g, g < gb + 2 → u7.heap[g]? = (u5.alloc (.map #[] 0)).heap[g]? := fun g hg => by rw [hu7]; exact Below.heap_alloc _ _ g (by rw [hs6]; exact hg)
        have h56 : ∀ g, g < gb + 1 → u7.heap[g]? = u5.heap[g]? := fun g hg => (h57 g (by omega)).trans (Below.heap_alloc _ _ g (by rw [hs5]; exact hg))
        have hs7 : u7.heap.size = gb + 3 := by rw [hu7]; simp [hs5]
        have hM7 : MpI u7 (gb + 1) 0 P' (fun ys => nbI xss ys n2) := hM6.kept (h57 _ (by omega))
        have r4 := S5.rdsT (E := 66) (C := 4) (lo := u3.heap.size) (hi := u4.heap.size) (A := A4) (n := W' * H') (m := W' * H') (c := c4) (xs := img W' H' 4 (pxc W' P' xs)) (List.Mem.head _)
        have r6 := S5.rdsT (E := 66) (C := 4) (lo := lo6) (hi := hi6) (A := A6) (n := n2) (m := n2) (c := c6) (xs := clr xss n2) (List.mem_cons_of_mem _ (List.Mem.head _))
        rw [hs5] at r4 r6
        have hI7 : IxI W' H' P' n2 (gb + 1) gb (gb + 2) cb A4 A6 c4 c6 xs xss (fun ys => nbI xss ys n2) 0 u7 :=
          ⟨hM7, S7.x1, S7.x0, S7.x2, r4.keep fun p hp => World.cell?_of_block (h56 _ hp), r6.keep fun p hp => World.cell?_of_block (h56 _ hp)⟩
        have hcb : cb < gb := by
          have h1 := (S5.2.2.2.1 _ (List.mem_cons_of_mem _ (List.Mem.head _))).1.lt
          have h2 := (List.pairwise_cons.1 S5.2.2.2.2).1 ⟨cb, 61, #[.slice A6 n2 c6]⟩ (List.Mem.head _)
          simp only at h1 h2
          omega
        have hres : w.heap.size + 1 < u7.heap.size := S7.x3.lt
        have hresm : w.heap.size + 1 ≠ gb + 1 := by
          have h2 := (S5.2.2.2.1 _ (List.Mem.head _)).2.1
          have h3 := (List.pairwise_cons.1 S5.2.2.2.2).1 ⟨w.heap.size, 25, #[.int .i64 (W' : Int), .int .i64 (H' : Int), .int .i64 (P' : Int), .slice A xs.length c]⟩ (by simp)
          simp only at h2 h3
          omega
        have HS7 := Lib.hid S7
        have HBU := Lib.hid (buildX_any W' H' hW hH 49 #[.pointer (some ⟨gb, 0, none⟩), .pointer (some ⟨gb + 2, 0, none⟩), .pointer (some ⟨cb, 0, none⟩)] (fun x y => nbI xss (pxl W' P' xs x y) n2) u7 (gb + 1) (by omega) (IxI W' H' P' n2 (gb + 1) gb (gb + 2) cb A4 A6 c4 c6 xs xss (fun ys => nbI xss ys n2)) hI7
          (fun k w1 w2 h hs hk => h.move (B := u7.heap.size) hk (by omega) (by omega) (by omega) (by omega)) Eg.out
          (fun x y w' hx hy hs hI => iIx1_any W' H' P' n2 (gb + 1) gb (gb + 2) cb hW hH hP4 A4 A6 c4 c6 hc4 xs xss Hn2.out hn16 (by rw [← Hn2.out]; exact HCl.out) HLn.out HBy.out (by omega) (by omega) (by omega) x y (y * W' + x) hx hy (by have h1 := row_lt hx hy; have h2 := Nat.mul_le_mul hW hH; omega) w' hI))
        obtain ⟨m0, m1, m2, m3⟩ := S7.b4_4
        clear S5 S6 S7 hM6 hM7 hI7 r4 r6 h57 h56
        rw [hu5] at hu7
        have Hu7 := Lib.hid hu7
        have Hgb := Lib.hid hgb
        rw [hu7] at m0 m1 m2 m3
        clear hu5 hu7 hgb hs5 hs6
        have hmk := fun W : World => run_makeMap (P := Try.prog) 71 W
        rw [Hgb.out] at m0 m1 m2 m3
        go_wp2_with fail
        simp only [← Hgb.out]
        rw [← Hu7.out]
        clear m0 m1 m2 m3 hmk
        refine HBU.out.mono ?_
        rintro e u9 ⟨v9, rfl, hO9, hG9⟩
        have hB9 : Below w.heap.size w u9 := HS7.out.below.grown hG9 HS7.out.below.size (fun g hg => by injection hg with hg; omega)
        have hX9 := (hG9.block _ HS7.out.x3.lt (fun e => by injection e with e; exact hresm e)).trans HS7.out.x3
        obtain ⟨A9, c9, rfl, hc9⟩ := hO9.slice
        have hl9 : (img W' H' 1 (fun x y _ => nbI xss (pxl W' P' xs x y) n2)).length = W' * H' := by rw [img_len]; simp
        have S9 := GS.mk2 (hi := u9.heap.size) hB9 hX9 (Nat.le_succ _) hO9 hres (fun g hg => (hO9.lt g hg).2) (Nat.le_refl _)
        rw [hl9] at S9 hc9 ⊢
        obtain ⟨b9, hb9⟩ : ∃ b9, b9 = u9.heap.size := ⟨_, rfl⟩
        have HB9 := Lib.hid hb9
        have S10 := Lib.hid (GS.box' S9 74 #[.int .i64 (W' : Int), .int .i64 (H' : Int), .slice A9 (W' * H') c9] b9 hb9)
        clear HBU hO9 hG9 hB9 hX9 S9 hb9 HS7 Hu7 Hgb hl9
        go_wp2_with fail
        rw [← HB9.out]
        generalize u9.alloc (.cells #[.int .i64 (W' : Int), .int .i64 (H' : Int), .slice A9 (W' * H') c9] 74) = u10 at *
        obtain ⟨q0, q1, q2⟩ := S10.out.b0_3
        have hcell : ∀ i, i < 1 → u10.cell? ⟨b9, 0 + i * 3, none⟩ = some (.int .i64 (W' : Int)) ∧ u10.cell? ⟨b9, 0 + i * 3 + 1, none⟩ = some (.int .i64 (H' : Int)) ∧ u10.cell? ⟨b9, 0 + i * 3 + 2, none⟩ = some (.slice A9 (W' * H') c9) := by
          intro i hi
          have hi0 : i = 0 := by omega
          subst hi0
          exact ⟨q0, q1, q2⟩
        have HJ := Lib.hid (join_any W' H' 1 hW1 hW hH1 hH (Nat.le_refl _) (by omega) b9 0 1 (ixF W' P' xs xss) (fun _ => A9) (fun _ => c9) u10 (by exact S10.out.l0) hcell (fun i hi => ⟨by have h := S10.out.r0; rw [Hn2.out] at h; exact h, hc9⟩))
        refine HJ.out.mono ?_
        rintro e u11 ⟨v11, rfl, hO11, hB11⟩
        have S11 := GS.add S10.out hO11 hB11
        obtain ⟨A11, c11, rfl, hc11⟩ := hO11.slice
        rw [show (((1 : Nat) : Int)) = 1 from rfl]
        clear hO11 hB11 S10 HJ q0 q1 q2 hcell
        obtain ⟨r0, r1, r2, r3⟩ := S11.b1_4
        have f0 := S11.f1 0
        have f1 := S11.f1 1
        have f2 := S11.f1 2
        have f3 := S11.f1 3
        have HE := Lib.hid (S11.e1_4 (.int .i64 (W' : Int)) (.int .i64 (H' : Int)) (.int .i64 1) (.slice A11 (img W' H' 1 (ixF W' P' xs xss)).length c11))
        clear S11
        go_wp2
        exact bodyPost_ret (v := .tuple #[.agg #[.int .i64 (W' : Int), .int .i64 (H' : Int), .int .i64 1, .slice A11 (img W' H' 1 (ixF W' P' xs xss)).length c11], .bool true]) (by simp [results, Try.results16, go_sem, r0, r1, r2, r3]) rfl (ColR.yes Hv.out (HE.out.2 _ (List.Mem.head _)) HE.out.1)
end Go.Proofs.Ytkjebidkkopalaa
namespace Go.Proofs.Ytkjebidkkopalaa
open Go.RowKit
set_option linter.unusedSimpArgs false
set_option linter.unusedVariables false

theorem vim_mk {W H : Nat} {F : Nat → Nat → Nat → Int} (hW1 : 1 ≤ W) (hW : W ≤ 16) (hH1 : 1 ≤ H) (hH : H ≤ 16) (hb : ∀ x y, x < W → y < H → 0 ≤ F x y 0 ∧ F x y 0 ≤ 255) : vim W H 1 (img W H 1 F) = true := by
  have h1 : vsh (W : Int) (H : Int) 1 = true := by
    unfold vsh
    rw [decide_eq_true (show 1 ≤ (W : Int) ∧ (W : Int) ≤ 16 by omega), decide_eq_true (show 1 ≤ (H : Int) ∧ (H : Int) ≤ 16 by omega)]
    rfl
  have h2 : ((img W H 1 F).length : Int) = (W : Int) * (H : Int) * 1 := by rw [img_len]; simp
  have h3 : allB 0 255 (img W H 1 F) = true := allB_yes fun j hj => by
    rw [img_len, Nat.mul_one] at hj
    have h := img_at (P := 1) F (k := j) (p := 0) hj (by omega)
    rw [Nat.mul_one, Nat.add_zero] at h
    rw [h]
    exact hb _ _ (Nat.mod_lt _ (by omega)) (by rw [Nat.mul_comm] at hj; exact Nat.div_lt_of_lt_mul (by rw [Nat.mul_comm]; exact hj))
  unfold vim
  rw [h1, decide_eq_true h2, h3]
  rfl
theorem onIm_mk {W H x y : Nat} (hx : x < W) (hy : y < H) : onIm W H x y = true := by simp only [onIm, Bool.and_eq_true, decide_eq_true_eq]; omega
theorem ix_law {W H P : Int} {xs : List Int} {xss : List (List Int)} (h : ixOk W H P xs xss = true) : ∃ w h p : Nat, W = w ∧ H = h ∧ P = p ∧ (1 ≤ w ∧ w ≤ 16) ∧ (1 ≤ h ∧ h ≤ 16) ∧ (1 ≤ p ∧ p ≤ 4) ∧
    ∀ x y : Nat, x < w → y < h → (pxl w p xs x y).length = p ∧ pxv W H P xs x y = pxl w p xs x y ∧ ∃ z : Nat, ncV xss (pxl w p xs x y) = z ∧ z ≤ 16 ∧ pxv W H 1 (ixL w h p xs xss) x y = [(z : Int)] := by
  unfold ixOk at h
  rw [Bool.and_eq_true, Bool.and_eq_true] at h
  obtain ⟨hv, hp, hn⟩ := h
  obtain ⟨W, H, P, rfl, rfl, rfl, hW1, hW, hH1, hH, hP1, hP4, hln, hby⟩ := vim_nat hv
  have hpo := palB_of hp
  have hn0 : xss.length ≠ 0 := by
    intro e
    rw [decide_eq_true e] at hn
    simp at hn
  have hnc : ∀ x y : Nat, x < W → y < H → ncV xss (pxl W P xs x y) = (ncN xss (pxl W P xs x y) xss.length : Nat) := fun x y hx hy => by
    have hb : allB 0 255 (pxl W P xs x y) = true := allB_yes fun j hj => by
      rw [pxl_len] at hj
      rw [pxl_get _ _ _ _ _ _ hj]
      exact hby _ (by rw [hln]; exact pix_lt hx hy hj)
    have hok : ncOk xss (pxl W P xs x y) = true := by
      unfold ncOk
      rw [pxl_len, hb, hp, decide_eq_true (show 1 ≤ (P : Int) ∧ (P : Int) ≤ 4 by omega), decide_eq_false hn0]
      rfl
    unfold ncV
    rw [if_pos hok]
  have hbd : ∀ x y : Nat, ncN xss (pxl W P xs x y) xss.length ≤ 16 := fun x y => by
    have := ncN_lt xss (pxl W P xs x y) xss.length (by omega)
    have := hpo.1
    omega
  have hF : ∀ x y p : Nat, ixF W P xs xss x y p = (ncN xss (pxl W P xs x y) xss.length : Nat) := fun x y p => by
    unfold ixF nbI
    rw [if_neg hn0]
  refine ⟨W, H, P, rfl, rfl, rfl, ⟨hW1, hW⟩, ⟨hH1, hH⟩, ⟨hP1, hP4⟩, fun x y hx hy => ⟨pxl_len .., ?_, ncN xss (pxl W P xs x y) xss.length, hnc x y hx hy, hbd x y, ?_⟩⟩
  · show cond (vim W H P xs && onIm W H x y) (pxl W P xs x y) [] = _
    rw [hv, onIm_mk hx hy]; rfl
  · have hv1 : vim W H 1 (ixL W H P xs xss) = true := vim_mk hW1 hW hH1 hH (fun x y _ _ => by rw [hF]; have := hbd x y; omega)
    show cond (vim W H 1 (ixL W H P xs xss) && onIm W H x y) (pxl W 1 (ixL W H P xs xss) x y) [] = _
    rw [hv1, onIm_mk hx hy]
    show pxl W 1 (ixL W H P xs xss) x y = _
    show (List.range 1).map (px W 1 (ixL W H P xs xss) x y) = _
    have h1 : px W 1 (ixL W H P xs xss) x y 0 = ixF W P xs xss x y 0 := img_px _ hx hy (by omega)
    show [px W 1 (ixL W H P xs xss) x y 0] = _
    rw [h1, hF]
end Go.Proofs.Ytkjebidkkopalaa
namespace Go.Proofs.Ytkjebidkkopalaa
open Go.RowKit Go.Shelf
set_option linter.unusedSimpArgs false
set_option linter.unusedVariables false
set_option maxRecDepth 20000

theorem GS.argSS2 {W0 w : World} {L : List Rg} {Bs : List Bxg} (h : GS W0 w L Bs) {A : Option Addr} {xss : List (List Int)} (hr : Rdss W0 W0.heap.size A xss) : Rdss w w.heap.size A xss := (hr.below h.1).more h.1.size
set_option maxHeartbeats 16000000 in
theorem iCo1_any (W H n : Nat) (hn : W * H = n) (hW : W ≤ 16) (hH : H ≤ 16) (A : Option Addr) (c : Nat) (f : Nat → Nat → Int) (hc : n ≤ c) (A6 : Option Addr) (n2 c6 : Nat) (xss : List (List Int)) (x y : Nat) (hx : x < W) (hy : y < H) (vn : Nat) (hvn : f x y = (vn : Int)) (hv2 : vn < n2) (pc pg : Nat) (w : World) (hr : Rds .i64 w w.heap.size A (grN W H f)) (hr6 : Rds .i64 w w.heap.size A6 (clr xss n2))
    (hpc : Bx w pc 61 #[.slice A6 n2 c6]) (hpg : Bx w pg 74 #[.int .i64 (W : Int), .int .i64 (H : Int), .slice A n c]) :
    Calls Try.prog 57 (#[.int .i64 (x : Int), .int .i64 (y : Int)] ++ #[.pointer (some ⟨pc, 0, none⟩), .pointer (some ⟨pg, 0, none⟩)]) w fun e w' => e = .returned (colV (fun p => (xss.getD vn []).getD p 0)) ∧ Below w.heap.size w w' := by
  obtain ⟨b6, off6, rfl, hb6, hc6⟩ := hr6.cells_ (j := vn * 4) (by rw [clr_len]; omega)
  obtain ⟨k0, k1, k2, k3⟩ := clr_cells hc6 hv2
  have Hvn := Lib.hid hvn
  have Hn := Lib.hid hn
  have HY := Lib.hid (show colV (fun p => (xss.getD vn []).getD p 0) = .agg #[.int .i64 ((xss.getD vn []).getD 0 0), .int .i64 ((xss.getD vn []).getD 1 0), .int .i64 ((xss.getD vn []).getD 2 0), .int .i64 ((xss.getD vn []).getD 3 0)] from rfl)
  rw [HY.out]
  generalize (xss.getD vn []).getD 0 0 = y0 at *
  generalize (xss.getD vn []).getD 1 0 = y1 at *
  generalize (xss.getD vn []).getD 2 0 = y2 at *
  generalize (xss.getD vn []).getD 3 0 = y3 at *
  have HR := Lib.hid hr
  have HPC := Lib.hid hpc
  have HPG := Lib.hid hpg
  have HK := Lib.hid (And.intro k0 (And.intro k1 (And.intro k2 k3)))
  have hpcl0 := hpc.lt
  have hpgl0 := hpg.lt
  clear hvn hn hr hr6 hpc hpg hc6 k0 k1 k2 k3 HY
  show Calls Try.prog 57 #[.int .i64 (x : Int), .int .i64 (y : Int), .pointer (some ⟨pc, 0, none⟩), .pointer (some ⟨pg, 0, none⟩)] w _
  go_enter Try.func57, Try.ntmps57
  go_wp2
  have hB0 : Below w.heap.size w (w.alloc (.cells #[.int .i64 0, .int .i64 0, .int .i64 0, .int .i64 0] 66)) := (Below.refl _ _).alloc (Nat.le_refl _) _
  have HXu := Lib.hid (show Bx (w.alloc (.cells #[.int .i64 0, .int .i64 0, .int .i64 0, .int .i64 0] 66)).drew w.heap.size 66 #[.int .i64 0, .int .i64 0, .int .i64 0, .int .i64 0] from Bx.new w _ _)
  have HBu := Lib.hid hB0.drew
  have HRu := Lib.hid ((HR.out.below hB0.drew).more hB0.drew.size)
  have qa := (hB0.drew.cell (p := ⟨pc, 0, none⟩) hpcl0).trans (bx1 HPC.out)
  have qg0 := (hB0.drew.cell (p := ⟨pg, 0, none⟩) hpgl0).trans (bx3 HPG.out).1
  have qg1 := (hB0.drew.cell (p := ⟨pg, 1, none⟩) hpgl0).trans (bx3 HPG.out).2.1
  have qg2 := (hB0.drew.cell (p := ⟨pg, 2, none⟩) hpgl0).trans (bx3 HPG.out).2.2
  have qy0 := (hB0.drew.cell (p := ⟨b6, off6 + vn * 4, none⟩) hb6).trans HK.out.1
  have qy1 := (hB0.drew.cell (p := ⟨b6, off6 + vn * 4 + 1, none⟩) hb6).trans HK.out.2.1
  have qy2 := (hB0.drew.cell (p := ⟨b6, off6 + vn * 4 + 2, none⟩) hb6).trans HK.out.2.2.1
  have qy3 := (hB0.drew.cell (p := ⟨b6, off6 + vn * 4 + 3, none⟩) hb6).trans HK.out.2.2.2
  have hne1 : pc ≠ w.heap.size := Nat.ne_of_lt hpcl0
  have hne2 : pg ≠ w.heap.size := Nat.ne_of_lt hpgl0
  have hne3 : b6 ≠ w.heap.size := Nat.ne_of_lt hb6
  have hpcl : pc < (w.alloc (.cells #[.int .i64 0, .int .i64 0, .int .i64 0, .int .i64 0] 66)).drew.heap.size := Nat.lt_of_lt_of_le hpcl0 hB0.drew.size
  have hpgl : pg < (w.alloc (.cells #[.int .i64 0, .int .i64 0, .int .i64 0, .int .i64 0] 66)).drew.heap.size := Nat.lt_of_lt_of_le hpgl0 hB0.drew.size
  have hb6u : b6 < (w.alloc (.cells #[.int .i64 0, .int .i64 0, .int .i64 0, .int .i64 0] 66)).drew.heap.size := Nat.lt_of_lt_of_le hb6 hB0.drew.size
  clear hB0 HR HPC HPG HK
  generalize w.alloc (.cells #[.int .i64 0, .int .i64 0, .int .i64 0, .int .i64 0] 66) = u at *
  refine wp_region_held_drew (S := (fun w' => w'.cell? ⟨pc, 0, none⟩ = some (.slice (some ⟨b6, off6, none⟩) n2 c6) ∧ w'.cell? ⟨pg, 0, none⟩ = some (.int .i64 (W : Int)) ∧ w'.cell? ⟨pg, 1, none⟩ = some (.int .i64 (H : Int)) ∧ w'.cell? ⟨pg, 2, none⟩ = some (.slice A n c) ∧ w'.cell? ⟨b6, off6 + vn * 4, none⟩ = some (.int .i64 y0) ∧ w'.cell? ⟨b6, off6 + vn * 4 + 1, none⟩ = some (.int .i64 y1) ∧ w'.cell? ⟨b6, off6 + vn * 4 + 2, none⟩ = some (.int .i64 y2) ∧ w'.cell? ⟨b6, off6 + vn * 4 + 3, none⟩ = some (.int .i64 y3))) (by kernel_rfl) (by exact ⟨qa, qg0, qg1, qg2, qy0, qy1, qy2, qy3⟩) (fun hHeld => ?_)
  refine' wpAnyH_take (i := 0) (oi := _) (v := _) ?hi1 (by kernel_rfl) (by kernel_rfl) (by kernel_rfl) ?hq1 (Or.inl ⟨?hw1, ?hy1⟩) (by assumption) ?rest1
  case hi1 => (simp only [List.getElem?_toArray, List.getElem?_cons_succ, List.getElem?_cons_zero]; rfl)
  case hq1 => exact fun _ _ _ h => h
  case hw1 => rfl
  case hy1 => (intro wq hSw; (try dsimp only at hSw); go_simp; (try with_reducible rfl))
  (try simp only [Act.put, List.setIfInBounds_toArray, List.set_cons_zero, List.set_cons_succ])
  refine' wpAnyH_take (i := 1) (oi := _) (v := _) ?hi2 (by kernel_rfl) (by kernel_rfl) (by kernel_rfl) ?hq2 (Or.inl ⟨?hw2, ?hy2⟩) (by assumption) ?rest2
  case hi2 => (simp only [List.getElem?_toArray, List.getElem?_cons_succ, List.getElem?_cons_zero]; rfl)
  case hq2 => exact fun _ _ _ h => h
  case hw2 => rfl
  case hy2 => (intro wq hSw; (try dsimp only at hSw); go_simp; (try with_reducible rfl))
  (try simp only [Act.put, List.setIfInBounds_toArray, List.set_cons_zero, List.set_cons_succ])
  refine' wpAnyH_take (i := 2) (oi := _) (v := _) ?hi3 (by kernel_rfl) (by kernel_rfl) (by kernel_rfl) ?hq3 (Or.inl ⟨?hw3, ?hy3⟩) (by assumption) ?rest3
  case hi3 => (simp only [List.getElem?_toArray, List.getElem?_cons_succ, List.getElem?_cons_zero]; rfl)
  case hq3 => exact fun _ _ _ h => h
  case hw3 => rfl
  case hy3 => (intro wq hSw; (try dsimp only at hSw); go_simp; (try with_reducible rfl))
  (try simp only [Act.put, List.setIfInBounds_toArray, List.set_cons_zero, List.set_cons_succ])
  refine' wpAnyH_take (i := 3) (oi := _) (v := _) ?hi4 (by kernel_rfl) (by kernel_rfl) (by kernel_rfl) ?hq4 (Or.inl ⟨?hw4, ?hy4⟩) (by assumption) ?rest4
  case hi4 => (simp only [List.getElem?_toArray, List.getElem?_cons_succ, List.getElem?_cons_zero]; rfl)
  case hq4 => exact fun _ _ _ h => h
  case hw4 => rfl
  case hy4 => (intro wq hSw; (try dsimp only at hSw); go_simp; (try with_reducible rfl))
  (try simp only [Act.put, List.setIfInBounds_toArray, List.set_cons_zero, List.set_cons_succ])
  refine wpAnyH_ready (rs := [4]) (by kernel_rfl) (by simp) ?_
  refine' AllReadyH.cons (o := _) ?hi5 (fun K hK => ?rest5) AllReadyH.nil
  case hi5 => (simp only [List.getElem?_toArray, List.getElem?_cons_succ, List.getElem?_cons_zero]; rfl)
  go_simp
  go_at_call 58
  refine (atN_any W H n Hn.out hW hH A c f x y hx hy _ HRu.out hc).mono ?_
  rintro e w3 ⟨rfl, hB3⟩
  rw [Hvn.out]
  have za := (hB3.cell (p := ⟨pc, 0, none⟩) (by exact hpcl)).trans qa
  have zg0 := (hB3.cell (p := ⟨pg, 0, none⟩) (by exact hpgl)).trans qg0
  have zg1 := (hB3.cell (p := ⟨pg, 1, none⟩) (by exact hpgl)).trans qg1
  have zg2 := (hB3.cell (p := ⟨pg, 2, none⟩) (by exact hpgl)).trans qg2
  have zy0 := (hB3.cell (p := ⟨b6, off6 + vn * 4, none⟩) (by exact hb6u)).trans qy0
  have zy1 := (hB3.cell (p := ⟨b6, off6 + vn * 4 + 1, none⟩) (by exact hb6u)).trans qy1
  have zy2 := (hB3.cell (p := ⟨b6, off6 + vn * 4 + 2, none⟩) (by exact hb6u)).trans qy2
  have zy3 := (hB3.cell (p := ⟨b6, off6 + vn * 4 + 3, none⟩) (by exact hb6u)).trans qy3
  have HX3 := Lib.hid (HXu.out.below hB3)
  have HB3 := Lib.hid (HBu.out.trans (hB3.mono HBu.out.size))
  obtain ⟨x0, x1, x2, x3⟩ := bx4 HX3.out
  have xf0 := HX3.out.fz' 0
  have xf1 := HX3.out.fz' 1
  have xf2 := HX3.out.fz' 2
  have xf3 := HX3.out.fz' 3
  clear hB3
  go_wp2_with fail
  refine hK.out _ _ (by (try dsimp only); exact ⟨za, zg0, zg1, zg2, zy0, zy1, zy2, zy3⟩) (fun hHeld => ?_)
  clear hK K
  (try simp only [Act.put, List.setIfInBounds_toArray, List.set_cons_zero, List.set_cons_succ])
  refine' wpAnyH_take (i := 5) (oi := _) (v := _) ?hi6 (by kernel_rfl) (by kernel_rfl) (by kernel_rfl) ?hq6 (Or.inl ⟨?hw6, ?hy6⟩) (by assumption) ?rest6
  case hi6 => (simp only [List.getElem?_toArray, List.getElem?_cons_succ, List.getElem?_cons_zero]; rfl)
  case hq6 => exact fun _ _ _ h => h
  case hw6 => rfl
  case hy6 => (intro wq hSw; (try dsimp only at hSw); go_simp; (try with_reducible rfl))
  (try simp only [Act.put, List.setIfInBounds_toArray, List.set_cons_zero, List.set_cons_succ])
  refine' wpAnyH_take (i := 6) (oi := _) (v := _) ?hi7 (by kernel_rfl) (by kernel_rfl) (by kernel_rfl) ?hq7 (Or.inl ⟨?hw7, ?hy7⟩) (by assumption) ?rest7
  case hi7 => (simp only [List.getElem?_toArray, List.getElem?_cons_succ, List.getElem?_cons_zero]; rfl)
  case hq7 => exact fun _ _ _ h => h
  case hw7 => rfl
  case hy7 => (intro wq hSw; (try dsimp only at hSw); go_simp; (try with_reducible rfl))
  (try simp only [Act.put, List.setIfInBounds_toArray, List.set_cons_zero, List.set_cons_succ])
  refine wpAnyH_ready (rs := [7]) (by kernel_rfl) (by simp) ?_
  refine' AllReadyH.cons (o := _) ?hi8 (fun K hK => ?rest8) AllReadyH.nil
  case hi8 => (simp only [List.getElem?_toArray, List.getElem?_cons_succ, List.getElem?_cons_zero]; rfl)
  go_simp
  refine hK.out _ _ (by (try dsimp only); exact ⟨(sc4 hne1 _ _ _ _).trans za, (sc4 hne2 _ _ _ _).trans zg0, (sc4 hne2 _ _ _ _).trans zg1, (sc4 hne2 _ _ _ _).trans zg2, (sc4 hne3 _ _ _ _).trans zy0, (sc4 hne3 _ _ _ _).trans zy1, (sc4 hne3 _ _ _ _).trans zy2, (sc4 hne3 _ _ _ _).trans zy3⟩) (fun hHeld => ?_)
  clear hK K
  (try simp only [Act.put, List.setIfInBounds_toArray, List.set_cons_zero, List.set_cons_succ])
  refine wpAnyH_done (by kernel_rfl) ?_ _
  clear qa qg0 qg1 qg2 qy0 qy1 qy2 qy3 x0 x1 x2 x3
  have HX4 : Hid (Bx ((((w3.setCell ⟨w.heap.size, 0, none⟩ (.int .i64 y0)).setCell ⟨w.heap.size, 1, none⟩ (.int .i64 y1)).setCell ⟨w.heap.size, 2, none⟩ (.int .i64 y2)).setCell ⟨w.heap.size, 3, none⟩ (.int .i64 y3)) w.heap.size 66 #[.int .i64 y0, .int .i64 y1, .int .i64 y2, .int .i64 y3]) := Lib.hid (by
    have h1 := heap_setCell_same w3 w.heap.size 0 _ _ (.int .i64 y0) HX3.out
    have h2 := heap_setCell_same _ w.heap.size 1 _ _ (.int .i64 y1) h1
    have h3 := heap_setCell_same _ w.heap.size 2 _ _ (.int .i64 y2) h2
    have h4 := heap_setCell_same _ w.heap.size 3 _ _ (.int .i64 y3) h3
    simpa [Bx] using h4)
  obtain ⟨x0, x1, x2, x3⟩ := bx4 HX4.out
  go_wp2
  exact bodyPost_ret (v := .agg #[.int .i64 y0, .int .i64 y1, .int .i64 y2, .int .i64 y3]) (by simp [results, Try.results57, go_sem, x0, x1, x2, x3]) rfl ⟨rfl, by (repeat' (first | (exact HB3.out) | (refine Below.setCell ?_ (by first | omega | (simp; done) | (simp; omega)) _) | (refine below_dn ?_ _) | (refine Below.drew ?_) | (refine Below.alloc ?_ (by first | omega | (simp; done) | (simp; omega)) _) | (exact Below.refl _ _)))⟩
theorem mx_lt {xs : List Int} {n : Int} (h0 : 0 < xs.length) (hb : ∀ j, j < xs.length → 0 ≤ xs.getD j 0 ∧ xs.getD j 0 ≤ 255) : allB 0 (n - 1) xs = !decide (mx xs xs.length ≥ n) := by
  by_cases h : mx xs xs.length ≥ n
  · rw [decide_eq_true h]
    obtain ⟨j, hj, e⟩ := mx_in xs h0 xs.length (Nat.le_refl _)
    exact (allB_no (lo := 0) (hi := n - 1) hj) (by omega)
  · rw [decide_eq_false h]
    exact allB_yes (lo := 0) (hi := n - 1) (fun j hj => by have h1 := hb j hj; have h2 := mx_ge xs xs.length j hj; omega)
set_option maxHeartbeats 16000000 in
theorem i_ColorImage (W H P a : Int) (A : Option Addr) (c : Nat) (xs : List Int) (A2 : Option Addr) (n0 c2 : Nat) (xss : List (List Int)) (w : World) (hx : Rds .i64 w w.heap.size A xs) (hl : xs.length ≤ 2000000) (hlc : xs.length ≤ c) (hs : Rdss w w.heap.size A2 xss) (hn2 : n0 = xss.length) (ht : tot xss ≤ 2000000) :
    Calls Try.prog 17 #[.agg #[.int .i64 W, .int .i64 H, .int .i64 P, .slice A xs.length c], .slice A2 n0 c2, .int .i64 a] w (ColR (ciOk W H P xs xss a) W H a (ciL W.toNat H.toNat a.toNat xs xss) w) := by
  have HX := Lib.hid hx
  have HV : Hid (ciOk W H P xs xss a = (vim W H P xs && (decide (P = 1) && (decide (1 ≤ a ∧ a ≤ 4) && (palB xss a && allB 0 ((xss.length : Int) - 1) xs))))) := Lib.hid rfl
  have S0 : GS w ((w.alloc (.cells #[.int .i64 W, .int .i64 H, .int .i64 P, .slice A xs.length c] 25)).alloc (.cells #[.int .i64 0, .int .i64 0, .int .i64 0, .slice none 0 0] 25)) [] [⟨(w.heap.size + 1), 25, #[.int .i64 0, .int .i64 0, .int .i64 0, .slice none 0 0]⟩, ⟨w.heap.size, 25, #[.int .i64 W, .int .i64 H, .int .i64 P, .slice A xs.length c]⟩] := GS.box' (GS.box' (GS.start w) 25 #[.int .i64 W, .int .i64 H, .int .i64 P, .slice A xs.length c] w.heap.size (by simp)) 25 #[.int .i64 0, .int .i64 0, .int .i64 0, .slice none 0 0] (w.heap.size + 1) (by simp)
  have Eg : Hid (∀ args w, (callFunc 57 args).run Try.prog w = .ok (.enter 57 args) w) := Lib.hid (enters_of Try.func57 (by kernel_rfl) rfl)
  have HCO := Lib.hid (iClr_any A2 c2 n0 xss a _ hn2 (S0.argSS2 hs) ht)
  clear hx hs hn2 ht
  go_enter Try.func17, Try.ntmps17
  go_wp2_with fail
  generalize (w.alloc (.cells #[.int .i64 W, .int .i64 H, .int .i64 P, .slice A xs.length c] 25)).alloc (.cells #[.int .i64 0, .int .i64 0, .int .i64 0, .slice none 0 0] 25) = u0 at *
  refine HCO.out.mono ?_
  rintro e u1 ⟨hB, hor⟩
  clear HCO
  rcases hor with ⟨hno, rfl⟩ | ⟨ha, hpal, v, rfl, hO⟩
  · have Hv : Hid (ciOk W H P xs xss a = false) := Lib.hid (by
      rw [HV.out]
      cases h1 : decide (1 ≤ a ∧ a ≤ 4)
      · simp
      · rw [h1, Bool.true_and] at hno
        rw [hno]; simp)
    clear HV hno
    obtain ⟨cb, hcb⟩ : ∃ cb, cb = u1.heap.size := ⟨_, rfl⟩
    have S1 := GS.box' (S0.call hB) 61 #[.slice none 0 0] cb hcb
    clear S0 hB
    go_upto_region 2 with fail
    rw [← hcb]
    generalize u1.alloc (.cells #[.slice none 0 0] 61) = u2 at *
    clear hcb
    have HC := Lib.hid S1.drew
    clear S1
    refine wp_region_held_drew (S := (fun _ => True)) (by kernel_rfl) (by exact trivial) (fun hHeld => ?_)
    refine' wpAnyH_take (i := 0) (oi := _) (v := _) ?hi9 (by kernel_rfl) (by kernel_rfl) (by kernel_rfl) ?hq9 (Or.inl ⟨?hw9, ?hy9⟩) (by assumption) ?rest9
    case hi9 => (simp only [List.getElem?_toArray, List.getElem?_cons_succ, List.getElem?_cons_zero]; rfl)
    case hq9 => exact fun _ _ _ h => h
    case hw9 => rfl
    case hy9 => (intro wq hSw; (try dsimp only at hSw); go_simp; (try with_reducible rfl))
    (try simp only [Act.put, List.setIfInBounds_toArray, List.set_cons_zero, List.set_cons_succ])
    refine' wpAnyH_take (i := 1) (oi := _) (v := Value.bool true) ?hi10 (by kernel_rfl) (by kernel_rfl) (by kernel_rfl) ?hq10 (Or.inl ⟨?hw10, ?hy10⟩) (by assumption) ?rest10
    case hi10 => (simp only [List.getElem?_toArray, List.getElem?_cons_succ, List.getElem?_cons_zero]; rfl)
    case hq10 => exact fun _ _ _ h => h
    case hw10 => rfl
    case hy10 => (intro wq hSw; (try dsimp only at hSw); (try go_simp); (first | done | (with_reducible rfl) | rfl | simp))
    (try simp only [Act.put, List.setIfInBounds_toArray, List.set_cons_zero, List.set_cons_succ])
    refine' wpAnyH_take (i := 2) (oi := _) (v := Value.bool true) ?hi11 (by kernel_rfl) (by kernel_rfl) (by kernel_rfl) ?hq11 (Or.inl ⟨?hw11, ?hy11⟩) (by assumption) ?rest11
    case hi11 => (simp only [List.getElem?_toArray, List.getElem?_cons_succ, List.getElem?_cons_zero]; rfl)
    case hq11 => exact fun _ _ _ h => h
    case hw11 => rfl
    case hy11 => (intro wq hSw; (try dsimp only at hSw); (try go_simp); (first | done | (with_reducible rfl) | rfl | simp))
    (try simp only [Act.put, List.setIfInBounds_toArray, List.set_cons_zero, List.set_cons_succ])
    refine' wpAnyH_take (i := 3) (oi := _) (v := undef) ?hi12 (by kernel_rfl) (by kernel_rfl) (by kernel_rfl) ?hq12 (Or.inr ?hw12) (by assumption) ?rest12
    case hi12 => (simp only [List.getElem?_toArray, List.getElem?_cons_succ, List.getElem?_cons_zero]; rfl)
    case hq12 => exact fun _ _ _ h => h
    case hw12 => exact ⟨rfl, rfl⟩
    (try simp only [Act.put, List.setIfInBounds_toArray, List.set_cons_zero, List.set_cons_succ])
    refine' wpAnyH_take (i := 4) (oi := _) (v := undef) ?hi13 (by kernel_rfl) (by kernel_rfl) (by kernel_rfl) ?hq13 (Or.inr ?hw13) (by assumption) ?rest13
    case hi13 => (simp only [List.getElem?_toArray, List.getElem?_cons_succ, List.getElem?_cons_zero]; rfl)
    case hq13 => exact fun _ _ _ h => h
    case hw13 => exact ⟨rfl, rfl⟩
    (try simp only [Act.put, List.setIfInBounds_toArray, List.set_cons_zero, List.set_cons_succ])
    refine' wpAnyH_take (i := 5) (oi := _) (v := undef) ?hi14 (by kernel_rfl) (by kernel_rfl) (by kernel_rfl) ?hq14 (Or.inr ?hw14) (by assumption) ?rest14
    case hi14 => (simp only [List.getElem?_toArray, List.getElem?_cons_succ, List.getElem?_cons_zero]; rfl)
    case hq14 => exact fun _ _ _ h => h
    case hw14 => exact ⟨rfl, rfl⟩
    (try simp only [Act.put, List.setIfInBounds_toArray, List.set_cons_zero, List.set_cons_succ])
    refine' wpAnyH_take (i := 6) (oi := _) (v := Value.bool true) ?hi15 (by kernel_rfl) (by kernel_rfl) (by kernel_rfl) ?hq15 (Or.inl ⟨?hw15, ?hy15⟩) (by assumption) ?rest15
    case hi15 => (simp only [List.getElem?_toArray, List.getElem?_cons_succ, List.getElem?_cons_zero]; rfl)
    case hq15 => exact fun _ _ _ h => h
    case hw15 => rfl
    case hy15 => (intro wq hSw; (try dsimp only at hSw); (try go_simp); (first | done | (with_reducible rfl) | rfl | simp))
    (try simp only [Act.put, List.setIfInBounds_toArray, List.set_cons_zero, List.set_cons_succ])
    refine' wpAnyH_take (i := 7) (oi := _) (v := Value.bool true) ?hi16 (by kernel_rfl) (by kernel_rfl) (by kernel_rfl) ?hq16 (Or.inl ⟨?hw16, ?hy16⟩) (by assumption) ?rest16
    case hi16 => (simp only [List.getElem?_toArray, List.getElem?_cons_succ, List.getElem?_cons_zero]; rfl)
    case hq16 => exact fun _ _ _ h => h
    case hw16 => rfl
    case hy16 => (intro wq hSw; (try dsimp only at hSw); (try go_simp); (first | done | (with_reducible rfl) | rfl | simp))
    (try simp only [Act.put, List.setIfInBounds_toArray, List.set_cons_zero, List.set_cons_succ])
    refine' wpAnyH_take (i := 8) (oi := _) (v := undef) ?hi17 (by kernel_rfl) (by kernel_rfl) (by kernel_rfl) ?hq17 (Or.inr ?hw17) (by assumption) ?rest17
    case hi17 => (simp only [List.getElem?_toArray, List.getElem?_cons_succ, List.getElem?_cons_zero]; rfl)
    case hq17 => exact fun _ _ _ h => h
    case hw17 => exact ⟨rfl, rfl⟩
    (try simp only [Act.put, List.setIfInBounds_toArray, List.set_cons_zero, List.set_cons_succ])
    refine' wpAnyH_take (i := 9) (oi := _) (v := undef) ?hi18 (by kernel_rfl) (by kernel_rfl) (by kernel_rfl) ?hq18 (Or.inr ?hw18) (by assumption) ?rest18
    case hi18 => (simp only [List.getElem?_toArray, List.getElem?_cons_succ, List.getElem?_cons_zero]; rfl)
    case hq18 => exact fun _ _ _ h => h
    case hw18 => exact ⟨rfl, rfl⟩
    (try simp only [Act.put, List.setIfInBounds_toArray, List.set_cons_zero, List.set_cons_succ])
    refine' wpAnyH_take (i := 10) (oi := _) (v := undef) ?hi19 (by kernel_rfl) (by kernel_rfl) (by kernel_rfl) ?hq19 (Or.inr ?hw19) (by assumption) ?rest19
    case hi19 => (simp only [List.getElem?_toArray, List.getElem?_cons_succ, List.getElem?_cons_zero]; rfl)
    case hq19 => exact fun _ _ _ h => h
    case hw19 => exact ⟨rfl, rfl⟩
    (try simp only [Act.put, List.setIfInBounds_toArray, List.set_cons_zero, List.set_cons_succ])
    refine' wpAnyH_take (i := 11) (oi := _) (v := undef) ?hi20 (by kernel_rfl) (by kernel_rfl) (by kernel_rfl) ?hq20 (Or.inr ?hw20) (by assumption) ?rest20
    case hi20 => (simp only [List.getElem?_toArray, List.getElem?_cons_succ, List.getElem?_cons_zero]; rfl)
    case hq20 => exact fun _ _ _ h => h
    case hw20 => exact ⟨rfl, rfl⟩
    (try simp only [Act.put, List.setIfInBounds_toArray, List.set_cons_zero, List.set_cons_succ])
    refine' wpAnyH_take (i := 12) (oi := _) (v := undef) ?hi21 (by kernel_rfl) (by kernel_rfl) (by kernel_rfl) ?hq21 (Or.inr ?hw21) (by assumption) ?rest21
    case hi21 => (simp only [List.getElem?_toArray, List.getElem?_cons_succ, List.getElem?_cons_zero]; rfl)
    case hq21 => exact fun _ _ _ h => h
    case hw21 => exact ⟨rfl, rfl⟩
    (try simp only [Act.put, List.setIfInBounds_toArray, List.set_cons_zero, List.set_cons_succ])
    refine' wpAnyH_take (i := 13) (oi := _) (v := undef) ?hi22 (by kernel_rfl) (by kernel_rfl) (by kernel_rfl) ?hq22 (Or.inr ?hw22) (by assumption) ?rest22
    case hi22 => (simp only [List.getElem?_toArray, List.getElem?_cons_succ, List.getElem?_cons_zero]; rfl)
    case hq22 => exact fun _ _ _ h => h
    case hw22 => exact ⟨rfl, rfl⟩
    (try simp only [Act.put, List.setIfInBounds_toArray, List.set_cons_zero, List.set_cons_succ])
    refine' wpAnyH_take (i := 14) (oi := _) (v := Value.bool true) ?hi23 (by kernel_rfl) (by kernel_rfl) (by kernel_rfl) ?hq23 (Or.inl ⟨?hw23, ?hy23⟩) (by assumption) ?rest23
    case hi23 => (simp only [List.getElem?_toArray, List.getElem?_cons_succ, List.getElem?_cons_zero]; rfl)
    case hq23 => exact fun _ _ _ h => h
    case hw23 => rfl
    case hy23 => (intro wq hSw; (try dsimp only at hSw); (try go_simp); (first | done | (with_reducible rfl) | rfl | simp))
    (try simp only [Act.put, List.setIfInBounds_toArray, List.set_cons_zero, List.set_cons_succ])
    refine wpAnyH_done (by kernel_rfl) ?_ _
    have HC2 := HC.out
    clear HC hHeld
    generalize u2.drew = u3 at *
    obtain ⟨r0, r1, r2, r3⟩ := HC2.b1_4
    have f0 := HC2.f1 0
    have f1 := HC2.f1 1
    have f2 := HC2.f1 2
    have f3 := HC2.f1 3
    have HE := Lib.hid (HC2.e1_4 (.int .i64 0) (.int .i64 0) (.int .i64 0) (.slice none 0 0))
    clear HC2
    go_wp2
    exact bodyPost_ret (v := .tuple #[.agg #[.int .i64 0, .int .i64 0, .int .i64 0, .slice none 0 0], .bool false]) (by simp [results, Try.results17, go_sem, r0, r1, r2, r3]) rfl (ColR.no Hv.out HE.out.1)
  · have HPal := Lib.hid hpal
    have HA := Lib.hid ha
    have hpo := palB_of hpal
    have S1 := S0.addR hO hB
    obtain ⟨A6, c6, rfl, hc6⟩ := hO.slice
    obtain ⟨lo6, hlo6⟩ : ∃ lo6, lo6 = u0.heap.size := ⟨_, rfl⟩
    obtain ⟨hi6, hhi6⟩ : ∃ hi6, hi6 = u1.heap.size := ⟨_, rfl⟩
    obtain ⟨cb, hcb⟩ : ∃ cb, cb = u1.heap.size := ⟨_, rfl⟩
    obtain ⟨n2, hn2⟩ : ∃ n2, n2 = xss.length := ⟨_, rfl⟩
    rw [← hlo6, ← hhi6, ← hn2] at S1
    rw [← hn2] at hc6 hpo ⊢
    have S2 := GS.box' S1 61 #[.slice A6 n2 c6] cb hcb
    have HS2 : Hid (GS w (u1.alloc (.cells #[.slice A6 n2 c6] 61)) [rt 66 4 lo6 hi6 (.slice A6 n2 c6) n2 (clr xss n2)] [⟨cb, 61, #[.slice A6 n2 c6]⟩, ⟨(w.heap.size + 1), 25, #[.int .i64 0, .int .i64 0, .int .i64 0, .slice none 0 0]⟩, ⟨w.heap.size, 25, #[.int .i64 W, .int .i64 H, .int .i64 P, .slice A xs.length c]⟩]) := Lib.hid S2
    have HCl := Lib.hid hpo.2
    have hn16 := hpo.1
    have Hn2 := Lib.hid hn2
    clear S0 S1 S2 hB hO ha hpal hpo hn2 hlo6 hhi6
    go_upto_region 2 with fail
    rw [← hcb]
    generalize u1.alloc (.cells #[.slice A6 n2 c6] 61) = u2 at *
    clear hcb
    have HC := Lib.hid HS2.out.drew
    clear HS2
    cases hvp : vpl W H P xs
    · have HVP := Lib.hid hvp
      have Hv : Hid (ciOk W H P xs xss a = false) := Lib.hid (by
        rw [HV.out]
        unfold vpl at hvp
        cases h1 : vim W H P xs
        · rfl
        · rw [h1, Bool.true_and] at hvp
          rw [hvp]; rfl)
      clear HV hvp
      refine wp_region_held_drew (S := (fun w' => w'.cell? ⟨w.heap.size, 0, none⟩ = some (.int .i64 W) ∧ w'.cell? ⟨w.heap.size, 1, none⟩ = some (.int .i64 H) ∧ w'.cell? ⟨w.heap.size, 2, none⟩ = some (.int .i64 P) ∧ w'.cell? ⟨w.heap.size, 3, none⟩ = some (.slice A xs.length c) ∧ w'.cell? ⟨cb, 0, none⟩ = some (.slice A6 n2 c6))) (by kernel_rfl) (by exact ⟨HC.out.b2_4.1, HC.out.b2_4.2.1, HC.out.b2_4.2.2.1, HC.out.b2_4.2.2.2, bx1 HC.out.x0⟩) (fun hHeld => ?_)
      refine' wpAnyH_take (i := 0) (oi := _) (v := _) ?hi24 (by kernel_rfl) (by kernel_rfl) (by kernel_rfl) ?hq24 (Or.inl ⟨?hw24, ?hy24⟩) (by assumption) ?rest24
      case hi24 => (simp only [List.getElem?_toArray, List.getElem?_cons_succ, List.getElem?_cons_zero]; rfl)
      case hq24 => exact fun _ _ _ h => h
      case hw24 => rfl
      case hy24 => (intro wq hSw; (try dsimp only at hSw); go_simp; (try with_reducible rfl))
      (try simp only [Act.put, List.setIfInBounds_toArray, List.set_cons_zero, List.set_cons_succ])
      refine' wpAnyH_take (i := 1) (oi := _) (v := Value.bool false) ?hi25 (by kernel_rfl) (by kernel_rfl) (by kernel_rfl) ?hq25 (Or.inl ⟨?hw25, ?hy25⟩) (by assumption) ?rest25
      case hi25 => (simp only [List.getElem?_toArray, List.getElem?_cons_succ, List.getElem?_cons_zero]; rfl)
      case hq25 => exact fun _ _ _ h => h
      case hw25 => rfl
      case hy25 => (intro wq hSw; (try dsimp only at hSw); (try go_simp); (first | done | (with_reducible rfl) | rfl | simp))
      (try simp only [Act.put, List.setIfInBounds_toArray, List.set_cons_zero, List.set_cons_succ])
      refine' wpAnyH_take (i := 2) (oi := _) (v := Value.bool false) ?hi26 (by kernel_rfl) (by kernel_rfl) (by kernel_rfl) ?hq26 (Or.inl ⟨?hw26, ?hy26⟩) (by assumption) ?rest26
      case hi26 => (simp only [List.getElem?_toArray, List.getElem?_cons_succ, List.getElem?_cons_zero]; rfl)
      case hq26 => exact fun _ _ _ h => h
      case hw26 => rfl
      case hy26 => (intro wq hSw; (try dsimp only at hSw); (try go_simp); (first | done | (with_reducible rfl) | rfl | simp))
      (try simp only [Act.put, List.setIfInBounds_toArray, List.set_cons_zero, List.set_cons_succ])
      refine' wpAnyH_take (i := 3) (oi := _) (v := _) ?hi27 (by kernel_rfl) (by kernel_rfl) (by kernel_rfl) ?hq27 (Or.inl ⟨?hw27, ?hy27⟩) (by assumption) ?rest27
      case hi27 => (simp only [List.getElem?_toArray, List.getElem?_cons_succ, List.getElem?_cons_zero]; rfl)
      case hq27 => exact fun _ _ _ h => h
      case hw27 => rfl
      case hy27 => (intro wq hSw; (try dsimp only at hSw); go_simp; (try with_reducible rfl))
      (try simp only [Act.put, List.setIfInBounds_toArray, List.set_cons_zero, List.set_cons_succ])
      refine wpAnyH_ready (rs := [4]) (by kernel_rfl) (by simp) ?_
      refine' AllReadyH.cons (o := _) ?hi28 (fun K hK => ?rest28) AllReadyH.nil
      case hi28 => (simp only [List.getElem?_toArray, List.getElem?_cons_succ, List.getElem?_cons_zero]; rfl)
      go_simp
      go_at_call 52
      refine (iVplane_any W H P A c xs _ (HC.out.arg HX.out) hl).mono ?_
      rintro e u5 ⟨rfl, hB5⟩
      have HD := Lib.hid (HC.out.call hB5)
      clear HC hB5
      have HC := HD
      clear HD
      rw [HVP.out]
      go_wp2_with fail
      refine hK.out _ _ (by (try dsimp only); exact ⟨HC.out.b2_4.1, HC.out.b2_4.2.1, HC.out.b2_4.2.2.1, HC.out.b2_4.2.2.2, bx1 HC.out.x0⟩) (fun hHeld => ?_)
      clear hK K
      (try simp only [Act.put, List.setIfInBounds_toArray, List.set_cons_zero, List.set_cons_succ])
      refine' wpAnyH_take (i := 5) (oi := _) (v := Value.bool true) ?hi29 (by kernel_rfl) (by kernel_rfl) (by kernel_rfl) ?hq29 (Or.inl ⟨?hw29, ?hy29⟩) (by assumption) ?rest29
      case hi29 => (simp only [List.getElem?_toArray, List.getElem?_cons_succ, List.getElem?_cons_zero]; rfl)
      case hq29 => exact fun _ _ _ h => h
      case hw29 => rfl
      case hy29 => (intro wq hSw; (try dsimp only at hSw); (try go_simp); (first | done | (with_reducible rfl) | rfl | simp))
      (try simp only [Act.put, List.setIfInBounds_toArray, List.set_cons_zero, List.set_cons_succ])
      refine' wpAnyH_take (i := 6) (oi := _) (v := Value.bool true) ?hi30 (by kernel_rfl) (by kernel_rfl) (by kernel_rfl) ?hq30 (Or.inl ⟨?hw30, ?hy30⟩) (by assumption) ?rest30
      case hi30 => (simp only [List.getElem?_toArray, List.getElem?_cons_succ, List.getElem?_cons_zero]; rfl)
      case hq30 => exact fun _ _ _ h => h
      case hw30 => rfl
      case hy30 => (intro wq hSw; (try dsimp only at hSw); (try go_simp); (first | done | (with_reducible rfl) | rfl | simp))
      (try simp only [Act.put, List.setIfInBounds_toArray, List.set_cons_zero, List.set_cons_succ])
      refine' wpAnyH_take (i := 7) (oi := _) (v := Value.bool true) ?hi31 (by kernel_rfl) (by kernel_rfl) (by kernel_rfl) ?hq31 (Or.inl ⟨?hw31, ?hy31⟩) (by assumption) ?rest31
      case hi31 => (simp only [List.getElem?_toArray, List.getElem?_cons_succ, List.getElem?_cons_zero]; rfl)
      case hq31 => exact fun _ _ _ h => h
      case hw31 => rfl
      case hy31 => (intro wq hSw; (try dsimp only at hSw); (try go_simp); (first | done | (with_reducible rfl) | rfl | simp))
      (try simp only [Act.put, List.setIfInBounds_toArray, List.set_cons_zero, List.set_cons_succ])
      refine' wpAnyH_take (i := 8) (oi := _) (v := undef) ?hi32 (by kernel_rfl) (by kernel_rfl) (by kernel_rfl) ?hq32 (Or.inr ?hw32) (by assumption) ?rest32
      case hi32 => (simp only [List.getElem?_toArray, List.getElem?_cons_succ, List.getElem?_cons_zero]; rfl)
      case hq32 => exact fun _ _ _ h => h
      case hw32 => exact ⟨rfl, rfl⟩
      (try simp only [Act.put, List.setIfInBounds_toArray, List.set_cons_zero, List.set_cons_succ])
      refine' wpAnyH_take (i := 9) (oi := _) (v := undef) ?hi33 (by kernel_rfl) (by kernel_rfl) (by kernel_rfl) ?hq33 (Or.inr ?hw33) (by assumption) ?rest33
      case hi33 => (simp only [List.getElem?_toArray, List.getElem?_cons_succ, List.getElem?_cons_zero]; rfl)
      case hq33 => exact fun _ _ _ h => h
      case hw33 => exact ⟨rfl, rfl⟩
      (try simp only [Act.put, List.setIfInBounds_toArray, List.set_cons_zero, List.set_cons_succ])
      refine' wpAnyH_take (i := 10) (oi := _) (v := undef) ?hi34 (by kernel_rfl) (by kernel_rfl) (by kernel_rfl) ?hq34 (Or.inr ?hw34) (by assumption) ?rest34
      case hi34 => (simp only [List.getElem?_toArray, List.getElem?_cons_succ, List.getElem?_cons_zero]; rfl)
      case hq34 => exact fun _ _ _ h => h
      case hw34 => exact ⟨rfl, rfl⟩
      (try simp only [Act.put, List.setIfInBounds_toArray, List.set_cons_zero, List.set_cons_succ])
      refine' wpAnyH_take (i := 11) (oi := _) (v := undef) ?hi35 (by kernel_rfl) (by kernel_rfl) (by kernel_rfl) ?hq35 (Or.inr ?hw35) (by assumption) ?rest35
      case hi35 => (simp only [List.getElem?_toArray, List.getElem?_cons_succ, List.getElem?_cons_zero]; rfl)
      case hq35 => exact fun _ _ _ h => h
      case hw35 => exact ⟨rfl, rfl⟩
      (try simp only [Act.put, List.setIfInBounds_toArray, List.set_cons_zero, List.set_cons_succ])
      refine' wpAnyH_take (i := 12) (oi := _) (v := undef) ?hi36 (by kernel_rfl) (by kernel_rfl) (by kernel_rfl) ?hq36 (Or.inr ?hw36) (by assumption) ?rest36
      case hi36 => (simp only [List.getElem?_toArray, List.getElem?_cons_succ, List.getElem?_cons_zero]; rfl)
      case hq36 => exact fun _ _ _ h => h
      case hw36 => exact ⟨rfl, rfl⟩
      (try simp only [Act.put, List.setIfInBounds_toArray, List.set_cons_zero, List.set_cons_succ])
      refine' wpAnyH_take (i := 13) (oi := _) (v := undef) ?hi37 (by kernel_rfl) (by kernel_rfl) (by kernel_rfl) ?hq37 (Or.inr ?hw37) (by assumption) ?rest37
      case hi37 => (simp only [List.getElem?_toArray, List.getElem?_cons_succ, List.getElem?_cons_zero]; rfl)
      case hq37 => exact fun _ _ _ h => h
      case hw37 => exact ⟨rfl, rfl⟩
      (try simp only [Act.put, List.setIfInBounds_toArray, List.set_cons_zero, List.set_cons_succ])
      refine' wpAnyH_take (i := 14) (oi := _) (v := Value.bool true) ?hi38 (by kernel_rfl) (by kernel_rfl) (by kernel_rfl) ?hq38 (Or.inl ⟨?hw38, ?hy38⟩) (by assumption) ?rest38
      case hi38 => (simp only [List.getElem?_toArray, List.getElem?_cons_succ, List.getElem?_cons_zero]; rfl)
      case hq38 => exact fun _ _ _ h => h
      case hw38 => rfl
      case hy38 => (intro wq hSw; (try dsimp only at hSw); (try go_simp); (first | done | (with_reducible rfl) | rfl | simp))
      (try simp only [Act.put, List.setIfInBounds_toArray, List.set_cons_zero, List.set_cons_succ])
      refine wpAnyH_done (by kernel_rfl) ?_ _
      have HC2 := HC.out
      clear HC
      obtain ⟨r0, r1, r2, r3⟩ := HC2.b1_4
      have f0 := HC2.f1 0
      have f1 := HC2.f1 1
      have f2 := HC2.f1 2
      have f3 := HC2.f1 3
      have HE := Lib.hid (HC2.e1_4 (.int .i64 0) (.int .i64 0) (.int .i64 0) (.slice none 0 0))
      clear HC2
      go_wp2
      exact bodyPost_ret (v := .tuple #[.agg #[.int .i64 0, .int .i64 0, .int .i64 0, .slice none 0 0], .bool false]) (by simp [results, Try.results17, go_sem, r0, r1, r2, r3]) rfl (ColR.no Hv.out HE.out.1)
    · have HVP := Lib.hid hvp
      have hvp2 : vim W H P xs = true ∧ P = 1 := by
        unfold vpl at hvp
        rw [Bool.and_eq_true] at hvp
        exact ⟨hvp.1, of_decide_eq_true hvp.2⟩
      have hvim := hvp2.1
      have hP1 := hvp2.2
      obtain ⟨W', H', P', eW, eH, eP, hW1, hW, hH1, hH, _, _, hln, hby⟩ := vim_nat hvim
      have hP'1 : P' = 1 := by omega
      subst hP'1
      rw [Nat.mul_one] at hln
      have Hpos : Hid (0 < xs.length) := Lib.hid (by rw [hln]; exact Nat.mul_pos hW1 hH1)
      have HBy := Lib.hid hby
      have HEq := Lib.hid (And.intro eW (And.intro eH hln))
      clear eW eH eP hln
      obtain ⟨mxv, hmx⟩ : ∃ m, m = mx xs xs.length := ⟨_, rfl⟩
      have HMx := Lib.hid hmx.symm
      have hmxb := mx_bd xs Hpos.out hby xs.length (Nat.le_refl _)
      rw [← hmx] at hmxb
      have hall := mx_lt (n := (xss.length : Int)) Hpos.out hby
      rw [← hmx, ← Hn2.out] at hall
      by_cases hge' : mxv ≥ (n2 : Int)
      · have hge : decide (mxv ≥ (n2 : Int)) = true := decide_eq_true hge'
        have Hv : Hid (ciOk W H P xs xss a = false) := Lib.hid (by rw [HV.out, ← Hn2.out, hall, hge]; simp)
        clear HV hvp hvp2 hvim hall hP1 hmx hby
        refine wp_region_held_drew (S := (fun w' => w'.cell? ⟨w.heap.size, 0, none⟩ = some (.int .i64 W) ∧ w'.cell? ⟨w.heap.size, 1, none⟩ = some (.int .i64 H) ∧ w'.cell? ⟨w.heap.size, 2, none⟩ = some (.int .i64 P) ∧ w'.cell? ⟨w.heap.size, 3, none⟩ = some (.slice A xs.length c) ∧ w'.cell? ⟨cb, 0, none⟩ = some (.slice A6 n2 c6))) (by kernel_rfl) (by exact ⟨HC.out.b2_4.1, HC.out.b2_4.2.1, HC.out.b2_4.2.2.1, HC.out.b2_4.2.2.2, bx1 HC.out.x0⟩) (fun hHeld => ?_)
        refine' wpAnyH_take (i := 0) (oi := _) (v := _) ?hi39 (by kernel_rfl) (by kernel_rfl) (by kernel_rfl) ?hq39 (Or.inl ⟨?hw39, ?hy39⟩) (by assumption) ?rest39
        case hi39 => (simp only [List.getElem?_toArray, List.getElem?_cons_succ, List.getElem?_cons_zero]; rfl)
        case hq39 => exact fun _ _ _ h => h
        case hw39 => rfl
        case hy39 => (intro wq hSw; (try dsimp only at hSw); go_simp; (try with_reducible rfl))
        (try simp only [Act.put, List.setIfInBounds_toArray, List.set_cons_zero, List.set_cons_succ])
        refine' wpAnyH_take (i := 1) (oi := _) (v := Value.bool false) ?hi40 (by kernel_rfl) (by kernel_rfl) (by kernel_rfl) ?hq40 (Or.inl ⟨?hw40, ?hy40⟩) (by assumption) ?rest40
        case hi40 => (simp only [List.getElem?_toArray, List.getElem?_cons_succ, List.getElem?_cons_zero]; rfl)
        case hq40 => exact fun _ _ _ h => h
        case hw40 => rfl
        case hy40 => (intro wq hSw; (try dsimp only at hSw); (try go_simp); (first | done | (with_reducible rfl) | rfl | simp))
        (try simp only [Act.put, List.setIfInBounds_toArray, List.set_cons_zero, List.set_cons_succ])
        refine' wpAnyH_take (i := 2) (oi := _) (v := Value.bool false) ?hi41 (by kernel_rfl) (by kernel_rfl) (by kernel_rfl) ?hq41 (Or.inl ⟨?hw41, ?hy41⟩) (by assumption) ?rest41
        case hi41 => (simp only [List.getElem?_toArray, List.getElem?_cons_succ, List.getElem?_cons_zero]; rfl)
        case hq41 => exact fun _ _ _ h => h
        case hw41 => rfl
        case hy41 => (intro wq hSw; (try dsimp only at hSw); (try go_simp); (first | done | (with_reducible rfl) | rfl | simp))
        (try simp only [Act.put, List.setIfInBounds_toArray, List.set_cons_zero, List.set_cons_succ])
        refine' wpAnyH_take (i := 3) (oi := _) (v := _) ?hi42 (by kernel_rfl) (by kernel_rfl) (by kernel_rfl) ?hq42 (Or.inl ⟨?hw42, ?hy42⟩) (by assumption) ?rest42
        case hi42 => (simp only [List.getElem?_toArray, List.getElem?_cons_succ, List.getElem?_cons_zero]; rfl)
        case hq42 => exact fun _ _ _ h => h
        case hw42 => rfl
        case hy42 => (intro wq hSw; (try dsimp only at hSw); go_simp; (try with_reducible rfl))
        (try simp only [Act.put, List.setIfInBounds_toArray, List.set_cons_zero, List.set_cons_succ])
        refine wpAnyH_ready (rs := [4]) (by kernel_rfl) (by simp) ?_
        refine' AllReadyH.cons (o := _) ?hi43 (fun K hK => ?rest43) AllReadyH.nil
        case hi43 => (simp only [List.getElem?_toArray, List.getElem?_cons_succ, List.getElem?_cons_zero]; rfl)
        go_simp
        go_at_call 52
        refine (iVplane_any W H P A c xs _ (HC.out.arg HX.out) hl).mono ?_
        rintro e u5 ⟨rfl, hB5⟩
        have HD := Lib.hid (HC.out.call hB5)
        clear HC hB5
        have HC := HD
        clear HD
        rw [HVP.out]
        go_wp2_with fail
        refine hK.out _ _ (by (try dsimp only); exact ⟨HC.out.b2_4.1, HC.out.b2_4.2.1, HC.out.b2_4.2.2.1, HC.out.b2_4.2.2.2, bx1 HC.out.x0⟩) (fun hHeld => ?_)
        clear hK K
        (try simp only [Act.put, List.setIfInBounds_toArray, List.set_cons_zero, List.set_cons_succ])
        refine' wpAnyH_take (i := 5) (oi := _) (v := Value.bool false) ?hi44 (by kernel_rfl) (by kernel_rfl) (by kernel_rfl) ?hq44 (Or.inl ⟨?hw44, ?hy44⟩) (by assumption) ?rest44
        case hi44 => (simp only [List.getElem?_toArray, List.getElem?_cons_succ, List.getElem?_cons_zero]; rfl)
        case hq44 => exact fun _ _ _ h => h
        case hw44 => rfl
        case hy44 => (intro wq hSw; (try dsimp only at hSw); (try go_simp); (first | done | (with_reducible rfl) | rfl | simp))
        (try simp only [Act.put, List.setIfInBounds_toArray, List.set_cons_zero, List.set_cons_succ])
        refine' wpAnyH_take (i := 6) (oi := _) (v := Value.bool false) ?hi45 (by kernel_rfl) (by kernel_rfl) (by kernel_rfl) ?hq45 (Or.inl ⟨?hw45, ?hy45⟩) (by assumption) ?rest45
        case hi45 => (simp only [List.getElem?_toArray, List.getElem?_cons_succ, List.getElem?_cons_zero]; rfl)
        case hq45 => exact fun _ _ _ h => h
        case hw45 => rfl
        case hy45 => (intro wq hSw; (try dsimp only at hSw); (try go_simp); (first | done | (with_reducible rfl) | rfl | simp))
        (try simp only [Act.put, List.setIfInBounds_toArray, List.set_cons_zero, List.set_cons_succ])
        refine' wpAnyH_take (i := 7) (oi := _) (v := Value.bool false) ?hi46 (by kernel_rfl) (by kernel_rfl) (by kernel_rfl) ?hq46 (Or.inl ⟨?hw46, ?hy46⟩) (by assumption) ?rest46
        case hi46 => (simp only [List.getElem?_toArray, List.getElem?_cons_succ, List.getElem?_cons_zero]; rfl)
        case hq46 => exact fun _ _ _ h => h
        case hw46 => rfl
        case hy46 => (intro wq hSw; (try dsimp only at hSw); (try go_simp); (first | done | (with_reducible rfl) | rfl | simp))
        (try simp only [Act.put, List.setIfInBounds_toArray, List.set_cons_zero, List.set_cons_succ])
        refine' wpAnyH_take (i := 8) (oi := _) (v := _) ?hi47 (by kernel_rfl) (by kernel_rfl) (by kernel_rfl) ?hq47 (Or.inl ⟨?hw47, ?hy47⟩) (by assumption) ?rest47
        case hi47 => (simp only [List.getElem?_toArray, List.getElem?_cons_succ, List.getElem?_cons_zero]; rfl)
        case hq47 => exact fun _ _ _ h => h
        case hw47 => rfl
        case hy47 => (intro wq hSw; (try dsimp only at hSw); go_simp; (try with_reducible rfl))
        (try simp only [Act.put, List.setIfInBounds_toArray, List.set_cons_zero, List.set_cons_succ])
        refine' wpAnyH_take (i := 9) (oi := _) (v := _) ?hi48 (by kernel_rfl) (by kernel_rfl) (by kernel_rfl) ?hq48 (Or.inl ⟨?hw48, ?hy48⟩) (by assumption) ?rest48
        case hi48 => (simp only [List.getElem?_toArray, List.getElem?_cons_succ, List.getElem?_cons_zero]; rfl)
        case hq48 => exact fun _ _ _ h => h
        case hw48 => rfl
        case hy48 => (intro wq hSw; (try dsimp only at hSw); go_simp; (try with_reducible rfl))
        (try simp only [Act.put, List.setIfInBounds_toArray, List.set_cons_zero, List.set_cons_succ])
        refine' wpAnyH_take (i := 11) (oi := _) (v := _) ?hi49 (by kernel_rfl) (by kernel_rfl) (by kernel_rfl) ?hq49 (Or.inl ⟨?hw49, ?hy49⟩) (by assumption) ?rest49
        case hi49 => (simp only [List.getElem?_toArray, List.getElem?_cons_succ, List.getElem?_cons_zero]; rfl)
        case hq49 => exact fun _ _ _ h => h
        case hw49 => rfl
        case hy49 => (intro wq hSw; (try dsimp only at hSw); go_simp; (try with_reducible rfl))
        (try simp only [Act.put, List.setIfInBounds_toArray, List.set_cons_zero, List.set_cons_succ])
        refine' wpAnyH_take (i := 12) (oi := _) (v := _) ?hi50 (by kernel_rfl) (by kernel_rfl) (by kernel_rfl) ?hq50 (Or.inl ⟨?hw50, ?hy50⟩) (by assumption) ?rest50
        case hi50 => (simp only [List.getElem?_toArray, List.getElem?_cons_succ, List.getElem?_cons_zero]; rfl)
        case hq50 => exact fun _ _ _ h => h
        case hw50 => rfl
        case hy50 => (intro wq hSw; (try dsimp only at hSw); go_simp; (try with_reducible rfl))
        (try simp only [Act.put, List.setIfInBounds_toArray, List.set_cons_zero, List.set_cons_succ])
        refine wpAnyH_ready (rs := [10]) (by kernel_rfl) (by simp) ?_
        refine' AllReadyH.cons (o := _) ?hi51 (fun K hK => ?rest51) AllReadyH.nil
        case hi51 => (simp only [List.getElem?_toArray, List.getElem?_cons_succ, List.getElem?_cons_zero]; rfl)
        go_simp
        go_at_call 53
        refine (smax_any A c xs _ Hpos.out (HC.out.arg HX.out) hl HBy.out).mono ?_
        rintro e u6 ⟨rfl, rfl⟩
        rw [HMx.out]
        go_wp2_with fail
        refine hK.out _ _ (by (try dsimp only); exact ⟨HC.out.b2_4.1, HC.out.b2_4.2.1, HC.out.b2_4.2.2.1, HC.out.b2_4.2.2.2, bx1 HC.out.x0⟩) (fun hHeld => ?_)
        clear hK K
        (try simp only [Act.put, List.setIfInBounds_toArray, List.set_cons_zero, List.set_cons_succ])
        refine' wpAnyH_take (i := 13) (oi := _) (v := Value.bool true) ?hi52 (by kernel_rfl) (by kernel_rfl) (by kernel_rfl) ?hq52 (Or.inl ⟨?hw52, ?hy52⟩) (by assumption) ?rest52
        case hi52 => (simp only [List.getElem?_toArray, List.getElem?_cons_succ, List.getElem?_cons_zero]; rfl)
        case hq52 => exact fun _ _ _ h => h
        case hw52 => rfl
        case hy52 => (intro wq hSw; (try dsimp only at hSw); (try go_simp); (first | done | (with_reducible rfl) | rfl | exact hge | rw [hge] | simp))
        (try simp only [Act.put, List.setIfInBounds_toArray, List.set_cons_zero, List.set_cons_succ])
        refine' wpAnyH_take (i := 14) (oi := _) (v := Value.bool true) ?hi53 (by kernel_rfl) (by kernel_rfl) (by kernel_rfl) ?hq53 (Or.inl ⟨?hw53, ?hy53⟩) (by assumption) ?rest53
        case hi53 => (simp only [List.getElem?_toArray, List.getElem?_cons_succ, List.getElem?_cons_zero]; rfl)
        case hq53 => exact fun _ _ _ h => h
        case hw53 => rfl
        case hy53 => (intro wq hSw; (try dsimp only at hSw); (try go_simp); (first | done | (with_reducible rfl) | rfl | simp))
        (try simp only [Act.put, List.setIfInBounds_toArray, List.set_cons_zero, List.set_cons_succ])
        refine wpAnyH_done (by kernel_rfl) ?_ _
        have HC2 := HC.out
        clear HC
        obtain ⟨r0, r1, r2, r3⟩ := HC2.b1_4
        have f0 := HC2.f1 0
        have f1 := HC2.f1 1
        have f2 := HC2.f1 2
        have f3 := HC2.f1 3
        have HE := Lib.hid (HC2.e1_4 (.int .i64 0) (.int .i64 0) (.int .i64 0) (.slice none 0 0))
        clear HC2
        go_wp2
        exact bodyPost_ret (v := .tuple #[.agg #[.int .i64 0, .int .i64 0, .int .i64 0, .slice none 0 0], .bool false]) (by simp [results, Try.results17, go_sem, r0, r1, r2, r3]) rfl (ColR.no Hv.out HE.out.1)
      · have hge : decide (mxv ≥ (n2 : Int)) = false := decide_eq_false hge'
        have Hv : Hid (ciOk W H P xs xss a = true) := Lib.hid (by rw [HV.out, hvim, decide_eq_true hP1, decide_eq_true HA.out, HPal.out, ← Hn2.out, hall, hge]; rfl)
        have HVn : Hid (∀ k, k < xs.length → ∃ vn : Nat, xs.getD k 0 = (vn : Int) ∧ vn < n2) := Lib.hid (fun k hk => by
          have h1 := hby k hk
          have h2 := mx_ge xs xs.length k hk
          exact ⟨(xs.getD k 0).toNat, by omega, by omega⟩)
        have HP1 := Lib.hid hP1
        clear HV hvp hvp2 hvim hall hmx hP1 hby
        refine wp_region_held_drew (S := (fun w' => w'.cell? ⟨w.heap.size, 0, none⟩ = some (.int .i64 W) ∧ w'.cell? ⟨w.heap.size, 1, none⟩ = some (.int .i64 H) ∧ w'.cell? ⟨w.heap.size, 2, none⟩ = some (.int .i64 P) ∧ w'.cell? ⟨w.heap.size, 3, none⟩ = some (.slice A xs.length c) ∧ w'.cell? ⟨cb, 0, none⟩ = some (.slice A6 n2 c6))) (by kernel_rfl) (by exact ⟨HC.out.b2_4.1, HC.out.b2_4.2.1, HC.out.b2_4.2.2.1, HC.out.b2_4.2.2.2, bx1 HC.out.x0⟩) (fun hHeld => ?_)
        refine' wpAnyH_take (i := 0) (oi := _) (v := _) ?hi54 (by kernel_rfl) (by kernel_rfl) (by kernel_rfl) ?hq54 (Or.inl ⟨?hw54, ?hy54⟩) (by assumption) ?rest54
        case hi54 => (simp only [List.getElem?_toArray, List.getElem?_cons_succ, List.getElem?_cons_zero]; rfl)
        case hq54 => exact fun _ _ _ h => h
        case hw54 => rfl
        case hy54 => (intro wq hSw; (try dsimp only at hSw); go_simp; (try with_reducible rfl))
        (try simp only [Act.put, List.setIfInBounds_toArray, List.set_cons_zero, List.set_cons_succ])
        refine' wpAnyH_take (i := 1) (oi := _) (v := Value.bool false) ?hi55 (by kernel_rfl) (by kernel_rfl) (by kernel_rfl) ?hq55 (Or.inl ⟨?hw55, ?hy55⟩) (by assumption) ?rest55
        case hi55 => (simp only [List.getElem?_toArray, List.getElem?_cons_succ, List.getElem?_cons_zero]; rfl)
        case hq55 => exact fun _ _ _ h => h
        case hw55 => rfl
        case hy55 => (intro wq hSw; (try dsimp only at hSw); (try go_simp); (first | done | (with_reducible rfl) | rfl | simp))
        (try simp only [Act.put, List.setIfInBounds_toArray, List.set_cons_zero, List.set_cons_succ])
        refine' wpAnyH_take (i := 2) (oi := _) (v := Value.bool false) ?hi56 (by kernel_rfl) (by kernel_rfl) (by kernel_rfl) ?hq56 (Or.inl ⟨?hw56, ?hy56⟩) (by assumption) ?rest56
        case hi56 => (simp only [List.getElem?_toArray, List.getElem?_cons_succ, List.getElem?_cons_zero]; rfl)
        case hq56 => exact fun _ _ _ h => h
        case hw56 => rfl
        case hy56 => (intro wq hSw; (try dsimp only at hSw); (try go_simp); (first | done | (with_reducible rfl) | rfl | simp))
        (try simp only [Act.put, List.setIfInBounds_toArray, List.set_cons_zero, List.set_cons_succ])
        refine' wpAnyH_take (i := 3) (oi := _) (v := _) ?hi57 (by kernel_rfl) (by kernel_rfl) (by kernel_rfl) ?hq57 (Or.inl ⟨?hw57, ?hy57⟩) (by assumption) ?rest57
        case hi57 => (simp only [List.getElem?_toArray, List.getElem?_cons_succ, List.getElem?_cons_zero]; rfl)
        case hq57 => exact fun _ _ _ h => h
        case hw57 => rfl
        case hy57 => (intro wq hSw; (try dsimp only at hSw); go_simp; (try with_reducible rfl))
        (try simp only [Act.put, List.setIfInBounds_toArray, List.set_cons_zero, List.set_cons_succ])
        refine wpAnyH_ready (rs := [4]) (by kernel_rfl) (by simp) ?_
        refine' AllReadyH.cons (o := _) ?hi58 (fun K hK => ?rest58) AllReadyH.nil
        case hi58 => (simp only [List.getElem?_toArray, List.getElem?_cons_succ, List.getElem?_cons_zero]; rfl)
        go_simp
        go_at_call 52
        refine (iVplane_any W H P A c xs _ (HC.out.arg HX.out) hl).mono ?_
        rintro e u5 ⟨rfl, hB5⟩
        have HD := Lib.hid (HC.out.call hB5)
        clear HC hB5
        have HC := HD
        clear HD
        rw [HVP.out]
        go_wp2_with fail
        refine hK.out _ _ (by (try dsimp only); exact ⟨HC.out.b2_4.1, HC.out.b2_4.2.1, HC.out.b2_4.2.2.1, HC.out.b2_4.2.2.2, bx1 HC.out.x0⟩) (fun hHeld => ?_)
        clear hK K
        (try simp only [Act.put, List.setIfInBounds_toArray, List.set_cons_zero, List.set_cons_succ])
        refine' wpAnyH_take (i := 5) (oi := _) (v := Value.bool false) ?hi59 (by kernel_rfl) (by kernel_rfl) (by kernel_rfl) ?hq59 (Or.inl ⟨?hw59, ?hy59⟩) (by assumption) ?rest59
        case hi59 => (simp only [List.getElem?_toArray, List.getElem?_cons_succ, List.getElem?_cons_zero]; rfl)
        case hq59 => exact fun _ _ _ h => h
        case hw59 => rfl
        case hy59 => (intro wq hSw; (try dsimp only at hSw); (try go_simp); (first | done | (with_reducible rfl) | rfl | simp))
        (try simp only [Act.put, List.setIfInBounds_toArray, List.set_cons_zero, List.set_cons_succ])
        refine' wpAnyH_take (i := 6) (oi := _) (v := Value.bool false) ?hi60 (by kernel_rfl) (by kernel_rfl) (by kernel_rfl) ?hq60 (Or.inl ⟨?hw60, ?hy60⟩) (by assumption) ?rest60
        case hi60 => (simp only [List.getElem?_toArray, List.getElem?_cons_succ, List.getElem?_cons_zero]; rfl)
        case hq60 => exact fun _ _ _ h => h
        case hw60 => rfl
        case hy60 => (intro wq hSw; (try dsimp only at hSw); (try go_simp); (first | done | (with_reducible rfl) | rfl | simp))
        (try simp only [Act.put, List.setIfInBounds_toArray, List.set_cons_zero, List.set_cons_succ])
        refine' wpAnyH_take (i := 7) (oi := _) (v := Value.bool false) ?hi61 (by kernel_rfl) (by kernel_rfl) (by kernel_rfl) ?hq61 (Or.inl ⟨?hw61, ?hy61⟩) (by assumption) ?rest61
        case hi61 => (simp only [List.getElem?_toArray, List.getElem?_cons_succ, List.getElem?_cons_zero]; rfl)
        case hq61 => exact fun _ _ _ h => h
        case hw61 => rfl
        case hy61 => (intro wq hSw; (try dsimp only at hSw); (try go_simp); (first | done | (with_reducible rfl) | rfl | simp))
        (try simp only [Act.put, List.setIfInBounds_toArray, List.set_cons_zero, List.set_cons_succ])
        refine' wpAnyH_take (i := 8) (oi := _) (v := _) ?hi62 (by kernel_rfl) (by kernel_rfl) (by kernel_rfl) ?hq62 (Or.inl ⟨?hw62, ?hy62⟩) (by assumption) ?rest62
        case hi62 => (simp only [List.getElem?_toArray, List.getElem?_cons_succ, List.getElem?_cons_zero]; rfl)
        case hq62 => exact fun _ _ _ h => h
        case hw62 => rfl
        case hy62 => (intro wq hSw; (try dsimp only at hSw); go_simp; (try with_reducible rfl))
        (try simp only [Act.put, List.setIfInBounds_toArray, List.set_cons_zero, List.set_cons_succ])
        refine' wpAnyH_take (i := 9) (oi := _) (v := _) ?hi63 (by kernel_rfl) (by kernel_rfl) (by kernel_rfl) ?hq63 (Or.inl ⟨?hw63, ?hy63⟩) (by assumption) ?rest63
        case hi63 => (simp only [List.getElem?_toArray, List.getElem?_cons_succ, List.getElem?_cons_zero]; rfl)
        case hq63 => exact fun _ _ _ h => h
        case hw63 => rfl
        case hy63 => (intro wq hSw; (try dsimp only at hSw); go_simp; (try with_reducible rfl))
        (try simp only [Act.put, List.setIfInBounds_toArray, List.set_cons_zero, List.set_cons_succ])
        refine' wpAnyH_take (i := 11) (oi := _) (v := _) ?hi64 (by kernel_rfl) (by kernel_rfl) (by kernel_rfl) ?hq64 (Or.inl ⟨?hw64, ?hy64⟩) (by assumption) ?rest64
        case hi64 => (simp only [List.getElem?_toArray, List.getElem?_cons_succ, List.getElem?_cons_zero]; rfl)
        case hq64 => exact fun _ _ _ h => h
        case hw64 => rfl
        case hy64 => (intro wq hSw; (try dsimp only at hSw); go_simp; (try with_reducible rfl))
        (try simp only [Act.put, List.setIfInBounds_toArray, List.set_cons_zero, List.set_cons_succ])
        refine' wpAnyH_take (i := 12) (oi := _) (v := _) ?hi65 (by kernel_rfl) (by kernel_rfl) (by kernel_rfl) ?hq65 (Or.inl ⟨?hw65, ?hy65⟩) (by assumption) ?rest65
        case hi65 => (simp only [List.getElem?_toArray, List.getElem?_cons_succ, List.getElem?_cons_zero]; rfl)
        case hq65 => exact fun _ _ _ h => h
        case hw65 => rfl
        case hy65 => (intro wq hSw; (try dsimp only at hSw); go_simp; (try with_reducible rfl))
        (try simp only [Act.put, List.setIfInBounds_toArray, List.set_cons_zero, List.set_cons_succ])
        refine wpAnyH_ready (rs := [10]) (by kernel_rfl) (by simp) ?_
        refine' AllReadyH.cons (o := _) ?hi66 (fun K hK => ?rest66) AllReadyH.nil
        case hi66 => (simp only [List.getElem?_toArray, List.getElem?_cons_succ, List.getElem?_cons_zero]; rfl)
        go_simp
        go_at_call 53
        refine (smax_any A c xs _ Hpos.out (HC.out.arg HX.out) hl HBy.out).mono ?_
        rintro e u6 ⟨rfl, rfl⟩
        rw [HMx.out]
        go_wp2_with fail
        refine hK.out _ _ (by (try dsimp only); exact ⟨HC.out.b2_4.1, HC.out.b2_4.2.1, HC.out.b2_4.2.2.1, HC.out.b2_4.2.2.2, bx1 HC.out.x0⟩) (fun hHeld => ?_)
        clear hK K
        (try simp only [Act.put, List.setIfInBounds_toArray, List.set_cons_zero, List.set_cons_succ])
        refine' wpAnyH_take (i := 13) (oi := _) (v := Value.bool false) ?hi67 (by kernel_rfl) (by kernel_rfl) (by kernel_rfl) ?hq67 (Or.inl ⟨?hw67, ?hy67⟩) (by assumption) ?rest67
        case hi67 => (simp only [List.getElem?_toArray, List.getElem?_cons_succ, List.getElem?_cons_zero]; rfl)
        case hq67 => exact fun _ _ _ h => h
        case hw67 => rfl
        case hy67 => (intro wq hSw; (try dsimp only at hSw); (try go_simp); (first | done | (with_reducible rfl) | rfl | exact hge | rw [hge] | simp))
        (try simp only [Act.put, List.setIfInBounds_toArray, List.set_cons_zero, List.set_cons_succ])
        refine' wpAnyH_take (i := 14) (oi := _) (v := Value.bool false) ?hi68 (by kernel_rfl) (by kernel_rfl) (by kernel_rfl) ?hq68 (Or.inl ⟨?hw68, ?hy68⟩) (by assumption) ?rest68
        case hi68 => (simp only [List.getElem?_toArray, List.getElem?_cons_succ, List.getElem?_cons_zero]; rfl)
        case hq68 => exact fun _ _ _ h => h
        case hw68 => rfl
        case hy68 => (intro wq hSw; (try dsimp only at hSw); (try go_simp); (first | done | (with_reducible rfl) | rfl | simp))
        (try simp only [Act.put, List.setIfInBounds_toArray, List.set_cons_zero, List.set_cons_succ])
        refine wpAnyH_done (by kernel_rfl) ?_ _
        clear HMx hHeld hge hge' hmxb
        obtain ⟨rfl, rfl, hln⟩ := HEq.out
        have hP1 := HP1.out
        subst hP1
        obtain ⟨a', rfl⟩ := Int.eq_ofNat_of_zero_le (show 0 ≤ a by have := HA.out; omega)
        have ha4 : 1 ≤ a' ∧ a' ≤ 4 := by have := HA.out; omega
        clear HEq HP1
        have HLn := Lib.hid hln
        obtain ⟨m0, m1, m2, m3⟩ := HC.out.b2_4
        have HPL := Lib.hid (iPlane_any W' H' 1 0 hW hH (by omega) (by omega) A c xs (by rw [hln]; omega) u6 (HC.out.arg HX.out))
        clear hln
        go_wp2_with fail
        refine HPL.out.mono ?_
        rintro e u7 ⟨v7, rfl, hO7, hB7⟩
        clear HPL m0 m1 m2 m3
        have S7 := GS.add HC.out hO7 hB7
        obtain ⟨A7, c7, rfl, hc7⟩ := hO7.slice
        have hl7 : (img W' H' 1 (fun x y _ => px W' 1 xs x y 0)).length = W' * H' := by rw [img_len]; simp
        rw [hl7] at hc7 S7 ⊢
        obtain ⟨gb, hgb⟩ : ∃ gb, gb = u7.heap.size := ⟨_, rfl⟩
        have HGb := Lib.hid hgb
        have S8 := Lib.hid (GS.box' S7 74 #[.int .i64 (W' : Int), .int .i64 (H' : Int), .slice A7 (W' * H') c7] gb hgb)
        obtain ⟨n, hn⟩ : ∃ n, n = W' * H' := ⟨_, rfl⟩
        rw [← hn] at S8 hc7 ⊢
        have Hn := Lib.hid hn
        clear hO7 hB7 S7 HC hgb hl7 hn
        obtain ⟨m0, m1, m2, m3⟩ := S8.out.b3_4
        go_wp2_with fail
        rw [← HGb.out]
        generalize u7.alloc (.cells #[.int .i64 (W' : Int), .int .i64 (H' : Int), .slice A7 n c7] 74) = u8 at *
        have HBU := Lib.hid (build_any W' H' hW hH 57 #[.pointer (some ⟨cb, 0, none⟩), .pointer (some ⟨gb, 0, none⟩)] (ciF W' xs xss) u8 Eg.out (fun x y w' hx hy hbel => by
          obtain ⟨vn, h1, h2⟩ := HVn.out (y * W' + x) (by rw [HLn.out]; exact row_lt hx hy)
          have h3 : px W' 1 xs x y 0 = (vn : Int) := by rw [← h1]; unfold px pix; rw [Nat.mul_one, Nat.add_zero]
          have h4 : (px W' 1 xs x y 0).toNat = vn := by rw [h3]; rfl
          have h := iCo1_any W' H' n Hn.out.symm hW hH A7 c7 (fun x y => px W' 1 xs x y 0) hc7 A6 n2 c6 xss x y hx hy vn h3 h2 cb gb w' ((S8.out.call hbel).r0) ((S8.out.call hbel).rdsT (E := 66) (C := 4) (lo := lo6) (hi := hi6) (A := A6) (n := n2) (m := n2) (c := c6) (xs := clr xss n2) (by simp)) ((S8.out.call hbel).x1) ((S8.out.call hbel).x0)
          have e : colV (ciF W' xs xss x y) = colV (fun p => (xss.getD vn []).getD p 0) := by
            have h5 : ciF W' xs xss x y = fun p => (xss.getD vn []).getD p 0 := by funext p; unfold ciF; rw [h4]
            rw [h5]
          rw [e]; exact h))
        refine HBU.out.mono ?_
        rintro e u9 ⟨v9, rfl, hO9, hB9⟩
        have S9 := GS.addR S8.out hO9 hB9
        obtain ⟨A9, c9, rfl, hc9⟩ := hO9.slice
        have HS9 := Lib.hid (show GS w u9 (rt 66 4 u8.heap.size u9.heap.size (.slice A9 (W' * H') c9) (W' * H') (img W' H' 4 (ciF W' xs xss)) :: _) _ from S9)
        clear hO9 hB9 S8 S9 HBU m0 m1 m2 m3
        have HJg := Lib.hid (imageOf_any W' H' a' hW hH ha4.2 A9 c9 (ciF W' xs xss) u9 (HS9.out.t0) hc9)
        go_wp2_with fail
        refine HJg.out.mono ?_
        rintro e u10 ⟨v10, rfl, hO10, hB10⟩
        have S10 := GS.add HS9.out hO10 hB10
        obtain ⟨A10, c10, rfl, hc10⟩ := hO10.slice
        clear hO10 hB10 HS9 HJg
        obtain ⟨r0, r1, r2, r3⟩ := S10.b2_4
        have f0 := S10.f2 0
        have f1 := S10.f2 1
        have f2 := S10.f2 2
        have f3 := S10.f2 3
        have HE := Lib.hid (S10.e2_4 (.int .i64 (W' : Int)) (.int .i64 (H' : Int)) (.int .i64 (a' : Int)) (.slice A10 (img W' H' a' (ciF W' xs xss)).length c10))
        clear S10
        go_wp2
        exact bodyPost_ret (v := .tuple #[.agg #[.int .i64 (W' : Int), .int .i64 (H' : Int), .int .i64 (a' : Int), .slice A10 (img W' H' a' (ciF W' xs xss)).length c10], .bool true]) (by simp [results, Try.results17, go_sem, r0, r1, r2, r3]) rfl (ColR.yes Hv.out (HE.out.2 _ (List.Mem.head _)) HE.out.1)
end Go.Proofs.Ytkjebidkkopalaa
namespace Go.Proofs.Ytkjebidkkopalaa
open Go.RowKit
set_option linter.unusedSimpArgs false
set_option linter.unusedVariables false

theorem acL_nodup (P : Nat) (xs : List Int) : ∀ k, (acL P xs k).Nodup
  | 0 => List.nodup_nil
  | k + 1 => by
    have ih := acL_nodup P xs k
    unfold acL
    split
    · exact ih
    · rename_i h
      refine List.nodup_append.2 ⟨ih, by simp, fun a ha b hb => ?_⟩
      simp at hb
      subst hb
      exact fun e => h (e ▸ ha)
theorem acL_mem {P : Nat} {xs : List Int} : ∀ {k j : Nat}, j < k → pxk P xs j ∈ acL P xs k
  | 0, j, h => by omega
  | k + 1, j, h => by
    unfold acL
    by_cases e : j = k
    · subst e
      split
      · assumption
      · simp
    · have ih := acL_mem (P := P) (xs := xs) (show j < k by omega)
      split
      · exact ih
      · exact List.mem_append.2 (.inl ih)
theorem acL_head {P : Nat} {xs : List Int} : ∀ {k : Nat}, 1 ≤ k → 1 ≤ (acL P xs k).length ∧ (acL P xs k).getD 0 [] = pxk P xs 0
  | 0, h => by omega
  | k + 1, h => by
    by_cases e : k = 0
    · subst e
      simp [acL]
    · obtain ⟨h1, h2⟩ := acL_head (P := P) (xs := xs) (show 1 ≤ k by omega)
      unfold acL
      split
      · exact ⟨h1, h2⟩
      · refine ⟨by simp, ?_⟩
        rw [← h2, List.getD_eq_getElem?_getD, List.getD_eq_getElem?_getD, List.getElem?_append_left (by omega)]
theorem pal_row (W H P : Int) (xs : List Int) : (palL W H P xs).length ≤ 16 ∧ ∀ i, i < (palL W H P xs).length → ((palL W H P xs).getD i []).length ≤ 4 := by
  unfold palL
  cases h : palOk W H P xs
  · exact ⟨Nat.zero_le _, fun i hi => by simp at hi⟩
  · unfold palOk at h
    rw [Bool.and_eq_true, decide_eq_true_eq] at h
    obtain ⟨W, H, P, rfl, rfl, rfl, _, hW, _, hH, _, hP, hl, _⟩ := vim_nat h.1
    refine ⟨h.2, fun i hi => ?_⟩
    obtain ⟨j, hj, e⟩ := acL_row (P := P) (xs := xs) (k := W * H) (by rw [hl]; exact Nat.le_refl _) ((acL P xs (W * H)).getD i []) (by have hi : i < (acL P xs (W * H)).length := hi; rw [List.getD_eq_getElem?_getD, List.getElem?_eq_getElem hi]; exact List.getElem_mem hi)
    show ((acL P xs (W * H)).getD i []).length ≤ 4
    rw [e]
    unfold pxk
    rw [List.length_take]
    omega
theorem getD_memL {xss : List (List Int)} {i : Nat} (h : i < xss.length) : xss.getD i [] ∈ xss := by
  rw [List.getD_eq_getElem?_getD, List.getElem?_eq_getElem h]; exact List.getElem_mem h
theorem pal_law {W H P : Int} {xs : List Int} (h : palOk W H P xs = true) : ∃ w h p : Nat, W = w ∧ H = h ∧ P = p ∧ (1 ≤ w ∧ w ≤ 16) ∧ (1 ≤ h ∧ h ≤ 16) ∧ (1 ≤ p ∧ p ≤ 4) ∧ palL W H P xs = acL p xs (w * h) ∧
    (1 ≤ (acL p xs (w * h)).length ∧ (acL p xs (w * h)).length ≤ 16) ∧ (∀ i, i < (acL p xs (w * h)).length → ((acL p xs (w * h)).getD i []).length = p) ∧ (∀ i k, k < i → i < (acL p xs (w * h)).length → (acL p xs (w * h)).getD i [] ≠ (acL p xs (w * h)).getD k []) ∧
    ixOk W H P xs (acL p xs (w * h)) = true ∧ ciOk w h 1 (ixL w h p xs (acL p xs (w * h))) (acL p xs (w * h)) p = true ∧ ciL w h p (ixL w h p xs (acL p xs (w * h))) (acL p xs (w * h)) = xs ∧ pxv W H P xs 0 0 = (acL p xs (w * h)).getD 0 [] := by
  have hpl : palL W H P xs = acL P.toNat xs (W.toNat * H.toNat) := by unfold palL; rw [h]; rfl
  unfold palOk at h
  rw [Bool.and_eq_true, decide_eq_true_eq] at h
  obtain ⟨hv, h16⟩ := h
  obtain ⟨W, H, P, rfl, rfl, rfl, hW1, hW, hH1, hH, hP1, hP4, hln, hby⟩ := vim_nat hv
  rw [show (W : Int).toNat = W from rfl, show (H : Int).toNat = H from rfl, show (P : Int).toNat = P from rfl] at hpl h16
  have hN1 : 1 ≤ W * H := Nat.mul_pos hW1 hH1
  obtain ⟨hL1, hhd⟩ := acL_head (P := P) (xs := xs) hN1
  have hkl : ∀ k, k < W * H → k * P + P ≤ xs.length := fun k hk => by
    rw [hln]
    have := Nat.mul_le_mul_right P hk
    rw [Nat.succ_mul] at this
    exact this
  have hrow : ∀ i, i < (acL P xs (W * H)).length → ∃ j, j < W * H ∧ (acL P xs (W * H)).getD i [] = pxk P xs j := fun i hi => acL_row (by rw [hln]; exact Nat.le_refl _) _ (getD_memL hi)
  have hcl : clN (acL P xs (W * H)) P (acL P xs (W * H)).length := fun i hi => by
    obtain ⟨j, hj, e⟩ := hrow i hi
    rw [e, pxk_len (hkl j hj)]
    refine ⟨rfl, allB_yes fun q hq => ?_⟩
    rw [pxk_len (hkl j hj)] at hq
    rw [pxk_get hq]
    have := hkl j hj
    exact hby _ (by omega)
  have hpb : palB (acL P xs (W * H)) P = true := by rw [palB_yes hcl]; exact decide_eq_true h16
  have hidx : ∀ k, k < W * H → ∃ v : Nat, v < (acL P xs (W * H)).length ∧ ixF W P xs (acL P xs (W * H)) (k % W) (k / W) 0 = (v : Int) ∧ (acL P xs (W * H)).getD v [] = pxk P xs k := fun k hk => by
    obtain ⟨z, hz, e⟩ := List.mem_iff_getElem.1 (acL_mem (P := P) (xs := xs) hk)
    have e' : (acL P xs (W * H)).getD z [] = pxk P xs k := by rw [List.getD_eq_getElem?_getD, List.getElem?_eq_getElem hz]; exact e
    obtain ⟨_, h2, h3⟩ := nc_self (P := P) ⟨hP1, hP4⟩ h16 hcl hz
    rw [e'] at h2 h3
    refine ⟨_, h2, ?_, h3⟩
    unfold ixF nbI
    rw [if_neg (by omega), pxk_pxl (hkl k hk)]
  have hix : ∀ k, k < W * H → (ixL W H P xs (acL P xs (W * H))).getD k 0 = ixF W P xs (acL P xs (W * H)) (k % W) (k / W) 0 := fun k hk => by
    have h := img_at (P := 1) (ixF W P xs (acL P xs (W * H))) (k := k) (p := 0) hk (by omega)
    rw [Nat.mul_one, Nat.add_zero] at h
    exact h
  have hixl : (ixL W H P xs (acL P xs (W * H))).length = W * H := by unfold ixL; rw [img_len, Nat.mul_one]
  refine ⟨W, H, P, rfl, rfl, rfl, ⟨hW1, hW⟩, ⟨hH1, hH⟩, ⟨hP1, hP4⟩, hpl, ⟨hL1, h16⟩, fun i hi => by have := (hcl i hi).1; omega, fun i k hki hi e => ?_, ?_, ?_, ?_, ?_⟩
  · have h1 := List.pairwise_iff_getElem.1 (acL_nodup P xs (W * H)) k i (by omega) hi hki
    rw [List.getD_eq_getElem?_getD, List.getElem?_eq_getElem hi, List.getD_eq_getElem?_getD, List.getElem?_eq_getElem (show k < (acL P xs (W * H)).length by omega)] at e
    exact h1 e.symm
  · unfold ixOk
    rw [hv, hpb, decide_eq_false (show ¬ (acL P xs (W * H)).length = 0 by omega)]
    rfl
  · have hv1 : vim W H 1 (ixL W H P xs (acL P xs (W * H))) = true := vim_mk hW1 hW hH1 hH (fun x y hx hy => by
      obtain ⟨v, hv, e, _⟩ := hidx (y * W + x) (by have := row_lt hx hy; exact this)
      rw [show (y * W + x) % W = x by rw [Nat.mul_comm, Nat.mul_add_mod]; exact Nat.mod_eq_of_lt hx, show (y * W + x) / W = y by rw [Nat.mul_comm, Nat.mul_add_div (by omega), Nat.div_eq_of_lt hx]; rfl] at e
      rw [e]; omega)
    have hal : allB 0 (((acL P xs (W * H)).length : Int) - 1) (ixL W H P xs (acL P xs (W * H))) = true := by
      unfold allB
      refine decide_eq_true fun x hx => ?_
      obtain ⟨k, hk, e⟩ := List.mem_iff_getElem.1 hx
      rw [hixl] at hk
      obtain ⟨v, hv, e2, _⟩ := hidx k hk
      have e3 := hix k hk
      rw [List.getD_eq_getElem?_getD, List.getElem?_eq_getElem (by rw [hixl]; exact hk)] at e3
      have e4 : x = (v : Int) := by rw [← e, ← e2, ← e3]; rfl
      rw [e4]; omega
    unfold ciOk
    rw [hv1, hpb, hal, decide_eq_true (show (1 : Int) = 1 from rfl), decide_eq_true (show 1 ≤ (P : Int) ∧ (P : Int) ≤ 4 by omega)]
    rfl
  · have hcll : (ciL W H P (ixL W H P xs (acL P xs (W * H))) (acL P xs (W * H))).length = W * H * P := by unfold ciL; rw [img_len]
    refine list_eq (by rw [hcll, hln]) fun j hj => ?_
    rw [hcll] at hj
    have hk : j / P < W * H := Nat.div_lt_of_lt_mul (by rw [Nat.mul_comm]; exact hj)
    have hq : j % P < P := Nat.mod_lt _ hP1
    have ej : j / P * P + j % P = j := Nat.div_add_mod' j P
    obtain ⟨v, hv, e, e2⟩ := hidx (j / P) hk
    have h1 := ci_at (W := W) (H := H) (a := P) (xs := ixL W H P xs (acL P xs (W * H))) (xss := acL P xs (W * H)) hk hq ((hix _ hk).trans e)
    rw [ej, e2, pxk_get hq, ej] at h1
    exact h1
  · show cond (vim W H P xs && onIm W H 0 0) (pxl W P xs 0 0) [] = _
    rw [hv, show onIm (W : Int) (H : Int) 0 0 = true from onIm_mk (x := 0) (y := 0) hW1 hH1, hhd]
    have h1 := pxk_pxl (W := W) (hkl 0 hN1)
    rw [Nat.zero_mod, Nat.zero_div] at h1
    exact h1
end Go.Proofs.Ytkjebidkkopalaa
namespace Go.Proofs.Ytkjebidkkopalaa
open Go.RowKit Go.Shelf
set_option linter.unusedSimpArgs false
set_option linter.unusedVariables false

def LSt (W0 w : World) (R : List (Option Addr × List Int)) (Bs : List Bxs) : Prop :=
  Below W0.heap.size W0 w ∧ (∀ r ∈ R, Rds .i64 w w.heap.size r.1 r.2) ∧ ∀ b ∈ Bs, Bx w b.g b.t b.cs
section
variable {W0 w w' : World} {R : List (Option Addr × List Int)} {Bs : List Bxs} {A : Option Addr} {xs : List Int}
theorem LSt.start (hb : Below W0.heap.size W0 w) : LSt W0 w [] [] := ⟨hb, by simp, by simp⟩
theorem LSt.add (h : LSt W0 w R Bs) (hr : Rds .i64 w w.heap.size A xs) : LSt W0 w ((A, xs) :: R) Bs :=
  ⟨h.1, fun r hm => by
    rcases List.mem_cons.1 hm with rfl | hm
    · exact hr
    · exact h.2.1 r hm, h.2.2⟩
theorem LSt.call (h : LSt W0 w R Bs) (hb : Below w.heap.size w w') : LSt W0 w' R Bs :=
  ⟨h.1.trans (hb.mono h.1.size), fun r hm => ((h.2.1 r hm).below hb).more hb.size, fun b hm => (h.2.2 b hm).below hb⟩
theorem LSt.box (h : LSt W0 w R Bs) (T : TypeId) (cs : Array Value) : LSt W0 (w.alloc (.cells cs T)) R (⟨w.heap.size, T, cs⟩ :: Bs) :=
  ⟨h.1.alloc h.1.size _, fun r hm => ((h.2.1 r hm).alloc (Nat.le_refl _) _).more (by simp), fun b hm => by
    rcases List.mem_cons.1 hm with rfl | hm
    · exact Bx.new w T cs
    · exact (h.2.2 b hm).alloc _⟩
theorem LSt.drew (h : LSt W0 w R Bs) : LSt W0 w.drew R Bs := ⟨⟨h.1.os, h.1.tape, h.1.output, h.1.size, h.1.block⟩, h.2⟩
theorem LSt.drewN (h : LSt W0 w R Bs) (n : Nat) : LSt W0 (w.drewN n) R Bs := ⟨⟨h.1.os, h.1.tape, h.1.output, h.1.size, h.1.block⟩, h.2⟩
theorem LSt.rds (h : LSt W0 w R Bs) (hm : (A, xs) ∈ R) : Rds .i64 w w.heap.size A xs := h.2.1 _ hm
theorem LSt.im (h : LSt W0 w R Bs) {g : Nat} {T : TypeId} {X Y Z : Int} {v : Value} (hm : ⟨g, T, imC X Y Z v⟩ ∈ Bs) : w.cell? ⟨g, 0, none⟩ = some (.int .i64 X) ∧ w.cell? ⟨g, 1, none⟩ = some (.int .i64 Y) ∧ w.cell? ⟨g, 2, none⟩ = some (.int .i64 Z) ∧ w.cell? ⟨g, 3, none⟩ = some v := (h.2.2 _ hm).im
theorem LSt.lt (h : LSt W0 w R Bs) {g : Nat} {T : TypeId} {cs : Array Value} (hm : ⟨g, T, cs⟩ ∈ Bs) : g < w.heap.size := (h.2.2 _ hm).lt
end
def ShI (X Y Z : Int) (ys : List Int) (w : World) (e : Ending) (w' : World) : Prop :=
  ∃ A c, e = .returned (.agg #[.int .i64 X, .int .i64 Y, .int .i64 Z, .slice A ys.length c]) ∧ ys.length ≤ c ∧ Rds .i64 w' w'.heap.size A ys ∧ Below w.heap.size w w'
theorem ShI.of {X Y Z : Int} {ys : List Int} {w : World} {e : Ending} {w' : World} (h : MadeI X Y Z ys w e w') : ShI X Y Z ys w e w' := by
  obtain ⟨v, rfl, hO, hB⟩ := h
  obtain ⟨A, c, rfl, hc⟩ := hO.slice
  exact ⟨A, c, rfl, hc, hO.rds.2, hB⟩
def ShIB (X Y Z : Int) (ys : List Int) (ok : Bool) (w : World) (e : Ending) (w' : World) : Prop :=
  ∃ A c, e = .returned (.tuple #[.agg #[.int .i64 X, .int .i64 Y, .int .i64 Z, .slice A ys.length c], .bool ok]) ∧ ys.length ≤ c ∧ Rds .i64 w' w'.heap.size A ys ∧ Below w.heap.size w w'
def ImC0 (f : FuncId) (W H P : Int) (xs : List Int) (X Y Z : Int) (ys : List Int) : Prop :=
  ∀ (A : Option Addr) (c : Nat) (w : World), Rds .i64 w w.heap.size A xs → xs.length ≤ c → Calls Try.prog f #[.agg #[.int .i64 W, .int .i64 H, .int .i64 P, .slice A xs.length c]] w (ShI X Y Z ys w)
def ImC1 (f : FuncId) (k : Int) (W H P : Int) (xs : List Int) (X Y Z : Int) (ys : List Int) : Prop :=
  ∀ (A : Option Addr) (c : Nat) (w : World), Rds .i64 w w.heap.size A xs → xs.length ≤ c → Calls Try.prog f #[.agg #[.int .i64 W, .int .i64 H, .int .i64 P, .slice A xs.length c], .int .i64 k] w (ShI X Y Z ys w)
def PxC (f : FuncId) (W H P : Int) (xs : List Int) (x y : Int) (q : List Int) : Prop :=
  ∀ (A : Option Addr) (c : Nat) (w : World), Rds .i64 w w.heap.size A xs → xs.length ≤ c → Calls Try.prog f #[.agg #[.int .i64 W, .int .i64 H, .int .i64 P, .slice A xs.length c], .int .i64 x, .int .i64 y] w (Shows q w)
def SetC (f : FuncId) (W H P : Int) (xs : List Int) (x y : Int) (q : List Int) (X Y Z : Int) (ys : List Int) (ok : Bool) : Prop :=
  ∀ (A : Option Addr) (c : Nat) (A' : Option Addr) (c' : Nat) (w : World), Rds .i64 w w.heap.size A xs → xs.length ≤ c → Rds .i64 w w.heap.size A' q → q.length ≤ c' → Calls Try.prog f #[.agg #[.int .i64 W, .int .i64 H, .int .i64 P, .slice A xs.length c], .int .i64 x, .int .i64 y, .slice A' q.length c'] w (ShIB X Y Z ys ok w)
def FillC (f : FuncId) (W H : Int) (q : List Int) (X Y Z : Int) (ys : List Int) : Prop :=
  ∀ (A : Option Addr) (c : Nat) (w : World), Rds .i64 w w.heap.size A q → q.length ≤ c → Calls Try.prog f #[.int .i64 W, .int .i64 H, .slice A q.length c] w (ShI X Y Z ys w)
theorem ImC0.use {f : FuncId} {W H P : Int} {xs : List Int} {X Y Z : Int} {ys : List Int} (h : Hid (ImC0 f W H P xs X Y Z ys)) (A : Option Addr) (c : Nat) (w : World) (hr : Rds .i64 w w.heap.size A xs) (hc : xs.length ≤ c) : Calls Try.prog f #[.agg #[.int .i64 W, .int .i64 H, .int .i64 P, .slice A xs.length c]] w (ShI X Y Z ys w) := h.out A c w hr hc
theorem ImC1.use {f : FuncId} {k W H P : Int} {xs : List Int} {X Y Z : Int} {ys : List Int} (h : Hid (ImC1 f k W H P xs X Y Z ys)) (A : Option Addr) (c : Nat) (w : World) (hr : Rds .i64 w w.heap.size A xs) (hc : xs.length ≤ c) : Calls Try.prog f #[.agg #[.int .i64 W, .int .i64 H, .int .i64 P, .slice A xs.length c], .int .i64 k] w (ShI X Y Z ys w) := h.out A c w hr hc
theorem PxC.use {f : FuncId} {W H P : Int} {xs : List Int} {x y : Int} {q : List Int} (h : Hid (PxC f W H P xs x y q)) (A : Option Addr) (c : Nat) (w : World) (hr : Rds .i64 w w.heap.size A xs) (hc : xs.length ≤ c) : Calls Try.prog f #[.agg #[.int .i64 W, .int .i64 H, .int .i64 P, .slice A xs.length c], .int .i64 x, .int .i64 y] w (Shows q w) := h.out A c w hr hc
theorem SetC.use {f : FuncId} {W H P : Int} {xs : List Int} {x y : Int} {q : List Int} {X Y Z : Int} {ys : List Int} {ok : Bool} (h : Hid (SetC f W H P xs x y q X Y Z ys ok)) (A : Option Addr) (c : Nat) (A' : Option Addr) (c' : Nat) (w : World) (hr : Rds .i64 w w.heap.size A xs) (hc : xs.length ≤ c) (hr' : Rds .i64 w w.heap.size A' q) (hc' : q.length ≤ c') : Calls Try.prog f #[.agg #[.int .i64 W, .int .i64 H, .int .i64 P, .slice A xs.length c], .int .i64 x, .int .i64 y, .slice A' q.length c'] w (ShIB X Y Z ys ok w) := h.out A c A' c' w hr hc hr' hc'
theorem FillC.use {f : FuncId} {W H : Int} {q : List Int} {X Y Z : Int} {ys : List Int} (h : Hid (FillC f W H q X Y Z ys)) (A : Option Addr) (c : Nat) (w : World) (hr : Rds .i64 w w.heap.size A q) (hc : q.length ≤ c) : Calls Try.prog f #[.int .i64 W, .int .i64 H, .slice A q.length c] w (ShI X Y Z ys w) := h.out A c w hr hc
theorem lEqInts_same (A A' : Option Addr) (c c' : Nat) (q : List Int) (w : World) (hx : Rds .i64 w w.heap.size A q) (hy : Rds .i64 w w.heap.size A' q) (hl : q.length ≤ 2000000) :
    Calls Try.prog 15 #[.slice A q.length c, .slice A' q.length c'] w fun e w' => e = .returned (.bool true) ∧ Below w.heap.size w w' :=
  (lEqualInts_any A A' c c' q q _ _ w hx hy (by omega) (by omega)).mono fun e w' ⟨he, n, hw⟩ => ⟨by rw [he]; simp, by subst hw; exact below_dm (Below.refl _ _) n⟩
theorem lEqIm (X Y Z : Int) (ys : List Int) (A A' : Option Addr) (c c' : Nat) (w : World) (hx : Rds .i64 w w.heap.size A ys) (hy : Rds .i64 w w.heap.size A' ys) (hl : ys.length ≤ 2000000) :
    Calls Try.prog 18 #[.agg #[.int .i64 X, .int .i64 Y, .int .i64 Z, .slice A ys.length c], .agg #[.int .i64 X, .int .i64 Y, .int .i64 Z, .slice A' ys.length c']] w fun e w' => e = .returned (.bool true) ∧ Below w.heap.size w w' :=
  lEqImg_same X Y Z A A' c c' _ _ ys w rfl rfl hx hy hl
/-! ### Images as functions of the place. -/
theorem img_self {W H P : Nat} {xs : List Int} (hl : xs.length = W * H * P) : img W H P (pxc W P xs) = xs := by
  rw [img_ext (G := px W P xs) (fun x y p hx hy hp => img_pxc (H := H) hp)]
  exact img_of hl
theorem vim_img {W H P : Nat} {F : Nat → Nat → Nat → Int} (hW1 : 1 ≤ W) (hW : W ≤ 16) (hH1 : 1 ≤ H) (hH : H ≤ 16) (hP1 : 1 ≤ P) (hP : P ≤ 4) (hF : ∀ x y p, x < W → y < H → p < P → 0 ≤ F x y p ∧ F x y p ≤ 255) : vim W H P (img W H P F) = true := by
  show (vsh W H P && (decide (((img W H P F).length : Int) = W * H * P) && allB 0 255 (img W H P F))) = true
  simp only [Bool.and_eq_true, decide_eq_true_eq, img_len]
  refine ⟨?_, by simp, ?_⟩
  · simp only [vsh, Bool.and_eq_true, decide_eq_true_eq]; omega
  · refine decide_eq_true ?_
    intro n hn
    obtain ⟨i, hi, rfl⟩ := List.mem_map.1 hn
    obtain ⟨h1, h2, h3, _⟩ := pix_of (List.mem_range.1 hi)
    exact hF _ _ _ h1 h2 h3
theorem pxc_bytes {W H P : Nat} {xs : List Int} (hl : xs.length = W * H * P) (hb : ∀ j, j < xs.length → 0 ≤ xs.getD j 0 ∧ xs.getD j 0 ≤ 255) : ∀ x y p, x < W → y < H → p < P → 0 ≤ pxc W P xs x y p ∧ pxc W P xs x y p ≤ 255 := by
  intro x y p hx hy hp
  rw [img_pxc (H := H) hp]
  exact hb _ (by rw [hl]; exact pix_lt hx hy hp)
theorem img_bd {W H P : Nat} (F : Nat → Nat → Nat → Int) (hW : W ≤ 16) (hH : H ≤ 16) (hP : P ≤ 4) : (img W H P F).length ≤ 1024 := by
  rw [img_len]; have h1 := Nat.mul_le_mul hW hH; have := Nat.mul_le_mul h1 hP; omega
theorem pxv_img {W H P a b : Nat} {F : Nat → Nat → Nat → Int} (hv : vim W H P (img W H P F) = true) (ha : a < W) (hb : b < H) : pxv W H P (img W H P F) a b = (List.range P).map (F a b) := by
  have ho : onIm W H a b = true := by simp only [onIm, Bool.and_eq_true, decide_eq_true_eq]; omega
  show cond (vim W H P (img W H P F) && onIm W H a b) (pxl W P (img W H P F) a b) [] = _
  rw [hv, ho]
  show pxl W P (img W H P F) a b = _
  unfold pxl
  apply List.map_congr_left
  intro p hp
  exact img_px F ha hb (List.mem_range.1 hp)
theorem img_pxc2' {W H P : Nat} (F : Nat → Nat → Nat → Int) {x y p : Nat} (hx : x < W) (hy : y < H) (hp : p < P) : pxc W P (img W H P F) x y p = F x y p := by
  rw [img_pxc (H := H) hp]; exact img_px F hx hy hp
end Go.Proofs.Ytkjebidkkopalaa
namespace Go.Proofs.Ytkjebidkkopalaa
open Go.RowKit
set_option linter.unusedSimpArgs false
set_option linter.unusedVariables false
set_option maxRecDepth 20000

set_option maxHeartbeats 8000000 in
theorem lEqLists_same (A A2 : Option Addr) (c c2 n : Nat) (xss : List (List Int)) (w : World) (hn : n = xss.length) (hx : Rdss w w.heap.size A xss) (hy : Rdss w w.heap.size A2 xss) (hl : tot xss ≤ 2000000) :
    Calls Try.prog 14 #[.slice A n c, .slice A2 n c2] w fun e w' => e = .returned (.bool true) ∧ ∃ m, w' = w.drewN m := by
  have HX := Lib.hid hx
  have HY := Lib.hid hy
  have Hn := Lib.hid hn
  have HL : Hid (∀ i, i < xss.length → (xss.getD i []).length ≤ 2000000) := Lib.hid fun i hi => Nat.le_trans (len_le_tot hi) hl
  have hnl : n ≤ 2000000 := by rw [hn]; unfold tot at hl; omega
  clear hx hy hn hl
  go_enter Try.func14, Try.ntmps14
  go_wp2
  go_loopw [5] (fun i wr => ∃ k : Nat, k ≤ n ∧ i = .int .i64 (k : Int) ∧ Hid (∃ m, wr = w.drewN m)) (fun i _ => n - (intOf i).toNat)
  case atStart => exact ⟨0, Nat.zero_le _, rfl, Lib.hid ⟨0, rfl⟩⟩
  case round =>
    obtain ⟨k, hk, rfl, HW⟩ := hrel
    by_cases hlt : k < n
    · have hkl : k < xss.length := by have := Hn.out; omega
      have hkp : ∀ p, wr.drew.cell? p = w.cell? p := by obtain ⟨m, e⟩ := HW.out; intro p; rw [e]; rfl
      obtain ⟨b, off, Ai, ci, rfl, hb, hci, hc0, hr1⟩ := HX.out.at hkl
      obtain ⟨b2, off2, Aj, cj, rfl, hb2, hcj, hd0, hr2⟩ := HY.out.at hkl
      have hc := (hkp _).trans hc0
      have hd := (hkp _).trans hd0
      have HR1 := Lib.hid (hr1.keep (w' := wr.drew) fun p _ => hkp p)
      have HR2 := Lib.hid (hr2.keep (w' := wr.drew) fun p _ => hkp p)
      have hyl := HL.out k hkl
      generalize xss.getD k [] = ys at *
      obtain ⟨q, hq⟩ : ∃ q, q = ys.length := ⟨_, rfl⟩
      have HEQ := Lib.hid (lEqualInts_any Ai Aj ci cj ys ys _ _ wr.drew HR1.out HR2.out (by omega) (by omega))
      rw [← hq] at hc hd HEQ
      clear HR1 HR2
      clear hc0 hd0 hr1 hr2 hci hcj hq hkp
      go_upto_region 6 with fail
      refine wp_region_held_drew (S := (fun w' => w'.cell? ⟨b, off + k, none⟩ = some (.slice Ai q ci) ∧ w'.cell? ⟨b2, off2 + k, none⟩ = some (.slice Aj q cj))) (by kernel_rfl) (by exact ⟨hc, hd⟩) (fun hHeld => ?_)
      refine' wpAnyH_take (i := 0) (oi := _) (v := _) ?hi1 (by kernel_rfl) (by kernel_rfl) (by kernel_rfl) ?hq1 (Or.inl ⟨?hw1, ?hy1⟩) (by assumption) ?rest1
      case hi1 => (simp only [List.getElem?_toArray, List.getElem?_cons_succ, List.getElem?_cons_zero]; rfl)
      case hq1 => exact fun _ _ _ h => h
      case hw1 => rfl
      case hy1 => (intro wq hSw; (try dsimp only at hSw); go_simp; (try with_reducible rfl))
      (try simp only [Act.put, List.setIfInBounds_toArray, List.set_cons_zero, List.set_cons_succ])
      refine' wpAnyH_take (i := 1) (oi := _) (v := _) ?hi2 (by kernel_rfl) (by kernel_rfl) (by kernel_rfl) ?hq2 (Or.inl ⟨?hw2, ?hy2⟩) (by assumption) ?rest2
      case hi2 => (simp only [List.getElem?_toArray, List.getElem?_cons_succ, List.getElem?_cons_zero]; rfl)
      case hq2 => exact fun _ _ _ h => h
      case hw2 => rfl
      case hy2 => (intro wq hSw; (try dsimp only at hSw); go_simp; (try with_reducible rfl))
      (try simp only [Act.put, List.setIfInBounds_toArray, List.set_cons_zero, List.set_cons_succ])
      refine' wpAnyH_take (i := 2) (oi := _) (v := _) ?hi3 (by kernel_rfl) (by kernel_rfl) (by kernel_rfl) ?hq3 (Or.inl ⟨?hw3, ?hy3⟩) (by assumption) ?rest3
      case hi3 => (simp only [List.getElem?_toArray, List.getElem?_cons_succ, List.getElem?_cons_zero]; rfl)
      case hq3 => exact fun _ _ _ h => h
      case hw3 => rfl
      case hy3 => (intro wq hSw; (try dsimp only at hSw); go_simp; (try with_reducible rfl))
      (try simp only [Act.put, List.setIfInBounds_toArray, List.set_cons_zero, List.set_cons_succ])
      refine' wpAnyH_take (i := 3) (oi := _) (v := _) ?hi4 (by kernel_rfl) (by kernel_rfl) (by kernel_rfl) ?hq4 (Or.inl ⟨?hw4, ?hy4⟩) (by assumption) ?rest4
      case hi4 => (simp only [List.getElem?_toArray, List.getElem?_cons_succ, List.getElem?_cons_zero]; rfl)
      case hq4 => exact fun _ _ _ h => h
      case hw4 => rfl
      case hy4 => (intro wq hSw; (try dsimp only at hSw); go_simp; (try with_reducible rfl))
      (try simp only [Act.put, List.setIfInBounds_toArray, List.set_cons_zero, List.set_cons_succ])
      refine' wpAnyH_take (i := 4) (oi := _) (v := _) ?hi5 (by kernel_rfl) (by kernel_rfl) (by kernel_rfl) ?hq5 (Or.inl ⟨?hw5, ?hy5⟩) (by assumption) ?rest5
      case hi5 => (simp only [List.getElem?_toArray, List.getElem?_cons_succ, List.getElem?_cons_zero]; rfl)
      case hq5 => exact fun _ _ _ h => h
      case hw5 => rfl
      case hy5 => (intro wq hSw; (try dsimp only at hSw); go_simp; (try with_reducible rfl))
      (try simp only [Act.put, List.setIfInBounds_toArray, List.set_cons_zero, List.set_cons_succ])
      refine' wpAnyH_take (i := 5) (oi := _) (v := _) ?hi6 (by kernel_rfl) (by kernel_rfl) (by kernel_rfl) ?hq6 (Or.inl ⟨?hw6, ?hy6⟩) (by assumption) ?rest6
      case hi6 => (simp only [List.getElem?_toArray, List.getElem?_cons_succ, List.getElem?_cons_zero]; rfl)
      case hq6 => exact fun _ _ _ h => h
      case hw6 => rfl
      case hy6 => (intro wq hSw; (try dsimp only at hSw); go_simp; (try with_reducible rfl))
      (try simp only [Act.put, List.setIfInBounds_toArray, List.set_cons_zero, List.set_cons_succ])
      refine' wpAnyH_take (i := 6) (oi := _) (v := _) ?hi7 (by kernel_rfl) (by kernel_rfl) (by kernel_rfl) ?hq7 (Or.inl ⟨?hw7, ?hy7⟩) (by assumption) ?rest7
      case hi7 => (simp only [List.getElem?_toArray, List.getElem?_cons_succ, List.getElem?_cons_zero]; rfl)
      case hq7 => exact fun _ _ _ h => h
      case hw7 => rfl
      case hy7 => (intro wq hSw; (try dsimp only at hSw); go_simp; (try with_reducible rfl))
      (try simp only [Act.put, List.setIfInBounds_toArray, List.set_cons_zero, List.set_cons_succ])
      refine' wpAnyH_take (i := 7) (oi := _) (v := _) ?hi8 (by kernel_rfl) (by kernel_rfl) (by kernel_rfl) ?hq8 (Or.inl ⟨?hw8, ?hy8⟩) (by assumption) ?rest8
      case hi8 => (simp only [List.getElem?_toArray, List.getElem?_cons_succ, List.getElem?_cons_zero]; rfl)
      case hq8 => exact fun _ _ _ h => h
      case hw8 => rfl
      case hy8 => (intro wq hSw; (try dsimp only at hSw); go_simp; (try with_reducible rfl))
      (try simp only [Act.put, List.setIfInBounds_toArray, List.set_cons_zero, List.set_cons_succ])
      refine wpAnyH_ready (rs := [8]) (by kernel_rfl) (by simp) ?_
      refine' AllReadyH.cons (o := _) ?hi9 (fun K hK => ?rest9) AllReadyH.nil
      case hi9 => (simp only [List.getElem?_toArray, List.getElem?_cons_succ, List.getElem?_cons_zero]; rfl)
      go_simp
      go_at_call 15
      refine HEQ.out.mono ?_
      rintro e u9 ⟨rfl, m9, rfl⟩
      rw [decide_eq_true rfl]
      refine hK.out _ _ (by (try dsimp only); exact ⟨hc, hd⟩) (fun hHeld => ?_)
      clear hK K
      (try simp only [Act.put, List.setIfInBounds_toArray, List.set_cons_zero, List.set_cons_succ])
      refine' wpAnyH_take (i := 9) (oi := _) (v := _) ?hi10 (by kernel_rfl) (by kernel_rfl) (by kernel_rfl) ?hq10 (Or.inl ⟨?hw10, ?hy10⟩) (by assumption) ?rest10
      case hi10 => (simp only [List.getElem?_toArray, List.getElem?_cons_succ, List.getElem?_cons_zero]; rfl)
      case hq10 => exact fun _ _ _ h => h
      case hw10 => rfl
      case hy10 => (intro wq hSw; (try dsimp only at hSw); go_simp; (try with_reducible rfl))
      (try simp only [Act.put, List.setIfInBounds_toArray, List.set_cons_zero, List.set_cons_succ])
      refine wpAnyH_done (by kernel_rfl) ?_ _
      clear hc hd hyl
      go_wp2
      go_roundw
      case rel => exact ⟨k + 1, by omega, by go_num, Lib.hid (by obtain ⟨m, e⟩ := HW.out; exact ⟨m + (1 + m9), by rw [e]; exact World.drewN_drewN _ _ _⟩)⟩
      case measure => simp [intOf]; omega
    · go_wp2
      go_ret
      exact ⟨rfl, HW.out⟩
end Go.Proofs.Ytkjebidkkopalaa
