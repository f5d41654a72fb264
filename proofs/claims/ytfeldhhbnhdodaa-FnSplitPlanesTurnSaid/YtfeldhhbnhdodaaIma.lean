/- A slice of images that grows: its row of structs and the numbers of each image. -/
import Derived.Test.YtfeldhhbnhdodaaIml
import Derived.Test.YtfeldhhbnhdodaaGA
import Derived.Shelf.Abstract
namespace Go.Proofs.Ytfeldhhbnhdodaa
open Go.RowKit Go.Shelf
set_option linter.unusedSimpArgs false
set_option linter.unusedVariables false

/-- A row of the state grows: in its place, or in a new one. -/
theorem GS.growR {W0 w w' : World} {L1 L2 : List Rg} {t : Rg} {Bs : List Bxg} (h : GS W0 w (L1 ++ t :: L2) Bs) {v' : Value} {n' b0 : Nat} {cs' : List Value} (hO : w'.ownsRow b0 t.E t.C v' n' cs') (hG : w.grownBy w' t.v.ownBlock) (hW : ∀ g, v'.ownBlock = some g → t.v.ownBlock = some g ∨ w.heap.size ≤ g) :
    ∃ lo hi, GS W0 w' (L1 ++ ⟨lo, hi, t.E, t.C, v', n', cs'⟩ :: L2) Bs := by
  have hs := hG.size
  have ht := h.2.1 t (by simp)
  have hp := List.pairwise_append.1 h.2.2.1
  have hp2 := List.pairwise_cons.1 hp.2.1
  have hlt := World.ownsRow.lt ht.1.1
  have hold : ∀ s ∈ L1 ++ t :: L2, (s.hi ≤ t.lo ∨ t.hi ≤ s.lo) → s.ok w' ∧ W0.heap.size ≤ s.lo ∧ s.hi ≤ w'.heap.size := by
    intro s hm hd
    have hs2 := h.2.1 s hm
    refine ⟨hs2.1.keep fun g h1 h2 => hG.block g (by omega) (fun e => ?_), hs2.2.1, by omega⟩
    have h3 := (hlt g e.symm).1
    have h4 := ht.1.2 g e.symm
    omega
  have hbx : ∀ b ∈ Bs, Bx w' b.g b.t b.cs := by
    intro b hm
    have hb := h.2.2.2.1 b hm
    refine (hG.block b.g hb.1.lt (fun e => ?_)).trans hb.1
    have h1 := hb.2.2 t (by simp)
    have h3 := (hlt b.g e.symm).1
    have h4 := ht.1.2 b.g e.symm
    omega
  have h1 := h.1.grown hG h.1.size (fun k hk => by have := (hlt k hk).1; have := ht.2.1; omega)
  have fin : ∀ lo hi, w'.ownsRow lo t.E t.C v' n' cs' → (∀ g, v'.ownBlock = some g → g < hi) → W0.heap.size ≤ lo → hi ≤ w'.heap.size → (∀ s ∈ L1 ++ L2, s.hi ≤ lo ∨ hi ≤ s.lo) → (∀ b ∈ Bs, hi ≤ b.g ∨ b.g < lo) → GS W0 w' (L1 ++ ⟨lo, hi, t.E, t.C, v', n', cs'⟩ :: L2) Bs := by
    intro lo hi hO hhi hlo hhw hap hbs
    refine ⟨h1, fun s hm => ?_, List.pairwise_append.2 ⟨hp.1, List.pairwise_cons.2 ⟨fun s hm => (hap s (by simp [hm])).elim .inl .inr, hp2.2⟩, fun a ha b hb => ?_⟩, fun b hm => ⟨hbx b hm, (h.2.2.2.1 b hm).2.1, fun s hm2 => ?_⟩, h.2.2.2.2⟩
    · rcases List.mem_append.1 hm with hm | hm
      · exact hold s (by simp [hm]) (hp.2.2 s hm t (by simp)).symm
      · rcases List.mem_cons.1 hm with rfl | hm
        · exact ⟨⟨hO, hhi⟩, hlo, hhw⟩
        · exact hold s (by simp [hm]) (hp2.1 s hm)
    · rcases List.mem_cons.1 hb with rfl | hb
      · exact (hap a (by simp [ha])).elim .inr .inl
      · exact hp.2.2 a ha b (by simp [hb])
    · rcases List.mem_append.1 hm2 with hm2 | hm2
      · exact (h.2.2.2.1 b hm).2.2 s (by simp [hm2])
      · rcases List.mem_cons.1 hm2 with rfl | hm2
        · exact hbs b hm
        · exact (h.2.2.2.1 b hm).2.2 s (by simp [hm2])
  have hhiL : ∀ s ∈ L1 ++ L2, s.hi ≤ w.heap.size := fun s hm => (h.2.1 s (by rcases List.mem_append.1 hm with hm | hm <;> simp [hm])).2.2
  by_cases hnew : ∃ g, v'.ownBlock = some g ∧ w.heap.size ≤ g
  · obtain ⟨g, hg, hgl⟩ := hnew
    have hgw := (World.ownsRow.lt hO g hg).2
    refine ⟨w.heap.size, w'.heap.size, fin _ _ ?_ (fun g hg => (World.ownsRow.lt hO g hg).2) h.1.size (Nat.le_refl _) (fun s hm => .inl (hhiL s hm)) (fun b hm => .inr (h.2.2.2.1 b hm).1.lt)⟩
    refine ⟨hO.1, ?_⟩
    rcases hO.2 with h2 | ⟨g', cap, cur, hv, hbg, r⟩
    · exact .inl h2
    · have : g' = g := by rw [hv] at hg; injection hg
      exact .inr ⟨g', cap, cur, hv, by omega, r⟩
  · have hsame : ∀ g, v'.ownBlock = some g → t.v.ownBlock = some g := fun g hg => by
      rcases hW g hg with h' | h'
      · exact h'
      · exact absurd ⟨g, hg, h'⟩ hnew
    have hO2 : w'.ownsRow t.lo t.E t.C v' n' cs' := by
      refine ⟨hO.1, ?_⟩
      rcases hO.2 with h2 | ⟨g', cap, cur, hv, hbg, r⟩
      · exact .inl h2
      · exact .inr ⟨g', cap, cur, hv, (hlt g' (hsame g' (by rw [hv]; rfl))).1, r⟩
    refine ⟨t.lo, t.hi, fin _ _ hO2 (fun g hg => ht.1.2 g (hsame g hg)) ht.2.1 (by have := ht.2.2; omega) (fun s hm => ?_) (fun b hm => (h.2.2.2.1 b hm).2.2 t (by simp))⟩
    rcases List.mem_append.1 hm with hm | hm
    · exact (hp.2.2 s hm t (by simp)).elim .inr .inl
    · exact (hp2.1 s hm).elim .inl .inr
theorem info_Img : (Try.prog.info? 25).map (fun i => (i.zero, i.size, i.bytes)) = some (some (.agg #[.int .i64 0, .int .i64 0, .int .i64 0, .slice none 0 0]), 4, 48) := by kernel_rfl
theorem wpList_appI {w : World} {ops : Array Oper} {rest : List Oper} {o : Oper} {a : Act} {Q : Exit → Act → World → Prop} (hgd : o.guard = none) (s x : Operand)
    (ho : o.op = .call { callee := .builtin .append, args := #[s, x], argTypes := #[27, 27] })
    (base : Nat) (v : Value) (n : Nat) (xs : List Value) (hs : a.eval s = v) (hown : w.ownsRow base 25 4 v n xs)
    (ad : Addr) (c : Nat) (u0 u1 u2 u3 : Value) (hx : a.eval x = .slice (some ad) 1 c) (hnews : ∀ j u, [u0, u1, u2, u3][j]? = some u → w.cell? (ad.add j) = some u) (h1 : ∀ u ∈ [u0, u1, u2, u3], u.oneCell' = true) (hn : n ≤ 1000) (hbase : base ≤ w.heap.size)
    (h : ∀ v' w', w'.ownsRow base 25 4 v' (n + 1) (xs ++ [u0, u1, u2, u3]) → w.grownBy w' v.ownBlock → (∀ g, v'.ownBlock = some g → v.ownBlock = some g ∨ w.heap.size ≤ g) → wpList Try.prog ops Q rest (a.put o.dst v') w') : wpList Try.prog ops Q (o :: rest) a w := by
  refine wpList_plain hgd fun _ hK => ?_
  obtain ⟨i, hi, hz, hsz, hb⟩ := info_parts info_Img
  obtain ⟨v', w', hrun, h2, h3, h4⟩ := run_append_own (P := Try.prog) w base 27 o.type 25 i _ 4 48 Try.underlying27 hi hz hsz hb rfl (by omega) v n xs hown ad 1 c [u0, u1, u2, u3] (by simp) hnews h1 (by unfold maxLen; omega) (by omega) hbase
  have hwh : ∀ g, v'.ownBlock = some g → v.ownBlock = some g ∨ w.heap.size ≤ g := by
    rcases hown.2 with ⟨rfl, h0⟩ | ⟨g0, cap, cur, rfl, hbg, hg, hnc, hcm, hcs, htake⟩
    · subst h0
      have hx0 : xs = [] := List.eq_nil_of_length_eq_zero (by simpa using hown.1)
      subst hx0
      obtain ⟨v2, w2, hr2, h22, _⟩ := run_append_own (P := Try.prog) w w.heap.size 27 o.type 25 i _ 4 48 Try.underlying27 hi hz hsz hb rfl (by omega) (.slice none 0 0) 0 [] (World.ownsRow_nil _ _ _ _) ad 1 c [u0, u1, u2, u3] (by simp) hnews h1 (by unfold maxLen; omega) (by omega) (Nat.le_refl _)
      rw [hrun] at hr2
      injection hr2 with e1 e2
      subst e1
      intro g hg
      exact .inr (h22.lt g hg).1
    · intro g hg'
      by_cases hroom : n + 1 ≤ cap
      · have hr2 := run_append_room (P := Try.prog) w 27 o.type 25 i Try.underlying27 hi g0 n cap cur hg ad 1 c [u0, u1, u2, u3] (by simp [hsz]) hnews h1 hroom (by rw [hsz, hcs]; simp; omega)
        rw [hrun] at hr2
        injection hr2 with e1 e2
        subst e1
        exact .inl hg'
      · have hr2 := run_append_grow (P := Try.prog) w 27 o.type 25 i _ Try.underlying27 hi hz ⟨g0, 0, none⟩ n cap xs (by rw [hsz]; exact hown.1) (World.ownsRow.cells hown (g := g0) rfl) ad 1 c [u0, u1, u2, u3] (by simp [hsz]) hnews (by omega) (by omega) (growslice_fits (by omega) (by rw [hb]; omega))
        rw [hrun] at hr2
        injection hr2 with e1 e2
        subst e1
        right
        simp [Value.ownBlock] at hg'
        omega
  unfold Oper.wp execOp
  simp only [ho, resolve, invoke, builtin, Sem.run_bind, Sem.run_pure, Result.andThen_ok, List.map_toArray, List.map_cons, List.map_nil, hs, hx, hrun]
  exact hK _ _ (h v' w' h2 h3 hwh)
/-- The rows M lie in the state w (beside L) as the slice v of the images ms. -/
def ImS (W0 w : World) (v : Value) (ms : List Imv) (L : List Rg) (Bs : List Bxg) : Prop :=
  ∃ M A c, v = .slice A ms.length c ∧ ms.length ≤ c ∧ ImM M A c ms ∧ GS W0 w (M ++ L) Bs
theorem ImM.nil (lo hi : Nat) (A : Option Addr) (c : Nat) : ImM [hdrI lo hi A 0 c []] A c [] := ⟨lo, hi, [], [], rfl, rfl, rfl, fun i hi => by simp at hi⟩
section
variable {W0 w w' : World} {v : Value} {ms : List Imv} {L : List Rg} {Bs : List Bxg}
theorem ImS.call (h : ImS W0 w v ms L Bs) (hb : Below w.heap.size w w') : ImS W0 w' v ms L Bs := by
  obtain ⟨M, A, c, e, hc, hM, hG⟩ := h
  exact ⟨M, A, c, e, hc, hM, hG.call hb⟩
theorem ImS.drew (h : ImS W0 w v ms L Bs) : ImS W0 w.drew v ms L Bs := by
  obtain ⟨M, A, c, e, hc, hM, hG⟩ := h
  exact ⟨M, A, c, e, hc, hM, hG.drew⟩
theorem ImS.below (h : ImS W0 w v ms L Bs) : Below W0.heap.size W0 w := by
  obtain ⟨M, A, c, e, hc, hM, hG⟩ := h
  exact hG.below
theorem ImS.gs (h : ImS W0 w v ms L Bs) : GS W0 w L Bs := by
  obtain ⟨M, A, c, e, hc, hM, hG⟩ := h
  refine ⟨hG.1, fun t ht => hG.2.1 t (by simp [ht]), (List.pairwise_append.1 hG.2.2.1).2.1, fun b hb => ⟨(hG.2.2.2.1 b hb).1, (hG.2.2.2.1 b hb).2.1, fun t ht => (hG.2.2.2.1 b hb).2.2 t (by simp [ht])⟩, hG.2.2.2.2⟩
theorem ImS.nil (h : GS W0 w L Bs) : ImS W0 w (.slice none 0 0) [] L Bs :=
  ⟨[hdrI w.heap.size w.heap.size none 0 0 []], none, 0, rfl, Nat.le_refl _, ImM.nil _ _ _ _, h.addR (World.ownsRow_nil _ _ _ _) (Below.refl _ _)⟩
/-- An empty row, made in a box of no cells. -/
theorem ImS.made (h : GS W0 w L Bs) : ImS W0 (w.alloc (.cells #[] 25)) (.slice (some ⟨w.heap.size, 0, none⟩) 0 0) [] L Bs :=
  ⟨[hdrI w.heap.size (w.alloc (.cells #[] 25)).heap.size (some ⟨w.heap.size, 0, none⟩) 0 0 []], _, 0, rfl, Nat.le_refl _, ImM.nil _ _ _ _, h.addR (World.ownsRow_made w #[] 0 (Nat.le_refl _) (Nat.zero_le _) (by simp)) ((Below.refl _ _).alloc (Nat.le_refl _) _)⟩
/-- One more image: its row is the first of the others. -/
theorem ImM.snoc {cs : List Value} {R : List Rg} {A' : Option Addr} {c' lo' hi' : Nat} (hR : R.length = ms.length) (hcs : cs.length = ms.length * 4)
    (hm : ∀ i, i < ms.length → ∃ E lo hi Ai ci c', (imv ms i).ds.length ≤ ci ∧ cs[i * 4]? = some (.int .i64 (imv ms i).X) ∧ cs[i * 4 + 1]? = some (.int .i64 (imv ms i).Y) ∧ cs[i * 4 + 2]? = some (.int .i64 (imv ms i).Z) ∧ cs[i * 4 + 3]? = some (.slice Ai (imv ms i).ds.length ci) ∧ R[i]? = some (rt E 1 lo hi (.slice Ai (imv ms i).ds.length c') (imv ms i).ds.length (imv ms i).ds))
    (m : Imv) (E : TypeId) (l3 h3 : Nat) (A3 : Option Addr) (c3 c4 : Nat) (hc3 : m.ds.length ≤ c3) :
    ImM (hdrI lo' hi' A' (ms ++ [m]).length c' (cs ++ [.int .i64 m.X, .int .i64 m.Y, .int .i64 m.Z, .slice A3 m.ds.length c3]) :: (R ++ [rt E 1 l3 h3 (.slice A3 m.ds.length c4) m.ds.length m.ds])) A' c' (ms ++ [m]) := by
  refine ⟨lo', hi', _, _, rfl, by simp [hR], by simp [hcs]; omega, fun i hi => ?_⟩
  by_cases e : i = ms.length
  · subst e
    have e1 : imv (ms ++ [m]) ms.length = m := by unfold imv; simp [List.getD_eq_getElem?_getD]
    rw [e1]
    refine ⟨E, l3, h3, A3, c3, c4, hc3, ?_, ?_, ?_, ?_, ?_⟩
    · rw [List.getElem?_append_right (by omega), hcs, Nat.sub_self]; rfl
    · rw [List.getElem?_append_right (by omega), hcs, show ms.length * 4 + 1 - ms.length * 4 = 1 by omega]; rfl
    · rw [List.getElem?_append_right (by omega), hcs, show ms.length * 4 + 2 - ms.length * 4 = 2 by omega]; rfl
    · rw [List.getElem?_append_right (by omega), hcs, show ms.length * 4 + 3 - ms.length * 4 = 3 by omega]; rfl
    · rw [List.getElem?_append_right (by omega), hR, Nat.sub_self]; rfl
  · have hi2 : i < ms.length := by simp at hi; omega
    have e1 : imv (ms ++ [m]) i = imv ms i := by unfold imv; simp [List.getD_eq_getElem?_getD, List.getElem?_append_left hi2]
    rw [e1]
    obtain ⟨E2, l2, h2, A2, c2, c5, k1, k2, k3, k4, k5, k6⟩ := hm i hi2
    refine ⟨E2, l2, h2, A2, c2, c5, k1, ?_, ?_, ?_, ?_, ?_⟩
    · rw [List.getElem?_append_left (by omega)]; exact k2
    · rw [List.getElem?_append_left (by omega)]; exact k3
    · rw [List.getElem?_append_left (by omega)]; exact k4
    · rw [List.getElem?_append_left (by omega)]; exact k5
    · rw [List.getElem?_append_left (by omega)]; exact k6
theorem wpList_appIS {ops : Array Oper} {rest : List Oper} {o : Oper} {a : Act} {Q : Exit → Act → World → Prop} (hgd : o.guard = none) (s x : Operand)
    (ho : o.op = .call { callee := .builtin .append, args := #[s, x], argTypes := #[27, 27] })
    (E : TypeId) (l3 h3 : Nat) (A3 : Option Addr) (n3 c3 c4 : Nat) (m : Imv) (hs : a.eval s = v) (hI : ImS W0 w v ms (rt E 1 l3 h3 (.slice A3 m.ds.length c4) m.ds.length m.ds :: L) Bs)
    (ad : Addr) (c : Nat) (hx : a.eval x = .slice (some ad) 1 c) (hc3 : m.ds.length ≤ c3) (hn : ms.length ≤ 1000) (hn3 : n3 = m.ds.length)
    (x0 : w.cell? (ad.add 0) = some (.int .i64 m.X)) (x1 : w.cell? (ad.add 1) = some (.int .i64 m.Y)) (x2 : w.cell? (ad.add 2) = some (.int .i64 m.Z)) (x3 : w.cell? (ad.add 3) = some (.slice A3 n3 c3))
    (h : ∀ v' w', ImS W0 w' v' (ms ++ [m]) L Bs → wpList Try.prog ops Q rest (a.put o.dst v') w') : wpList Try.prog ops Q (o :: rest) a w := by
  subst hn3
  obtain ⟨M, A, c0, rfl, hc0, ⟨lo, hi, cs, R, rfl, hR, hcs, hm⟩, hG⟩ := hI
  have ho1 := hG.2.1 (hdrI lo hi A ms.length c0 cs) (by simp)
  refine wpList_appI hgd s x ho W0.heap.size (.slice A ms.length c0) ms.length cs hs (ownsRow_le ho1.1.1 ho1.2.1) ad c (.int .i64 m.X) (.int .i64 m.Y) (.int .i64 m.Z) (.slice A3 m.ds.length c3) hx ?_ ?_ hn ?_ ?_
  · intro j u hu
    match j with
    | 0 => simp at hu; subst hu; exact x0
    | 1 => simp at hu; subst hu; exact x1
    | 2 => simp at hu; subst hu; exact x2
    | 3 => simp at hu; subst hu; exact x3
    | j + 4 => simp at hu
  · intro u hu
    simp at hu
    rcases hu with rfl | rfl | rfl | rfl <;> rfl
  · exact hG.1.size
  · intro v' w' hO' hG' hW'
    obtain ⟨lo', hi', hG2⟩ := GS.growR (L1 := []) (t := hdrI lo hi A ms.length c0 cs) hG hO' hG' hW'
    obtain ⟨A', c', rfl, hc'⟩ : ∃ A' c', v' = .slice A' (ms ++ [m]).length c' ∧ (ms ++ [m]).length ≤ c' := by
      rcases hO'.2 with ⟨rfl, h0⟩ | ⟨g, cap, cur, rfl, _, _, hnc, _⟩
      · omega
      · exact ⟨some ⟨g, 0, none⟩, cap, by simp, by simpa using hnc⟩
    refine h _ w' ⟨_, A', c', rfl, hc', ImM.snoc (lo' := lo') (hi' := hi') hR hcs hm m E l3 h3 A3 c3 c4 hc3, ?_⟩
    refine hG2.perm ?_
    rw [List.nil_append, List.cons_append, List.append_assoc, show (ms ++ [m]).length = ms.length + 1 by simp]
    exact List.Perm.refl _
theorem GS.sub {L' : List Rg} {Bs' : List Bxg} (h : GS W0 w L Bs) (hl : L'.Sublist L) (hb : Bs'.Sublist Bs) : GS W0 w L' Bs' :=
  ⟨h.1, fun t ht => h.2.1 t (hl.subset ht), h.2.2.1.sublist hl, fun b hm => ⟨(h.2.2.2.1 b (hb.subset hm)).1, (h.2.2.2.1 b (hb.subset hm)).2.1, fun t ht => (h.2.2.2.1 b (hb.subset hm)).2.2 t (hl.subset ht)⟩, h.2.2.2.2.sublist hb⟩
theorem ImS.sub {L' : List Rg} {Bs' : List Bxg} (h : ImS W0 w v ms L Bs) (hl : L'.Sublist L) (hb : Bs'.Sublist Bs) : ImS W0 w v ms L' Bs' := by
  obtain ⟨M, A, c, e, hc, hM, hG⟩ := h
  exact ⟨M, A, c, e, hc, hM, hG.sub (hl.append_left M) hb⟩
theorem ImS.add {vv : Value} {xs : List Int} (h : ImS W0 w v ms L Bs) (hO : Own w' w.heap.size vv xs) (hb : Below w.heap.size w w') : ImS W0 w' v ms (ri w.heap.size w'.heap.size vv xs :: L) Bs := by
  obtain ⟨M, A, c, e, hc, hM, hG⟩ := h
  exact ⟨M, A, c, e, hc, hM, (hG.add hO hb).perm List.perm_middle.symm⟩
theorem ImS.box (h : ImS W0 w v ms L Bs) (T : TypeId) (cs : Array Value) (g : Nat) (hg : g = w.heap.size) : ImS W0 (w.alloc (.cells cs T)) v ms L (⟨g, T, cs⟩ :: Bs) := by
  obtain ⟨M, A, c, e, hc, hM, hG⟩ := h
  exact ⟨M, A, c, e, hc, hM, hG.box' T cs g hg⟩
theorem ImS.mark {lo hi : Nat} {vv : Value} {xs ys : List Int} (h : ImS W0 w v ms (ri lo hi vv xs :: L) Bs) (hO : Own w' lo vv ys) (hl : ys.length = xs.length) (hg : w.grownBy w' vv.ownBlock) : ImS W0 w' v ms (ri lo hi vv ys :: L) Bs := by
  obtain ⟨M, A, c, e, hc, hM, hG⟩ := h
  exact ⟨M, A, c, e, hc, hM, GS.mark hG hO hl hg⟩
theorem ImS.slice (h : ImS W0 w v ms L Bs) : ∃ A c, v = .slice A ms.length c ∧ ms.length ≤ c := by
  obtain ⟨M, A, c, e, hc, hM, hG⟩ := h
  exact ⟨A, c, e, hc⟩
theorem ImS.rds {A : Option Addr} {n c : Nat} (h : ImS W0 w (.slice A n c) ms L Bs) : Rdim w w.heap.size A ms := by
  obtain ⟨M, A', c', e, hc, hM, hG⟩ := h
  simp only [Value.slice.injEq] at e
  obtain ⟨rfl, _, _⟩ := e
  exact ImM.rds hG hM (fun t ht => List.mem_append.2 (.inl ht))
end
end Go.Proofs.Ytfeldhhbnhdodaa
