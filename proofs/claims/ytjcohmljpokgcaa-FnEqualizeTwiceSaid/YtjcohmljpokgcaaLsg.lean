/- A slice of slices that grows, each list in a row of its own. -/
import Derived.Test.YtjcohmljpokgcaaLss
namespace Go.Proofs.Ytjcohmljpokgcaa
open Go.RowKit Go.Shelf
set_option linter.unusedSimpArgs false
set_option linter.unusedVariables false

/-- The first row's slice is another one: the same block, or a new one. -/
theorem GS.swapR {W0 w w' : World} {t : Rg} {L : List Rg} {Bs : List Bxg} (h : GS W0 w (t :: L) Bs) {E : TypeId} {C n lo hi : Nat} {v : Value} {cs : List Value} (hO : w'.ownsRow lo E C v n cs) (hv : ∀ g, v.ownBlock = some g → g < hi) (hb : (lo = t.lo ∧ hi = t.hi) ∨ (lo = w.heap.size ∧ hi = w'.heap.size)) (hg : w.grownBy w' t.v.ownBlock) :
    GS W0 w' (⟨lo, hi, E, C, v, n, cs⟩ :: L) Bs := by
  have hs := hg.size
  have ht := h.2.1 t (by simp)
  have hp := List.pairwise_cons.1 h.2.2.1
  have hlt := World.ownsRow.lt ht.1.1
  refine ⟨h.1.grown hg h.1.size (fun k hk => by have := (hlt k hk).1; have := ht.2.1; omega), ?_, ?_, ?_, h.2.2.2.2⟩
  · intro s hs'
    rcases List.mem_cons.1 hs' with rfl | hm
    · refine ⟨⟨hO, hv⟩, ?_, ?_⟩
      · have := ht.2.1; have := h.1.size; show W0.heap.size ≤ lo; omega
      · have := ht.2.2; show hi ≤ w'.heap.size; omega
    · have hs2 := h.2.1 s (by simp [hm])
      have hd := hp.1 s hm
      refine ⟨hs2.1.keep fun g h1 h2 => hg.block g (by omega) (fun e => ?_), hs2.2.1, by omega⟩
      have h3 := (hlt g e.symm).1
      have h4 := ht.1.2 g e.symm
      unfold Rg.apart at hd
      omega
  · refine List.pairwise_cons.2 ⟨fun a ha => ?_, hp.2⟩
    have h1 := hp.1 a ha
    have h2 := (h.2.1 a (by simp [ha])).2.2
    unfold Rg.apart at h1 ⊢
    show a.hi ≤ lo ∨ hi ≤ a.lo
    omega
  · intro b hm
    have hb2 := h.2.2.2.1 b hm
    have hbl := hb2.1.lt
    refine ⟨(hg.block b.g hb2.1.lt (fun e => ?_)).trans hb2.1, hb2.2.1, fun s hs' => ?_⟩
    · have h1 := hb2.2.2 t (by simp)
      have h3 := (hlt b.g e.symm).1
      have h4 := ht.1.2 b.g e.symm
      omega
    · rcases List.mem_cons.1 hs' with rfl | hm
      · have h1 := hb2.2.2 t (by simp)
        show hi ≤ b.g ∨ b.g < lo
        omega
      · exact hb2.2.2 s (by simp [hm])
theorem ownsRow_base {w : World} {base base' : Nat} {E : TypeId} {C n : Nat} {v : Value} {cs : List Value} (h : w.ownsRow base E C v n cs) (hb : base' ≤ base) : w.ownsRow base' E C v n cs := by
  refine ⟨h.1, ?_⟩
  rcases h.2 with h2 | ⟨g, cap, cur, hv, hbg, r⟩
  · exact .inl h2
  · exact .inr ⟨g, cap, cur, hv, by omega, r⟩
theorem ownsRow_up {w : World} {base base' : Nat} {E : TypeId} {C n : Nat} {v : Value} {cs : List Value} (h : w.ownsRow base E C v n cs) (hb : ∀ g, v.ownBlock = some g → base' ≤ g) : w.ownsRow base' E C v n cs := by
  refine ⟨h.1, ?_⟩
  rcases h.2 with h2 | ⟨g, cap, cur, hv, hbg, r⟩
  · exact .inl h2
  · exact .inr ⟨g, cap, cur, hv, hb g (by rw [hv]; rfl), r⟩
/-- The slice v of the call's own holds the lists xss, each in a row of its own. -/
def LsG (W0 w : World) (v : Value) (xss : List (List Int)) (Bs : List Bxg) (d : Nat) : Prop :=
  ∃ M A c, v = .slice A xss.length c ∧ xss.length ≤ c ∧ LsM M A c xss ∧ GS W0 w M Bs ∧ ∀ t ∈ M, d ≤ t.lo
theorem LsG.nil {W0 w : World} {Bs : List Bxg} {d : Nat} (h : GS W0 w [] Bs) (hd : d ≤ w.heap.size) : LsG W0 w (.slice .none 0 0) [] Bs d := by
  refine ⟨[hdr w.heap.size w.heap.size .none 0 0 []], .none, 0, rfl, Nat.le_refl _, ⟨w.heap.size, w.heap.size, [], [], rfl, rfl, fun i hi => by simp at hi⟩, ⟨h.1, ?_, List.pairwise_singleton _ _, ?_, h.2.2.2.2⟩, fun t ht => by obtain rfl : t = _ := List.mem_singleton.1 ht; exact hd⟩
  · intro t ht
    obtain rfl : t = _ := List.mem_singleton.1 ht
    exact ⟨⟨World.ownsRow_nil _ _ _ _, fun g hg => by simp [hdr, Value.ownBlock] at hg⟩, h.1.size, Nat.le_refl _⟩
  · intro b hm
    refine ⟨(h.2.2.2.1 b hm).1, (h.2.2.2.1 b hm).2.1, fun t ht => ?_⟩
    obtain rfl : t = _ := List.mem_singleton.1 ht
    exact .inr (h.2.2.2.1 b hm).1.lt
theorem LsG.none {W0 w : World} {Bs : List Bxg} {d : Nat} (h : GS W0 w [] Bs) (hd : d ≤ w.heap.size) : LsG W0 (w.alloc (.cells #[] 23)) (.slice (some ⟨w.heap.size, 0, .none⟩) 0 0) [] Bs d :=
  ⟨[hdr w.heap.size (w.alloc (.cells #[] 23)).heap.size (some ⟨w.heap.size, 0, .none⟩) 0 0 []], _, 0, rfl, Nat.le_refl _, ⟨_, _, [], [], rfl, rfl, fun i hi => by simp at hi⟩,
    h.addR (World.ownsRow_made w #[] 0 (Nat.le_refl _) (Nat.zero_le _) (by simp)) ((Below.refl _ _).alloc (Nat.le_refl _) _), fun t ht => by obtain rfl : t = _ := List.mem_singleton.1 ht; exact hd⟩
section
variable {W0 w w' : World} {v : Value} {xss : List (List Int)} {Bs : List Bxg} {d : Nat}
theorem LsG.slice (h : LsG W0 w v xss Bs d) : ∃ A c, v = .slice A xss.length c ∧ xss.length ≤ c := by
  obtain ⟨M, A, c, h1, h2, _⟩ := h
  exact ⟨A, c, h1, h2⟩
theorem LsG.rdss {A : Option Addr} {n c : Nat} (h : LsG W0 w (.slice A n c) xss Bs d) : Rdss w w.heap.size A xss := by
  obtain ⟨M, A', c', h1, h2, h3, h4, h5⟩ := h
  simp only [Value.slice.injEq] at h1
  obtain ⟨rfl, _, _⟩ := h1
  exact LsM.rds h4 h3 (fun t ht => ht)
theorem LsG.call (h : LsG W0 w v xss Bs d) (hB : Below w.heap.size w w') : LsG W0 w' v xss Bs d := by
  obtain ⟨M, A, c, h1, h2, h3, h4, h5⟩ := h
  exact ⟨M, A, c, h1, h2, h3, h4.call hB, h5⟩
theorem LsG.box (h : LsG W0 w v xss Bs d) (T : TypeId) (cs : Array Value) (g : Nat) (hg : g = w.heap.size) : LsG W0 (w.alloc (.cells cs T)) v xss (⟨g, T, cs⟩ :: Bs) d := by
  obtain ⟨M, A, c, h1, h2, h3, h4, h5⟩ := h
  exact ⟨M, A, c, h1, h2, h3, h4.box' T cs g hg, h5⟩
theorem LsG.below (h : LsG W0 w v xss Bs d) : Below W0.heap.size W0 w := by
  obtain ⟨M, A, c, h1, h2, h3, h4, h5⟩ := h
  exact h4.below
theorem LsG.bx (h : LsG W0 w v xss Bs d) {g : Nat} {T : TypeId} {cs : Array Value} (hm : ⟨g, T, cs⟩ ∈ Bs) : Bx w g T cs := by
  obtain ⟨M, A, c, h1, h2, h3, h4, h5⟩ := h
  exact h4.bx hm
theorem LsG.drop (h : LsG W0 w v xss Bs d) : LsG W0 w v xss [] d := by
  obtain ⟨M, A, c, h1, h2, h3, h4, h5⟩ := h
  exact ⟨M, A, c, h1, h2, h3, ⟨h4.1, h4.2.1, h4.2.2.1, by simp, .nil⟩, h5⟩
theorem LsG.other {b : Bxg} (h : LsG W0 w v xss (b :: Bs) d) : LsG W0 w v xss Bs d := by
  obtain ⟨M, A, c, h1, h2, h3, h4, h5⟩ := h
  exact ⟨M, A, c, h1, h2, h3, ⟨h4.1, h4.2.1, h4.2.2.1, fun b hm => h4.2.2.2.1 b (by simp [hm]), (List.pairwise_cons.1 h4.2.2.2.2).2⟩, h5⟩
theorem LsG.own (h : LsG W0 w v xss Bs d) : ∀ g, v.ownBlock = some g → d ≤ g ∧ W0.heap.size ≤ g ∧ g < w.heap.size := by
  obtain ⟨M, A, c, rfl, h2, ⟨lo, hi, cs, R, rfl, _⟩, h4, hd⟩ := h
  intro g hg
  have ht := h4.2.1 _ (List.mem_cons_self ..)
  have h5 := World.ownsRow.lt ht.1.1 g hg
  have := ht.2.1
  have := hd _ (List.mem_cons_self ..)
  simp only [hdr] at *
  omega
/-- A block that is none of the rows and boxes is written. -/
theorem GS.off {L : List Rg} (h : GS W0 w L Bs) {mb : Nat} (hG : w.grownBy w' (some mb)) (h0 : W0.heap.size ≤ mb) (hL : ∀ t ∈ L, mb < t.lo) (hB : ∀ b ∈ Bs, b.g ≠ mb) : GS W0 w' L Bs :=
  ⟨h.1.grown hG h.1.size (fun k hk => by injection hk with hk; omega), fun t ht => ⟨(h.2.1 t ht).1.keep fun g h1 h2 => hG.block g (by have := (h.2.1 t ht).2.2; omega) (fun e => by injection e with e; have := hL t ht; omega), (h.2.1 t ht).2.1, Nat.le_trans (h.2.1 t ht).2.2 hG.size⟩, h.2.2.1,
    fun b hm => ⟨(hG.block b.g (h.2.2.2.1 b hm).1.lt (fun e => by injection e with e; exact hB b hm e)).trans (h.2.2.2.1 b hm).1, (h.2.2.2.1 b hm).2⟩, h.2.2.2.2⟩
theorem LsG.off (h : LsG W0 w v xss Bs d) {mb : Nat} (hG : w.grownBy w' (some mb)) (h0 : W0.heap.size ≤ mb) (hd : mb < d) (hB : ∀ b ∈ Bs, b.g ≠ mb) : LsG W0 w' v xss Bs d := by
  obtain ⟨M, A, c, h1, h2, h3, h4, h5⟩ := h
  exact ⟨M, A, c, h1, h2, h3, h4.off hG h0 (fun t ht => Nat.lt_of_lt_of_le hd (h5 t ht)) hB, h5⟩
/-- 'append' with one list whose row is there. -/
theorem wp_appG {o : Oper} {a : Act} {K : Act → World → Prop} {Q : Exit → Act → World → Prop} (s x : Operand)
    (ho : o.op = .call { callee := .builtin .append, args := #[s, x], argTypes := #[26, 26] })
    (W0 : World) (M : List Rg) (Bs : List Bxg) (A : Option Addr) (c0 : Nat) (xss : List (List Int)) (hs : a.eval s = .slice A xss.length c0) (hM : LsM M A c0 xss)
    (p c lo hh : Nat) (E : TypeId) (A3 : Option Addr) (ys : List Int) (n3 c3 c3' : Nat) (hG : GS W0 w (rt E 1 lo hh (.slice A3 n3 c3') n3 ys :: M) Bs) (hx : a.eval x = .slice (some ⟨p, 0, .none⟩) 1 c) (hn3 : n3 = ys.length) (hcell : w.cell? ⟨p, 0, .none⟩ = some (.slice A3 n3 c3)) (hys : ys.length ≤ c3) (hn : xss.length ≤ 1000) (hd : ∀ t ∈ M, d ≤ t.lo) (hdl : d ≤ lo) (hlo : lo ≤ w.heap.size)
    (h : ∀ v' w', LsG W0 w' v' (xss ++ [ys]) Bs d → w.grownBy w' (Value.slice A xss.length c0).ownBlock → K (a.put o.dst v') w') : o.wp Try.prog a w K Q := by
  subst hn3
  obtain ⟨lo1, hi1, cs, R, rfl, hRl, hR⟩ := hM
  have hG2 : GS W0 w (hdr lo1 hi1 A xss.length c0 cs :: rt E 1 lo hh (.slice A3 ys.length c3') ys.length ys :: R) Bs := hG.perm (List.Perm.swap _ _ _)
  have ht := hG2.2.1 _ (List.mem_cons_self ..)
  have hown0 : w.ownsRow lo1 23 1 (.slice A xss.length c0) xss.length cs := ht.1.1
  have hown : w.ownsRow W0.heap.size 23 1 (.slice A xss.length c0) xss.length cs := ownsRow_base hown0 ht.2.1
  have hbase : W0.heap.size ≤ w.heap.size := hG2.1.size
  obtain ⟨i, hi, hz, hsz, hb⟩ := info_parts info_list
  have hnews : ∀ j u, [Value.slice A3 ys.length c3][j]? = some u → w.cell? ((⟨p, 0, .none⟩ : Addr).add j) = some u := by
    intro j u hu
    match j with
    | 0 => simp at hu; subst hu; simpa [Addr.add] using hcell
    | j + 1 => simp at hu
  have h1 : ∀ u ∈ [Value.slice A3 ys.length c3], u.oneCell' = true := by intro u hu; simp at hu; subst hu; rfl
  obtain ⟨v', w', hrun, h2, h3, h4⟩ := run_append_own (P := Try.prog) w W0.heap.size 26 o.type 23 i _ 1 24 Try.underlying26 hi hz hsz hb rfl (by omega) (.slice A xss.length c0) xss.length cs hown ⟨p, 0, .none⟩ 1 c [.slice A3 ys.length c3] (by simp) hnews h1 (by unfold maxLen; omega) (by omega) hbase
  have hwh : (∀ g, v'.ownBlock = some g → (Value.slice A xss.length c0).ownBlock = some g) ∨ (∀ g, v'.ownBlock = some g → w.heap.size ≤ g) := by
    rcases hown.2 with ⟨hv, h0⟩ | ⟨g0, cap, cur, hv, hbg, hg, hnc, hcm, hcs, htake⟩
    · simp only [Value.slice.injEq] at hv
      obtain ⟨rfl, _, rfl⟩ := hv
      have hx0 : cs = [] := List.eq_nil_of_length_eq_zero (by have := hown.1; omega)
      subst hx0
      obtain ⟨v2, w2, hr2, h22, _⟩ := run_append_own (P := Try.prog) w w.heap.size 26 o.type 23 i _ 1 24 Try.underlying26 hi hz hsz hb rfl (by omega) (.slice .none 0 0) 0 [] (World.ownsRow_nil _ _ _ _) ⟨p, 0, .none⟩ 1 c [.slice A3 ys.length c3] (by simp) hnews h1 (by unfold maxLen; omega) (by omega) (Nat.le_refl _)
      rw [h0] at hrun
      rw [hrun] at hr2
      injection hr2 with e1 e2
      subst e1
      right
      intro g hg
      exact (World.ownsRow.lt h22 g hg).1
    · simp only [Value.slice.injEq] at hv
      obtain ⟨rfl, _, rfl⟩ := hv
      by_cases hroom : xss.length + 1 ≤ c0
      · have hr2 := run_append_room (P := Try.prog) w 26 o.type 23 i Try.underlying26 hi g0 xss.length c0 cur hg ⟨p, 0, .none⟩ 1 c [.slice A3 ys.length c3] (by simp [hsz]) hnews h1 hroom (by rw [hsz, hcs]; simp; omega)
        rw [hrun] at hr2
        injection hr2 with e1 e2
        subst e1
        exact .inl fun g hg => hg
      · have hr2 := run_append_grow (P := Try.prog) w 26 o.type 23 i _ Try.underlying26 hi hz ⟨g0, 0, .none⟩ xss.length c0 cs (by rw [hsz]; exact hown.1) (World.ownsRow.cells hown (g := g0) rfl) ⟨p, 0, .none⟩ 1 c [.slice A3 ys.length c3] (by simp [hsz]) hnews (by omega) (by omega) (growslice_fits (by omega) (by rw [hb]; omega))
        rw [hrun] at hr2
        injection hr2 with e1 e2
        subst e1
        right
        intro g hg'
        simp [Value.ownBlock] at hg'
        omega
  have hlen : cs.length = xss.length := by have := hown.1; omega
  have hLn : LsG W0 w' v' (xss ++ [ys]) Bs d := by
    have hd1 : d ≤ lo1 := hd _ (List.mem_cons_self ..)
    have hsl : ∃ A' c', v' = .slice A' (xss.length + 1) c' ∧ xss.length + 1 ≤ c' := by
      rcases h2.2 with ⟨_, h0⟩ | ⟨g, cap, cur, hv, _, _, hnc, _⟩
      · simp at h0
      · exact ⟨_, cap, by simpa using hv, by simpa using hnc⟩
    obtain ⟨A', c', rfl, hc'⟩ := hsl
    have hst : ∃ lo2 hi2, w'.ownsRow lo2 23 1 (.slice A' (xss.length + 1) c') (xss.length + 1) (cs ++ [.slice A3 ys.length c3]) ∧ (∀ g, (Value.slice A' (xss.length + 1) c').ownBlock = some g → g < hi2) ∧ ((lo2 = lo1 ∧ hi2 = hi1) ∨ (lo2 = w.heap.size ∧ hi2 = w'.heap.size)) := by
      rcases hwh with hw | hw
      · exact ⟨lo1, hi1, ownsRow_up (by simpa using h2) (fun g hg => (World.ownsRow.lt hown0 g (hw g hg)).1), fun g hg => ht.1.2 g (hw g hg), .inl ⟨rfl, rfl⟩⟩
      · exact ⟨w.heap.size, w'.heap.size, ownsRow_up (by simpa using h2) hw, fun g hg => (World.ownsRow.lt h2 g hg).2, .inr ⟨rfl, rfl⟩⟩
    obtain ⟨lo2, hi2, hO2, hh2, hor⟩ := hst
    have hS := GS.swapR hG2 hO2 hh2 hor h3
    have e0 : (xss ++ [ys]).length = xss.length + 1 := by simp
    refine ⟨hdr lo2 hi2 A' (xss.length + 1) c' (cs ++ [.slice A3 ys.length c3]) :: (R ++ [rt E 1 lo hh (.slice A3 ys.length c3') ys.length ys]), A', c', by rw [e0], by rw [e0]; exact hc', ⟨lo2, hi2, _, _, by rw [e0], by simp [hRl], fun j hj => ?_⟩, ?_, fun t ht => ?_⟩
    · by_cases e : j = xss.length
      · subst e
        have e1 : (xss ++ [ys]).getD xss.length [] = ys := by simp [List.getD_eq_getElem?_getD]
        rw [e1]
        exact ⟨E, lo, hh, A3, c3, c3', hys, by rw [← hlen, List.getElem?_append_right (Nat.le_refl _), Nat.sub_self]; rfl, by rw [← hRl, List.getElem?_append_right (Nat.le_refl _), Nat.sub_self]; rfl⟩
      · have hj2 : j < xss.length := by simp at hj; omega
        have e1 : (xss ++ [ys]).getD j [] = xss.getD j [] := by simp [List.getD_eq_getElem?_getD, List.getElem?_append_left hj2]
        rw [e1]
        obtain ⟨Ej, lj, hj', Aj, cj, cj', k1, k2, k3⟩ := hR j hj2
        exact ⟨Ej, lj, hj', Aj, cj, cj', k1, by rw [List.getElem?_append_left (by omega)]; exact k2, by rw [List.getElem?_append_left (by omega)]; exact k3⟩
    · exact hS.perm (List.Perm.cons _ (List.perm_append_singleton _ _).symm)
    · rcases List.mem_cons.1 ht with rfl | ht
      · show d ≤ lo2
        omega
      · rcases List.mem_append.1 ht with ht | ht
        · exact hd _ (List.mem_cons_of_mem _ ht)
        · obtain rfl : t = _ := List.mem_singleton.1 ht
          exact hdl
  unfold Oper.wp execOp
  simp only [ho, resolve, invoke, builtin, Sem.run_bind, Sem.run_pure, Result.andThen_ok, List.map_toArray, List.map_cons, List.map_nil, hs, hx, hrun]
  exact h v' w' hLn h3
theorem wpList_appG {ops : Array Oper} {rest : List Oper} {o : Oper} {a : Act} {Q : Exit → Act → World → Prop} (hgd : o.guard = .none) (s x : Operand)
    (ho : o.op = .call { callee := .builtin .append, args := #[s, x], argTypes := #[26, 26] })
    (W0 : World) (M : List Rg) (Bs : List Bxg) (A : Option Addr) (c0 : Nat) (xss : List (List Int)) (hs : a.eval s = .slice A xss.length c0) (hM : LsM M A c0 xss)
    (p c lo hh : Nat) (E : TypeId) (A3 : Option Addr) (ys : List Int) (n3 c3 c3' : Nat) (hG : GS W0 w (rt E 1 lo hh (.slice A3 n3 c3') n3 ys :: M) Bs) (hx : a.eval x = .slice (some ⟨p, 0, .none⟩) 1 c) (hn3 : n3 = ys.length) (hcell : w.cell? ⟨p, 0, .none⟩ = some (.slice A3 n3 c3)) (hys : ys.length ≤ c3) (hn : xss.length ≤ 1000) (hd : ∀ t ∈ M, d ≤ t.lo) (hdl : d ≤ lo) (hlo : lo ≤ w.heap.size)
    (h : ∀ v' w', LsG W0 w' v' (xss ++ [ys]) Bs d → w.grownBy w' (Value.slice A xss.length c0).ownBlock → wpList Try.prog ops Q rest (a.put o.dst v') w') : wpList Try.prog ops Q (o :: rest) a w :=
  wpList_plain hgd fun _ hK => wp_appG s x ho W0 M Bs A c0 xss hs hM p c lo hh E A3 ys n3 c3 c3' hG hx hn3 hcell hys hn hd hdl hlo fun v' w' h1 h2 => hK _ _ (h v' w' h1 h2)
end
end Go.Proofs.Ytjcohmljpokgcaa
