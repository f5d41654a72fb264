/- Contracts of the drawing of two rows, a kind and a step. -/
import Derived.Test.YtfplmegpkhlhfaaSpoil
import Derived.Maps.AppendAt
namespace Go.Proofs.Ytfplmegpkhlhfaa
open Go.RowKit
set_option linter.unusedSimpArgs false
set_option linter.unusedVariables false

/-- 'append' onto a row of the call's own, whatever the source; and where the new row lies. -/
theorem wp_app2 {w : World} {o : Oper} {a : Act} {K : Act → World → Prop} {Q : Exit → Act → World → Prop} (s x : Operand)
    (ho : o.op = .call { callee := .builtin .append, args := #[s, x], argTypes := #[23, 23] })
    (base : Nat) (v : Value) (xs : List Int) (hs : a.eval s = v) (hown : Own w base v xs)
    (A : Option Addr) (m c B : Nat) (ys : List Int) (hx : a.eval x = .slice A m c) (hm : m = ys.length) (hr : Rds .i64 w B A ys) (hl : xs.length + ys.length ≤ 10000000) (hbase : base ≤ w.heap.size)
    (h : ∀ v' w', Own w' base v' (xs ++ ys) → w.grownBy w' v.ownBlock → (v'.ownBlock = v.ownBlock ∨ v'.ownBlock = some w.heap.size) → K (a.put o.dst v') w') : o.wp Try.prog a w K Q := by
  obtain ⟨i, hi, hz, hsz, hb⟩ := info_parts info_int
  subst hm
  rcases A with _ | ad
  · have hy : ys = [] := by
      rcases hr with h | ⟨b, off, h, _⟩
      · exact h
      · cases h
    subst hy
    have hrun : (Builtin.append_ #[23, 23] o.type #[v, .slice none 0 c]).run Try.prog w = .ok v w := by
      rcases hown.2 with ⟨rfl, h0⟩ | ⟨g, cap, cur, rfl, _, _, hnc, _⟩
      · simp [Builtin.append_, run_underlying Try.underlying23, sizeOf, typeInfo, hi, Builtin.lenOf, Builtin.firstCells]
      · simp [Builtin.append_, run_underlying Try.underlying23, sizeOf, typeInfo, hi, Builtin.lenOf, Builtin.firstCells, hnc, storeCells]
    unfold Oper.wp
    simp [execOp, ho, resolve, invoke, builtin, hs, hx, hrun, Result.andThen]
    exact h v w (by simpa using hown) (World.grownBy.refl _ _) (.inl rfl)
  · have hnews : ∀ j u, (ys.map (Value.int .i64))[j]? = some u → w.cell? (ad.add j) = some u := by
      intro j u hu
      rcases hr with rfl | ⟨b, off, h1, _, hc⟩
      · simp at hu
      · obtain rfl := Option.some.inj h1
        have hj : j < ys.length := by
          rcases Nat.lt_or_ge j ys.length with h | h
          · exact h
          · simp [List.getElem?_eq_none h] at hu
        have hcj := hc j hj
        have e : (⟨b, off, none⟩ : Addr).add j = ⟨b, off + j, none⟩ := add_spot rfl j
        rw [e, hcj]
        simp [hj] at hu ⊢
        exact hu
    obtain ⟨v', w', hrun, h2, h3, _, h5⟩ := run_append_own_at (P := Try.prog) w base 23 o.type 3 i (.int .i64 0) 1 8 Try.underlying23 hi hz hsz hb rfl (by omega) v xs.length (xs.map (.int .i64)) hown ad ys.length c (ys.map (.int .i64)) (by simp) hnews (ints_oneCell _ _) (by unfold maxLen; omega) (by omega) hbase
    unfold Oper.wp execOp
    simp only [ho, resolve, invoke, builtin, Sem.run_bind, Sem.run_pure, Result.andThen_ok, List.map_toArray, List.map_cons, List.map_nil, hs, hx, hrun]
    exact h v' w' (by unfold Own; simpa using h2) h3 h5
theorem wpList_app2 {w : World} {ops : Array Oper} {rest : List Oper} {o : Oper} {a : Act} {Q : Exit → Act → World → Prop} (hgd : o.guard = none) (s x : Operand)
    (ho : o.op = .call { callee := .builtin .append, args := #[s, x], argTypes := #[23, 23] })
    (base : Nat) (v : Value) (xs : List Int) (hs : a.eval s = v) (hown : Own w base v xs)
    (A : Option Addr) (m c B : Nat) (ys : List Int) (hx : a.eval x = .slice A m c) (hm : m = ys.length) (hr : Rds .i64 w B A ys) (hl : xs.length + ys.length ≤ 10000000) (hbase : base ≤ w.heap.size)
    (h : ∀ v' w', Own w' base v' (xs ++ ys) → w.grownBy w' v.ownBlock → (v'.ownBlock = v.ownBlock ∨ v'.ownBlock = some w.heap.size) → wpList Try.prog ops Q rest (a.put o.dst v') w') : wpList Try.prog ops Q (o :: rest) a w :=
  wpList_plain hgd fun _ hK => wp_app2 s x ho base v xs hs hown A m c B ys hx hm hr hl hbase fun v' w' h1 h2 h3 => hK _ _ (h v' w' h1 h2 h3)
/-- Two slices that own no block together. -/
def Dj (u v : Value) : Prop := ∀ g, u.ownBlock = some g → v.ownBlock ≠ some g
theorem Dj.symm {u v : Value} (h : Dj u v) : Dj v u := fun g h1 h2 => h g h2 h1
/-- Behind an append to u, v is as it was. -/
theorem app_other {w w' : World} {base base2 : Nat} {u v u' : Value} {xs ys : List Int} {o : Obj} (hO : Own w base2 v ys) (hd : Dj u v) (hu : Own w base u xs) (hG : (w.alloc o).grownBy w' u.ownBlock) (hw : u'.ownBlock = u.ownBlock ∨ u'.ownBlock = some (w.alloc o).heap.size) : Own w' base2 v ys ∧ Dj u' v := by
  have hO1 := hO.alloc o
  refine ⟨hO1.keep fun g hg => hG.block g (hO1.lt g hg).2 (fun e => hd g e.symm hg), ?_⟩
  intro g hg hv
  rcases hw with h | h
  · exact hd g (h ▸ hg) hv
  · rw [h] at hg
    injection hg with hg
    have := (hO.lt g hv).2
    simp at hg
    omega
theorem app_rdr {g N : Nat} {w w' : World} {base : Nat} {u : Value} {xs : List Int} {o : Obj} (h : Rdr w g N) (hu : Own w base u xs) (hb : g < base) (hG : (w.alloc o).grownBy w' u.ownBlock) : Rdr w' g N :=
  (h.alloc o).grown hG (fun k hk => by have := (hu.lt k hk).1; omega)
theorem app_grown {g : Nat} {W w w' : World} {u : Value} {xs : List Int} {o : Obj} (h : W.grownBy w (some g)) (hu : Own w W.heap.size u xs) (hG : (w.alloc o).grownBy w' u.ownBlock) : W.grownBy w' (some g) :=
  gmix (gtrans h (World.grownBy_alloc w o (some g))) hG (fun j hj => (hu.lt j hj).1)
/-- Drawn: two short rows. -/
def Drawn2 (g N : Nat) (w : World) (e : Ending) (w' : World) : Prop :=
  ∃ (A A' : Option Addr) (c c' : Nat) (xs bs : List Int), e = .returned (.tuple #[.slice A xs.length c, .slice A' bs.length c']) ∧ xs.length ≤ 13 ∧ bs.length ≤ 12 ∧ Rds .i64 w' w'.heap.size A xs ∧ Rds .i64 w' w'.heap.size A' bs ∧ Rdr w' g N ∧ w.grownBy w' (some g) ∧ (∀ b : Addr, A = some b → w.heap.size ≤ b.block) ∧ (∀ b : Addr, A' = some b → w.heap.size ≤ b.block)
/-- What the loop keeps: two rows, r rounds to go. -/
structure Rel2 (g N M : Nat) (W w : World) (u v : Value) (r : Nat) (xs ys : List Int) : Prop where
  hr : r ≤ M
  hx : xs.length + r = M
  hy : ys.length = xs.length
  hu : Own w W.heap.size u xs
  hv : Own w W.heap.size v ys
  hd : Dj u v
  rd : Rdr w g (N + 2 + 2 * xs.length)
  gr : W.grownBy w (some g)
set_option maxHeartbeats 8000000 in
theorem anyRows_any (g N : Nat) (w : World) (h : Rdr w g N) (hN : N ≤ 10000000) :
    Calls Try.prog 10 #[.pointer (some ⟨g, 0, none⟩)] w (Drawn2 g (N + 40) w) := by
  have hgl := h.lt
  have hOa : Own ((w.alloc (.cells #[] 3)).alloc (.cells #[] 3)) w.heap.size (.slice (some ⟨w.heap.size, 0, none⟩) 0 0) [] := (own_none w).alloc _
  have hOb : Own ((w.alloc (.cells #[] 3)).alloc (.cells #[] 3)) w.heap.size (.slice (some ⟨w.heap.size + 1, 0, none⟩) 0 0) [] := by
    have := own_none (w.alloc (.cells #[] 3))
    simp at this
    exact this.base_le (by omega)
  have hDj : Dj (.slice (some ⟨w.heap.size, 0, none⟩) 0 0) (.slice (some ⟨w.heap.size + 1, 0, none⟩) 0 0) := by
    intro k h1 h2
    simp [Value.ownBlock] at h1 h2
    omega
  have hR0 := (h.alloc (.cells #[] 3)).alloc (.cells #[] 3)
  have hG0 : w.grownBy ((w.alloc (.cells #[] 3)).alloc (.cells #[] 3)) (some g) := gtrans (World.grownBy_alloc w _ _) (World.grownBy_alloc _ _ _)
  go_enter Try.func10, Try.ntmps10
  go_wp2_with fail
  refine (pick_any 256 g N _ hR0 (by omega) (by omega)).mono ?_
  intro e w2 hp
  obtain ⟨at0, rfl, hat, hR2, hG2, hs2⟩ := picked_nat hp (by omega)
  have hOa2 := hOa.off hG2 hgl
  have hOb2 := hOb.off hG2 hgl
  have hGw2 := gtrans hG0 hG2
  clear hp hs2 hOa hOb hR0 hG0 hG2 h
  go_wp2_with fail
  refine (one_lit _ [6, 9, 4, 1, 0, 12] 6 6 g (N + 1) w2 hR2 (by omega) (by simp) (by simp) rfl rfl).mono ?_
  rintro e w3 ⟨m, rfl, hm, hR3, hG3⟩
  have hm' : 0 ≤ m ∧ m ≤ 12 := by simp at hm; omega
  obtain ⟨M, rfl⟩ := Int.eq_ofNat_of_zero_le hm'.1
  have hM : M ≤ 12 := by omega
  have HI : Hid (Rel2 g N M w w3 (.slice (some ⟨w.heap.size, 0, none⟩) 0 0) (.slice (some ⟨w.heap.size + 1, 0, none⟩) 0 0) M [] []) :=
    Lib.hid ⟨Nat.le_refl _, by simp, rfl, hOa2.off hG3 hgl, hOb2.off hG3 hgl, hDj, hR3, gtrans hGw2 hG3⟩
  clear hm hm' hOa2 hOb2 hGw2 hR2 hG3 hDj hR3
  go_wp2
  go_loopw [4, 5, 6, 7] (fun u v a n wr => ∃ (r : Nat) (at1 : Int) (xs ys : List Int), (0 ≤ at1 ∧ at1 < 256) ∧ a = .int .i64 at1 ∧ n = .int .i64 r ∧ Hid (Rel2 g N M w wr u v r xs ys)) (fun _ _ _ n _ => (intOf n).toNat)
  case atStart => exact ⟨M, at0, [], [], ⟨by omega, by omega⟩, rfl, rfl, HI⟩
  case round =>
    obtain ⟨r, at1, xs, ys, hat1, rfl, rfl, hI⟩ := hrel
    obtain ⟨i1, i2, i3, i4, i5, i6, i7, i8⟩ := hI.out
    obtain ⟨A1, c1, rfl, hc1⟩ := i4.slice
    obtain ⟨A2, c2, rfl, hc2⟩ := i5.slice
    have HX := Lib.hid i2
    have HY := Lib.hid i3
    have hxl : xs.length ≤ 12 := by omega
    have hyl : ys.length ≤ 12 := by omega
    clear i2 i3 hI HI
    by_cases hpos : 0 < r
    · go_wp2_with fail
      refine (pick_any 9 g _ wr i7 (by omega) (by omega)).mono ?_
      intro e w5 hp
      obtain ⟨k1, rfl, hk1, hR5, hG5, hs5⟩ := picked_nat hp (by omega)
      have hu5 := i4.off hG5 hgl
      have hv5 := i5.off hG5 hgl
      have hg5 := gtrans i8 hG5
      have hsz5 := hg5.size
      clear hp hs5 i4 i5 i7 i8 hG5
      go_wp2_with (at_builtin; refine wpList_app2 rfl (.tmp 25) (.tmp 27) rfl w.heap.size (.slice A1 xs.length c1) xs rfl (hu5.alloc _) (some ⟨w5.heap.size, 0, none⟩) 1 1 _ [((at1 : Int) + (k1 : Int) + 252) % 256] rfl rfl (rds_one w5 _) (by simp; omega) (by simp; omega) ?_; intro v6 w6 hO6 hG6 hD6)
      obtain ⟨hv6, hDj6⟩ := app_other hv5 i6 hu5 hG6 hD6
      have hR6 := app_rdr hR5 hu5 hgl hG6
      have hg6 := app_grown hg5 hu5 hG6
      have HL6 : Hid ((xs ++ [((at1 : Int) + (k1 : Int) + 252) % 256]).length = xs.length + 1) := Lib.hid (by simp)
      obtain ⟨A6, c6, rfl, _⟩ := hO6.slice
      clear hv5 i6 hu5 hG6 hD6 hR5 hg5
      generalize hXS : xs ++ [((at1 : Int) + (k1 : Int) + 252) % 256] = xs6 at *
      clear hXS
      refine (pick_any 7 g _ w6 hR6 (by omega) (by omega)).mono ?_
      intro e w7 hp
      obtain ⟨k2, rfl, hk2, hR7, hG7, hs7⟩ := picked_nat hp (by omega)
      have hu7 := hO6.off hG7 hgl
      have hv7 := hv6.off hG7 hgl
      have hg7 := gtrans hg6 hG7
      have hsz7 := hg7.size
      clear hp hs7 hO6 hv6 hR6 hg6 hG7
      go_wp2_with (at_builtin; refine wpList_app2 rfl (.tmp 29) (.tmp 35) rfl w.heap.size (.slice A2 ys.length c2) ys rfl (hv7.alloc _) (some ⟨w7.heap.size, 0, none⟩) 1 1 _ [((at1 : Int) + (k1 : Int) + 252 + (k2 : Int)) % 256] rfl rfl (rds_one w7 _) (by simp; omega) (by simp; omega) ?_; intro v8 w8 hO8 hG8 hD8)
      obtain ⟨hu8, hDj8⟩ := app_other hu7 hDj6.symm hv7 hG8 hD8
      have hR8 := app_rdr hR7 hv7 hgl hG8
      have hg8 := app_grown hg7 hv7 hG8
      have HI8 : Hid (Rel2 g N M w w8 (.slice A6 xs6.length c6) v8 (r - 1) xs6 (ys ++ [((at1 : Int) + (k1 : Int) + 252 + (k2 : Int)) % 256])) :=
        Lib.hid ⟨by omega, by have := HX.out; have := HL6.out; omega, by have := HY.out; have := HL6.out; simp; omega, hu8, hO8, hDj8.symm, hR8.more (by have := HL6.out; omega), hg8⟩
      clear hu7 hDj6 hv7 hG8 hD8 hR7 hg7 hu8 hDj8 hR8 hg8 hO8
      go_roundw
      case rel => exact ⟨r - 1, _, _, _, ⟨by omega, by omega⟩, rfl, by rw [show ((r - 1 : Nat) : Int) = (r : Int) - 1 by omega], HI8⟩
      case measure => simp [intOf]; omega
    · go_wp2_with fail
      refine (spoil_any A1 c1 xs 256 g _ wr i7 (by omega) i4.rds.2 (by omega)).mono ?_
      rintro e w5 ⟨A5, c5, zs, rfl, _, hzl, hR5, hRd5, hG5, hge5⟩
      have hv5 := i5.off hG5 hgl
      have hg5 := gtrans i8 hG5
      have hsz := i8.size
      have HR5 := Lib.hid hR5
      have Hge5 := Lib.hid hge5
      clear hR5 hge5 hG5 i4 i5 i7 i8
      go_wp2
      go_ret2
      exact ⟨A5, A2, c5, c2, zs, ys, rfl, by omega, by omega, HR5.out, hv5.rds.2, hRd5.more (by omega), hg5, fun b hb => by have := Hge5.out b hb; omega, fun b hb => hv5.ge b hb⟩
end Go.Proofs.Ytfplmegpkhlhfaa
