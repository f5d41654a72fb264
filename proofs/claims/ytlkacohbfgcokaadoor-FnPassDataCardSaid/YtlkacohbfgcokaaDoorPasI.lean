/- Contract of PassData in the program, under the table that it lays. -/
import Derived.Test.YtlkacohbfgcokaaDoorPasS
import Derived.Test.YtlkacohbfgcokaaDoorPlc
import Derived.Test.YtlkacohbfgcokaaDoorPassP
import Derived.Test.YtlkacohbfgcokaaDoorDoorP
import Derived.Test.YtlkacohbfgcokaaDoorGridF
import Derived.Test.YtlkacohbfgcokaaDoorGridD
import Derived.Test.YtlkacohbfgcokaaDoorGenP
import Derived.Deep.CutRange
import Derived.Deep.Cut
import Derived.Deep.RegionHeld3
import Derived.StillTailTactics
namespace Go.Proofs.YtlkacohbfgcokaaDoor
open Go.RowKit Go.Shelf
set_option linter.unusedSimpArgs false
set_option linter.unusedVariables false
set_option maxRecDepth 20000
attribute [local go_sem] Oper.semAt_some

/-- An append inside a round. -/
theorem stepIn_app {F : Fence} {n : Nat} {w : World} {ops : Array Oper} {o : Oper} {a : Act} {K : Act → World → Prop} {Q : Exit → Act → World → Prop} {E : Prop} (hgd : o.guard = none) (s x : Operand)
    (ho : o.op = .call { callee := .builtin .append, args := #[s, x], argTypes := #[23, 23] })
    (base : Nat) (v : Value) (xs : List Int) (hs : a.eval s = v) (hown : Own w base v xs)
    (A : Option Addr) (m c B : Nat) (ys : List Int) (hx : a.eval x = .slice A m c) (hm : m = ys.length) (hr : Rds .i64 w B A ys) (hl : xs.length + ys.length ≤ 10000000) (hbase : base ≤ w.heap.size)
    (h : ∀ v' w', Own w' base v' (xs ++ ys) → w.grownBy w' v.ownBlock → K (a.put o.dst v') w') : if Region.wanted o (yielded ops a.tmps) = true then Oper.wpIn F n Tryd.prog o a w K Q else E := by
  have hw : Region.wanted o (yielded ops a.tmps) = true := by simp [Region.wanted, hgd]
  rw [if_pos hw]
  obtain ⟨i, hi, hz, hsz, hb⟩ := info_parts info_int
  subst hm
  rcases A with _ | ad
  · have hy : ys = [] := by
      rcases hr with h | ⟨b, off, h, _⟩
      · exact h
      · cases h
    subst hy
    have hrun : (Builtin.append_ #[23, 23] o.type #[v, .slice none 0 c]).run Tryd.prog w = .ok v w := by
      rcases hown.2 with ⟨rfl, h0⟩ | ⟨g, cap, cur, rfl, _, _, hnc, _⟩
      · simp [Builtin.append_, run_underlying Tryd.underlying23, sizeOf, typeInfo, hi, Builtin.lenOf, Builtin.firstCells]
      · simp [Builtin.append_, run_underlying Tryd.underlying23, sizeOf, typeInfo, hi, Builtin.lenOf, Builtin.firstCells, hnc, storeCells]
    unfold Oper.wpIn
    refine ⟨by simp [Oper.about, ho, resolve, Target.leads, Sem.run_pure], ?_⟩
    rw [Oper.semAt_plain F _ _ (by rw [ho]; intro c hc'; cases hc')]
    simp [execOp, ho, resolve, invoke, builtin, hs, hx, hrun, Result.andThen]
    exact h v w (by simpa using hown) (World.grownBy.refl _ _)
  · obtain ⟨v', w', hrun, r1, r2, r3⟩ := run_append_own (P := Tryd.prog) w base 23 o.type 3 i (.int .i64 0) 1 8 Tryd.underlying23 hi hz hsz hb rfl (by omega) v xs.length (xs.map (.int .i64)) hown ad ys.length c (ys.map (.int .i64)) (by simp) (by
        intro j u hu
        rcases hr with rfl | ⟨b, off, h1, _, hc⟩
        · simp at hu
        · have h1 := Option.some.inj h1
          subst h1
          have hj : j < ys.length := by
            rcases Nat.lt_or_ge j ys.length with h | h
            · exact h
            · simp [List.getElem?_eq_none h] at hu
          have hcj := hc j hj
          have e : (⟨b, off, none⟩ : Addr).add j = ⟨b, off + j, none⟩ := add_spot rfl j
          rw [e, hcj]
          simp [hj] at hu ⊢
          exact hu) (ints_oneCell _ _) (by unfold maxLen; omega) (by omega) hbase
    unfold Oper.wpIn
    refine ⟨by simp [Oper.about, ho, resolve, Target.leads, Sem.run_pure], ?_⟩
    rw [Oper.semAt_plain F _ _ (by rw [ho]; intro c hc'; cases hc')]
    simp [execOp, ho, resolve, invoke, builtin, hs, hx, hrun, Result.andThen]
    exact h v' w' (by unfold Own; simpa using r1) r2
/-- A row that grows, its box, a grid that is read, and the image's box. -/
structure PiSt (w V : World) (b2 b5 b6 base : Nat) (c2 c5 : Array Value) (Ag : Option Addr) (gc : List Int) (v : Value) (L : List Int) : Prop where
  O : Own V base v L
  X2 : Bx V b2 25 c2
  X5 : Bx V b5 58 c5
  X6 : Bx V b6 23 #[v]
  R : Rds .i64 V base Ag gc
  B : Below w.heap.size w V
  l2 : w.heap.size ≤ b2 ∧ b2 < b5 ∧ b5 < b6 ∧ b6 < base
  lg : ∀ a : Addr, Ag = some a → w.heap.size ≤ a.block ∧ a.block ≠ b6
  ls : base ≤ V.heap.size
theorem PiSt.call {w V V' : World} {b2 b5 b6 base : Nat} {c2 c5 : Array Value} {Ag : Option Addr} {gc : List Int} {v : Value} {L : List Int} (h : PiSt w V b2 b5 b6 base c2 c5 Ag gc v L) (hb : Below V.heap.size V V') : PiSt w V' b2 b5 b6 base c2 c5 Ag gc v L :=
  ⟨h.O.below hb (Nat.le_refl _), h.X2.below hb, h.X5.below hb, h.X6.below hb, h.R.belowTo hb h.ls, h.B.trans (hb.mono h.B.size), h.l2, h.lg, Nat.le_trans h.ls hb.size⟩
theorem PiSt.drew {w V : World} {b2 b5 b6 base : Nat} {c2 c5 : Array Value} {Ag : Option Addr} {gc : List Int} {v : Value} {L : List Int} (h : PiSt w V b2 b5 b6 base c2 c5 Ag gc v L) : PiSt w V.drew b2 b5 b6 base c2 c5 Ag gc v L :=
  ⟨h.O, h.X2, h.X5, h.X6, h.R, h.B.drew, h.l2, h.lg, h.ls⟩
theorem PiSt.other {w V V' : World} {b2 b5 b6 base : Nat} {c2 c5 : Array Value} {Ag : Option Addr} {gc : List Int} {v : Value} {L : List Int} {row : Option Nat} (h : PiSt w V b2 b5 b6 base c2 c5 Ag gc v L) (hG : V.grownBy V' row) (hr : ∀ r, row = some r → base ≤ r ∧ ∃ o : Obj, V.heap[r]? = some o ∧ o.isCells = false) : PiSt w V' b2 b5 b6 base c2 c5 Ag gc v L := by
  obtain ⟨l1, l2, l3, l4⟩ := h.l2
  have hk : ∀ k, k < base → V'.heap[k]? = V.heap[k]? := fun k hk => hG.block k (Nat.lt_of_lt_of_le hk h.ls) (fun e => by have := (hr k e.symm).1; omega)
  refine ⟨?_, (hk b2 (by omega)).trans h.X2, (hk b5 (by omega)).trans h.X5, (hk b6 l4).trans h.X6, h.R.keep (fun p hp => World.cell?_of_block (hk p.block hp)), h.B.grown hG h.B.size (fun k e => by have := (hr k e).1; omega), h.l2, h.lg, Nat.le_trans h.ls hG.size⟩
  refine ⟨h.O.1, ?_⟩
  rcases h.O.2 with h2 | ⟨g, cap, cur, hv, hb, hg, r⟩
  · exact .inl h2
  · have hgl : g < V.heap.size := (Array.getElem?_eq_some_iff.1 hg).1
    have he : V'.heap[g]? = V.heap[g]? := hG.block g hgl (fun e => by
      obtain ⟨_, o, ho, hc⟩ := hr g e.symm
      rw [hg] at ho
      injection ho with ho
      subst ho
      simp [Obj.isCells] at hc)
    exact .inr ⟨g, cap, cur, hv, hb, he.trans hg, r⟩
theorem PiSt.rebase {w V : World} {b2 b5 b6 base base' : Nat} {c2 c5 : Array Value} {Ag : Option Addr} {gc : List Int} (h : PiSt w V b2 b5 b6 base c2 c5 Ag gc (.slice none 0 0) []) (h1 : base ≤ base') (h2 : base' ≤ V.heap.size) : PiSt w V b2 b5 b6 base' c2 c5 Ag gc (.slice none 0 0) [] :=
  ⟨World.ownsRow_nil _ _ _ _, h.X2, h.X5, h.X6, h.R.more h1, h.B, ⟨h.l2.1, h.l2.2.1, h.l2.2.2.1, Nat.lt_of_lt_of_le h.l2.2.2.2 h1⟩, h.lg, h2⟩
theorem PiSt.c6 {w V : World} {b2 b5 b6 base : Nat} {c2 c5 : Array Value} {Ag : Option Addr} {gc : List Int} {v : Value} {L : List Int} (h : PiSt w V b2 b5 b6 base c2 c5 Ag gc v L) : V.cell? ⟨b6, 0, none⟩ = some v := cell_of_row V b6 0 _ _ _ h.X6
theorem PiSt.f6 {w V : World} {b2 b5 b6 base : Nat} {c2 c5 : Array Value} {Ag : Option Addr} {gc : List Int} {v : Value} {L : List Int} (h : PiSt w V b2 b5 b6 base c2 c5 Ag gc v L) : V.frozen? ⟨b6, 0, none⟩ = false := frozen_of_row V b6 0 _ _ h.X6
/-- The row has grown, its box has not been told. -/
structure PjSt (w V : World) (b2 b5 b6 base : Nat) (c2 c5 : Array Value) (Ag : Option Addr) (gc : List Int) (v0 v : Value) (L : List Int) : Prop where
  O : Own V base v L
  X2 : Bx V b2 25 c2
  X5 : Bx V b5 58 c5
  X6 : Bx V b6 23 #[v0]
  R : Rds .i64 V base Ag gc
  B : Below w.heap.size w V
  l2 : w.heap.size ≤ b2 ∧ b2 < b5 ∧ b5 < b6 ∧ b6 < base
  lg : ∀ a : Addr, Ag = some a → w.heap.size ≤ a.block ∧ a.block ≠ b6
  ls : base ≤ V.heap.size
theorem PiSt.app {w V V' : World} {b2 b5 b6 base : Nat} {c2 c5 : Array Value} {Ag : Option Addr} {gc : List Int} {v v' : Value} {L L' : List Int} (h : PiSt w V b2 b5 b6 base c2 c5 Ag gc v L) (hO : Own V' base v' L') (hG : V.grownBy V' v.ownBlock) : PjSt w V' b2 b5 b6 base c2 c5 Ag gc v v' L' := by
  obtain ⟨l1, l2, l3, l4⟩ := h.l2
  have hge : ∀ k, v.ownBlock = some k → base ≤ k := fun k hk => (h.O.lt k hk).1
  have hk : ∀ k, k < base → V'.heap[k]? = V.heap[k]? := fun k hk => hG.block k (Nat.lt_of_lt_of_le hk h.ls) (fun e => by have := hge k e.symm; omega)
  exact ⟨hO, (hk b2 (by omega)).trans h.X2, (hk b5 (by omega)).trans h.X5, (hk b6 l4).trans h.X6, h.R.keep (fun p hp => World.cell?_of_block (hk p.block hp)), h.B.grown hG h.B.size (fun k e => by have := hge k e; omega), h.l2, h.lg, Nat.le_trans h.ls hG.size⟩
theorem PjSt.c6 {w V : World} {b2 b5 b6 base : Nat} {c2 c5 : Array Value} {Ag : Option Addr} {gc : List Int} {v0 v : Value} {L : List Int} (h : PjSt w V b2 b5 b6 base c2 c5 Ag gc v0 v L) : V.cell? ⟨b6, 0, none⟩ = some v0 := cell_of_row V b6 0 _ _ _ h.X6
theorem PjSt.f6 {w V : World} {b2 b5 b6 base : Nat} {c2 c5 : Array Value} {Ag : Option Addr} {gc : List Int} {v0 v : Value} {L : List Int} (h : PjSt w V b2 b5 b6 base c2 c5 Ag gc v0 v L) : V.frozen? ⟨b6, 0, none⟩ = false := frozen_of_row V b6 0 _ _ h.X6
theorem PjSt.put {w V : World} {b2 b5 b6 base : Nat} {c2 c5 : Array Value} {Ag : Option Addr} {gc : List Int} {v0 v : Value} {L : List Int} (h : PjSt w V b2 b5 b6 base c2 c5 Ag gc v0 v L) : PiSt w (V.setCell ⟨b6, 0, none⟩ v) b2 b5 b6 base c2 c5 Ag gc v L := by
  obtain ⟨l1, l2, l3, l4⟩ := h.l2
  have hk : ∀ k, k ≠ b6 → (V.setCell ⟨b6, 0, none⟩ v).heap[k]? = V.heap[k]? := fun k hk => heap_setCell_other V ⟨b6, 0, none⟩ k v hk
  refine ⟨h.O.keep (fun g hg => hk g (by have := (h.O.lt g hg).1; omega)), (hk b2 (by omega)).trans h.X2, (hk b5 (by omega)).trans h.X5, by simpa [Bx] using heap_setCell_same V b6 0 _ 23 v h.X6, ?_, h.B.setCell (show w.heap.size ≤ b6 by omega) v, h.l2, h.lg, by simpa [World.setCell] using h.ls⟩
  rcases h.R with h0 | ⟨b, off, rfl, hb, hc⟩
  · exact .inl h0
  · refine .inr ⟨b, off, rfl, hb, fun j hj => ?_⟩
    rw [World.cell?_of_block (hk b (h.lg _ rfl).2)]
    exact hc j hj
/-- The numbers of some pixels of a pass. -/
def pdP (W P : Nat) (xs : List Int) (fx dx fy dy N : Nat) {T : Nat} (pre : List (Fin T)) : List Int := pre.flatMap fun x => pxl W P xs (fx + dx * (x.val % N)) (fy + dy * (x.val / N))
theorem pdP_len (W P : Nat) (xs : List Int) (fx dx fy dy N : Nat) {T : Nat} : ∀ pre : List (Fin T), (pdP W P xs fx dx fy dy N pre).length = pre.length * P
  | [] => by simp [pdP]
  | x :: pre => by
    have := pdP_len W P xs fx dx fy dy N pre
    unfold pdP at this ⊢
    rw [List.flatMap_cons, List.length_append, this, pxl_len, List.length_cons, Nat.add_mul, Nat.one_mul, Nat.add_comm]
theorem pdP_take (W P : Nat) (xs : List Int) (fx dx fy dy N : Nat) {T : Nat} : ∀ k, k ≤ T → pdP W P xs fx dx fy dy N ((List.finRange T).take k) = pdL W P xs fx dx fy dy N k
  | 0, _ => by simp [pdP, pdL]
  | k + 1, h => by
    rw [fin_tk T k (by omega)]
    have := pdP_take W P xs fx dx fy dy N (T := T) k (by omega)
    unfold pdP at this ⊢
    rw [List.flatMap_append, this]
    simp [pdL]
theorem pdP_all (W P : Nat) (xs : List Int) (fx dx fy dy N : Nat) {T : Nat} : pdP W P xs fx dx fy dy N (List.finRange T) = pdL W P xs fx dx fy dy N T := by
  have := pdP_take W P xs fx dx fy dy N (T := T) T (Nat.le_refl _)
  rwa [List.take_of_length_le (by simp)] at this
theorem keepsG {B base : Nat} {W W' : World} {v : Value} {L : List Int} (hO : Own W base v L) (hG : W.grownBy W' v.ownBlock) : KeepsFrom B W W' := ⟨hG.size, fun k o _ hk ho => (hG.block k (Array.getElem?_eq_some_iff.1 hk).1 (fun e => by
  rcases hO.2 with ⟨rfl, _⟩ | ⟨g, cap, cur, rfl, _, hg, _⟩
  · simp [Value.ownBlock] at e
  · simp [Value.ownBlock] at e
    subst e
    rw [hg] at hk
    injection hk with hk
    subst hk
    simp [Obj.isCells] at ho)).trans hk⟩
theorem keepsB {B : Nat} {W W' : World} (hb : Below W.heap.size W W') : KeepsFrom B W W' := ⟨hb.size, fun k o _ hk _ => (hb.block k (Array.getElem?_eq_some_iff.1 hk).1).trans hk⟩
set_option maxRecDepth 100000 in
set_option maxHeartbeats 32000000 in
theorem i_PassData (W H P p : Int) (A : Option Addr) (c : Nat) (xs : List Int) (w : World) (hx : Rds .i64 w w.heap.size A xs) (hl : xs.length ≤ 2000000) (hlc : xs.length ≤ c) (hPt : Pats w) :
    Calls Tryd.prog 9 #[.agg #[.int .i64 W, .int .i64 H, .int .i64 P, .slice A xs.length c], .int .i64 p] w (Made (cond (pdB W H P xs p) (pdV W.toNat P.toNat xs H.toNat p.toNat) []) w) := by
  obtain ⟨u1, hu⟩ : ∃ u, u = w.alloc (.cells #[.int .i64 W, .int .i64 H, .int .i64 P, .slice A xs.length c] 25) := ⟨_, rfl⟩
  obtain ⟨b2, hb2⟩ : ∃ b, b = w.heap.size := ⟨_, rfl⟩
  have HX1 : Hid (Bx u1 b2 25 (imC W H P (.slice A xs.length c))) := Lib.hid (by rw [hu, hb2]; exact Bx.new w _ _)
  have HB1 : Hid (Below w.heap.size w u1) := Lib.hid (by rw [hu]; exact (Below.refl _ _).alloc (Nat.le_refl _) _)
  have HR1 : Hid (Rds .i64 u1 u1.heap.size A xs) := Lib.hid (by rw [hu]; exact (hx.alloc (Nat.le_refl _) _).more (by simp))
  have HU := Lib.hid hu
  have HB2 := Lib.hid hb2
  have HPT := Lib.hid hPt
  clear hu hb2 hx hPt
  obtain ⟨m0, m1, m2, m3⟩ := HX1.out.im
  have ml := HX1.out.lt
  cases hv : vim W H P xs
  · have HE : Hid (pdB W H P xs p = false) := Lib.hid (by unfold pdB; rw [hv]; rfl)
    refine (callsIn_wide (n := 5)).1 ?_
    refine callsIn_of_wp_marks Tryd.func9 rfl trivial ?_ rfl
    refine wpIn_wide.2 ?_
    simp only [Tryd.ntmps9, List.size_toArray, List.length_cons, List.length_nil, Nat.reduceAdd, Nat.reduceSub, Array.replicate_succ, Array.replicate_zero, List.push_toArray, List.append_toArray, List.nil_append, List.cons_append]
    go_wp2_with fail
    rw [← HU.out]
    (try rw [← HB2.out])
    clear HU
    refine (iVimg_any W H P A c xs u1 HR1.out hl).mono ?_
    rintro e u2 ⟨rfl, hb⟩
    rw [hv]
    have HBF := Lib.hid (HB1.out.trans (hb.mono HB1.out.size))
    clear hb m0 m1 m2 m3 ml
    go_wp2
    exact ⟨_, results_tmp rfl _ _ _, (by rw [HE.out]; exact ⟨_, rfl, World.ownsRow_nil _ _ _ _, HBF.out⟩)⟩
  · cases hq : decide (0 ≤ p ∧ p ≤ 6)
    · have HE : Hid (pdB W H P xs p = false) := Lib.hid (by unfold pdB; rw [hv, hq]; rfl)
      refine (callsIn_wide (n := 5)).1 ?_
      refine callsIn_of_wp_marks Tryd.func9 rfl trivial ?_ rfl
      refine wpIn_wide.2 ?_
      simp only [Tryd.ntmps9, List.size_toArray, List.length_cons, List.length_nil, Nat.reduceAdd, Nat.reduceSub, Array.replicate_succ, Array.replicate_zero, List.push_toArray, List.append_toArray, List.nil_append, List.cons_append]
      go_wp2_with fail
      rw [← HU.out]
      (try rw [← HB2.out])
      clear HU
      refine (iVimg_any W H P A c xs u1 HR1.out hl).mono ?_
      rintro e u2 ⟨rfl, hb⟩
      rw [hv]
      have HBF := Lib.hid (HB1.out.trans (hb.mono HB1.out.size))
      clear hb m0 m1 m2 m3 ml
      go_wp2_with fail
      refine (i_validPass p u2).mono ?_
      rintro e u3 ⟨rfl, rfl⟩
      rw [hq]
      go_wp2
      exact ⟨_, results_tmp rfl _ _ _, (by rw [HE.out]; exact ⟨_, rfl, World.ownsRow_nil _ _ _ _, HBF.out⟩)⟩
    · have HE : Hid (pdB W H P xs p = true) := Lib.hid (by unfold pdB; rw [hv, hq]; rfl)
      have hp' := of_decide_eq_true hq
      obtain ⟨p, rfl⟩ := Int.eq_ofNat_of_zero_le hp'.1
      have hp6 : p ≤ 6 := by omega
      obtain ⟨W, H, P, rfl, rfl, rfl, hW1, hW, hH1, hH, hP1, hP, hll, hby⟩ := vim_nat hv
      obtain ⟨fx, dx, fy, dy, e1, e2, e3, e4, hfx, hdx, hfy, hdy⟩ := ps_nat p hp6
      have HL := Lib.hid hll
      have HT : Hid (∀ u, Below w.heap.size w u → u.cell? ⟨0, p * 4, none⟩ = some (.int .i64 (fx : Int)) ∧ u.cell? ⟨0, p * 4 + 1, none⟩ = some (.int .i64 (dx : Int)) ∧ u.cell? ⟨0, p * 4 + 2, none⟩ = some (.int .i64 (fy : Int)) ∧ u.cell? ⟨0, p * 4 + 3, none⟩ = some (.int .i64 (dy : Int))) := Lib.hid (fun u hb => by
        have h := (HPT.out.below HPT.out.lt hb) p hp6
        rw [Nat.mul_comm 4 p, e1, e2, e3, e4] at h
        exact h)
      have HV : Hid (pdV W P xs H p = _) := Lib.hid (pdV_eq (xs := xs) (W := W) (P := P) (H := H) e1 e2 e3 e4)
      clear hby hll hp' e1 e2 e3 e4 hv
      refine (callsIn_wide (n := 5)).1 ?_
      refine callsIn_of_wp_marks Tryd.func9 rfl trivial ?_ rfl
      refine wpIn_wide.2 ?_
      simp only [Tryd.ntmps9, List.size_toArray, List.length_cons, List.length_nil, Nat.reduceAdd, Nat.reduceSub, Array.replicate_succ, Array.replicate_zero, List.push_toArray, List.append_toArray, List.nil_append, List.cons_append]
      go_wp2_with fail
      rw [← HU.out]
      (try rw [← HB2.out])
      refine (iVimg_any W H P A c xs u1 HR1.out hl).mono ?_
      rintro e u2 ⟨rfl, hb⟩
      rw [show vim W H P xs = true from by have := HE.out; unfold pdB at this; rw [Bool.and_eq_true] at this; exact this.1]
      have HX2 := Lib.hid (HX1.out.below hb)
      have HBl2 := Lib.hid (HB1.out.trans (hb.mono HB1.out.size))
      have HR2 := Lib.hid ((HR1.out.below hb).more hb.size)
      clear hb m0 m1 m2 m3 ml HX1 HB1 HR1 HU
      obtain ⟨m0, m1, m2, m3⟩ := HX2.out.im
      have ml := HX2.out.lt
      go_wp2_with fail
      refine (i_validPass p u2).mono ?_
      rintro e u3 ⟨rfl, rfl⟩
      rw [hq]
      go_wp2_with fail
      refine (gridOf_any W H P hW hH hP1 hP hW1 hH1 A c xs HL.out hlc u2 HR2.out).mono ?_
      rintro e u3 ⟨gv, rfl, hO, hb⟩
      obtain ⟨Ag, cg, rfl, hcg⟩ := hO.slice
      obtain ⟨u5, hu5⟩ : ∃ u, u = (u3.alloc (.cells #[.int .i64 (W : Int), .int .i64 (H : Int), .slice Ag (W * H) cg] 58)).alloc (.cells #[.slice none 0 0] 23) := ⟨_, rfl⟩
      obtain ⟨b5, hb5⟩ : ∃ b, b = u3.heap.size := ⟨_, rfl⟩
      obtain ⟨b6, hb6⟩ : ∃ b, b = u3.heap.size + 1 := ⟨_, rfl⟩
      have hOl : ∀ a : Addr, Ag = some a → u2.heap.size ≤ a.block ∧ a.block < u3.heap.size := fun a ha => by
        subst ha
        exact World.ownsRow.lt hO a.block rfl
      have hRg : Rds .i64 u3 u3.heap.size Ag (img W H 4 (pxc W P xs)) := ((GS.start u2).addT hO hb).rdsT (E := 69) (C := 4) (lo := u2.heap.size) (hi := u3.heap.size) (A := Ag) (n := W * H) (m := W * H) (c := cg) (by simp)
      have HS5 : Hid (PiSt w u5 b2 b5 b6 u5.heap.size (imC W H P (.slice A xs.length c)) #[.int .i64 (W : Int), .int .i64 (H : Int), .slice Ag (W * H) cg] Ag (img W H 4 (pxc W P xs)) (.slice none 0 0) []) := Lib.hid (by
        have h2 := (HX2.out.below hb).alloc (.cells #[.int .i64 (W : Int), .int .i64 (H : Int), .slice Ag (W * H) cg] 58)
        have h5 := (Bx.new u3 58 #[.int .i64 (W : Int), .int .i64 (H : Int), .slice Ag (W * H) cg]).alloc (.cells #[.slice none 0 0] 23)
        have h6 := Bx.new (u3.alloc (.cells #[.int .i64 (W : Int), .int .i64 (H : Int), .slice Ag (W * H) cg] 58)) 23 #[.slice none 0 0]
        have hbb := (HBl2.out.trans (hb.mono HBl2.out.size))
        have hss := hbb.size
        have hs2 := HBl2.out.size
        have hsb := hb.size
        have hm := ml
        have hb2 := HB2.out
        rw [hu5, hb5, hb6]
        refine ⟨World.ownsRow_nil _ _ _ _, h2.alloc _, h5, by simpa using h6, ((hRg.alloc (Nat.le_refl _) _).alloc (by simp) _).more (by simp <;> omega), (hbb.alloc hss _).alloc (by simp; omega) _, ⟨by omega, by omega, by omega, by simp⟩, fun a ha => ⟨by have := (hOl a ha).1; omega, by have := (hOl a ha).2; omega⟩, Nat.le_refl _⟩)
      have HU5 := Lib.hid hu5
      have HB5 := Lib.hid hb5
      have HB6 := Lib.hid hb6
      clear hu5 hb5 hb6 hOl hRg hO hb HX2 HBl2 HR2 m0 m1 m2 m3 ml
      obtain ⟨m0, m1, m2, m3⟩ := HS5.out.X2.im
      rw [HU5.out] at m0 m1 m2 m3
      go_upto_region 5 with fail
      rw [← HU5.out]
      (try rw [← HB6.out])
      (try rw [← HB5.out])
      clear HU5 m0 m1 m2 m3
      have HS5l := Lib.hid HS5.out.l2.2.2.2
      go_cut [27] from 20 to 27 (fun s27 wx => ∃ bp : Nat, s27 = .func (.func 63) #[] #[.pointer (some ⟨bp, 0, none⟩), .pointer (some ⟨bp + 2, 0, none⟩), .pointer (some ⟨bp + 1, 0, none⟩)] ∧ Hid (PiSt w wx b2 b5 b6 wx.heap.size (imC W H P (.slice A xs.length c)) #[.int .i64 (W : Int), .int .i64 (H : Int), .slice Ag (W * H) cg] Ag (img W H 4 (pxc W P xs)) (.slice none 0 0) [] ∧ PB bp (bp + 1) (bp + 2) fx dx fy dy W H wx ∧ b6 < bp))
      case first =>
        rename_i J9 K9 hJ9 hK9
        refine wp_mono (Q := fun e a w => match e with | .normal => K9 a w | _ => False) ?_ (fun e a w h => by cases e <;> first | exact h | exact h.elim)
        obtain ⟨m0, m1, m2, m3⟩ := HS5.out.drew.X2.im
        obtain ⟨q0, q1, q2, q3⟩ := HT.out u5.drew HS5.out.drew.B
        have hp7 : (p : Int) < 7 := by omega
        refine wp_region_held_drew (S := (fun w' => w'.cell? ⟨b2, 0, none⟩ = some (.int .i64 (W : Int)) ∧ w'.cell? ⟨b2, 1, none⟩ = some (.int .i64 (H : Int)) ∧ w'.cell? ⟨b2, 2, none⟩ = some (.int .i64 (P : Int)) ∧ w'.cell? ⟨b2, 3, none⟩ = some (.slice A xs.length c) ∧ w'.cell? ⟨0, p * 4, none⟩ = some (.int .i64 (fx : Int)) ∧ w'.cell? ⟨0, p * 4 + 1, none⟩ = some (.int .i64 (dx : Int)) ∧ w'.cell? ⟨0, p * 4 + 2, none⟩ = some (.int .i64 (fy : Int)) ∧ w'.cell? ⟨0, p * 4 + 3, none⟩ = some (.int .i64 (dy : Int)))) (by kernel_rfl) (by exact ⟨m0, m1, m2, m3, q0, q1, q2, q3⟩) (fun hHeld => ?_)
        refine' wpAnyH_take (i := 0) (oi := _) (v := _) ?hi1 (by kernel_rfl) (by kernel_rfl) (by kernel_rfl) ?hq1 (Or.inl ⟨?hw1, ?hy1⟩) (by assumption) ?rest1
        case hi1 => (simp only [List.getElem?_toArray, List.getElem?_cons_succ, List.getElem?_cons_zero]; rfl)
        case hq1 => exact fun _ _ _ h => h
        case hw1 => rfl
        case hy1 => (intro wq hSw; (try dsimp only at hSw); go_simp; (try with_reducible rfl))
        (try simp only [Act.put, List.setIfInBounds_toArray, List.set_cons_zero, List.set_cons_succ])
        refine' wpAnyH_take (i := 1) (oi := _) (v := _) ?hi2 (by kernel_rfl) (by kernel_rfl) (by kernel_rfl) ?hq2 (Or.inl ⟨?hw2, ?hy2⟩) (by assumption) ?rest2
        case hi2 => (simp only [List.getElem?_toArray, List.getElem?_cons_succ, List.getElem?_cons_zero]; rfl)
        case hq2 => exact fun _ _ _ h => h
        case hw2 => rfl
        case hy2 => (intro wq hSw; (try dsimp only at hSw); go_simp; (try with_reducible rfl))
        (try simp only [Act.put, List.setIfInBounds_toArray, List.set_cons_zero, List.set_cons_succ])
        refine' wpAnyH_take (i := 2) (oi := _) (v := _) ?hi3 (by kernel_rfl) (by kernel_rfl) (by kernel_rfl) ?hq3 (Or.inl ⟨?hw3, ?hy3⟩) (by assumption) ?rest3
        case hi3 => (simp only [List.getElem?_toArray, List.getElem?_cons_succ, List.getElem?_cons_zero]; rfl)
        case hq3 => exact fun _ _ _ h => h
        case hw3 => rfl
        case hy3 => (intro wq hSw; (try dsimp only at hSw); go_simp; (try with_reducible rfl))
        (try simp only [Act.put, List.setIfInBounds_toArray, List.set_cons_zero, List.set_cons_succ])
        refine' wpAnyH_take (i := 3) (oi := _) (v := _) ?hi4 (by kernel_rfl) (by kernel_rfl) (by kernel_rfl) ?hq4 (Or.inl ⟨?hw4, ?hy4⟩) (by assumption) ?rest4
        case hi4 => (simp only [List.getElem?_toArray, List.getElem?_cons_succ, List.getElem?_cons_zero]; rfl)
        case hq4 => exact fun _ _ _ h => h
        case hw4 => rfl
        case hy4 => (intro wq hSw; (try dsimp only at hSw); go_simp; (try with_reducible rfl))
        (try simp only [Act.put, List.setIfInBounds_toArray, List.set_cons_zero, List.set_cons_succ])
        refine' wpAnyH_take (i := 4) (oi := _) (v := _) ?hi5 (by kernel_rfl) (by kernel_rfl) (by kernel_rfl) ?hq5 (Or.inl ⟨?hw5, ?hy5⟩) (by assumption) ?rest5
        case hi5 => (simp only [List.getElem?_toArray, List.getElem?_cons_succ, List.getElem?_cons_zero]; rfl)
        case hq5 => exact fun _ _ _ h => h
        case hw5 => rfl
        case hy5 => (intro wq hSw; (try dsimp only at hSw); go_simp; (try with_reducible rfl))
        (try simp only [Act.put, List.setIfInBounds_toArray, List.set_cons_zero, List.set_cons_succ])
        refine' wpAnyH_take (i := 5) (oi := _) (v := _) ?hi6 (by kernel_rfl) (by kernel_rfl) (by kernel_rfl) ?hq6 (Or.inl ⟨?hw6, ?hy6⟩) (by assumption) ?rest6
        case hi6 => (simp only [List.getElem?_toArray, List.getElem?_cons_succ, List.getElem?_cons_zero]; rfl)
        case hq6 => exact fun _ _ _ h => h
        case hw6 => rfl
        case hy6 => (intro wq hSw; (try dsimp only at hSw); go_simp; (try with_reducible rfl))
        (try simp only [Act.put, List.setIfInBounds_toArray, List.set_cons_zero, List.set_cons_succ])
        refine' wpAnyH_take (i := 6) (oi := _) (v := _) ?hi7 (by kernel_rfl) (by kernel_rfl) (by kernel_rfl) ?hq7 (Or.inl ⟨?hw7, ?hy7⟩) (by assumption) ?rest7
        case hi7 => (simp only [List.getElem?_toArray, List.getElem?_cons_succ, List.getElem?_cons_zero]; rfl)
        case hq7 => exact fun _ _ _ h => h
        case hw7 => rfl
        case hy7 => (intro wq hSw; (try dsimp only at hSw); go_simp; (try with_reducible rfl))
        (try simp only [Act.put, List.setIfInBounds_toArray, List.set_cons_zero, List.set_cons_succ])
        refine wpAnyH_ready (rs := [7]) (by kernel_rfl) (by simp) ?_
        refine' AllReadyH.cons (o := _) ?hi8 (fun K hK => ?rest8) AllReadyH.nil
        case hi8 => (simp only [List.getElem?_toArray, List.getElem?_cons_succ, List.getElem?_cons_zero]; rfl)
        go_simp
        go_at_call 36
        refine (places_any fx dx fy dy W H u5.drew).mono ?_
        rintro e u6 ⟨rfl, hPB, hB⟩
        have HS6 := Lib.hid (HS5.out.drew.call hB)
        have HPt := Lib.hid hPB
        have Hb6 := Lib.hid hB
        clear hPB hB m0 m1 m2 m3 q0 q1 q2 q3
        obtain ⟨m0, m1, m2, m3⟩ := HS6.out.X2.im
        obtain ⟨q0, q1, q2, q3⟩ := HT.out u6 HS6.out.B
        go_wp2_with fail
        refine hK.out _ _ (by (try dsimp only); exact ⟨m0, m1, m2, m3, q0, q1, q2, q3⟩) (fun hHeld => ?_)
        clear hK K
        (try simp only [Act.put, List.setIfInBounds_toArray, List.set_cons_zero, List.set_cons_succ])
        refine wpAnyH_done (by kernel_rfl) ?_ _
        show K9 _ _
        refine hK9 _ _ (Met.intro ?_)
        exact hJ9 _ _ ⟨_, _, _, _, _, _, _, _, ⟨u5.drew.heap.size, rfl, Lib.hid ⟨HS6.out.rebase HS6.out.ls (Nat.le_refl _), HPt.out, HS5l.out⟩⟩, rfl⟩
      case rest =>
      clear HS5
      obtain ⟨bp, rfl, HG⟩ := hcut
      have HS7 := Lib.hid HG.out.1
      have HPt := Lib.hid HG.out.2.1
      have Hb6l := Lib.hid HG.out.2.2
      clear HG
      have HN1 : Hid (∀ i, i < cN W fx dx → fx + dx * i < W) := Lib.hid (fun i h => cN_lt hfx hW1 h)
      have HN2 : Hid (W ≤ fx + dx * cN W fx dx) := Lib.hid (cN_ge hfx hW1)
      have HM1 : Hid (∀ i, i < cN H fy dy → fy + dy * i < H) := Lib.hid (fun i h => cN_lt hfy hH1 h)
      have HM2 : Hid (H ≤ fy + dy * cN H fy dy) := Lib.hid (cN_ge hfy hH1)
      have hNl : cN W fx dx ≤ 16 := Nat.le_trans (cN_le hfx hW1) hW
      have hMl : cN H fy dy ≤ 16 := Nat.le_trans (cN_le hfy hH1) hH
      generalize cN W fx dx = N at *
      generalize cN H fy dy = M at *
      have hNM : N * M ≤ 256 := Nat.mul_le_mul hNl hMl
      obtain ⟨F, hF⟩ : ∃ F : List (Fin (N * M)) → List Int, F = pdP W P xs fx dx fy dy N := ⟨_, rfl⟩
      have HLn : Hid (∀ pre, pre.length < N * M → (F pre).length ≤ 1024) := Lib.hid (fun pre hk => by rw [hF, pdP_len]; exact Nat.mul_le_mul (show pre.length ≤ 256 by omega) hP)
      have HST : Hid (∀ pre (x : Fin (N * M)), F pre ++ pxl W P xs (fx + dx * (x.val % N)) (fy + dy * (x.val / N)) = F (pre ++ [x])) := Lib.hid (fun pre x => by rw [hF]; unfold pdP; rw [List.flatMap_append]; simp)
      have HF0 : Hid (F [] = []) := Lib.hid (by rw [hF]; rfl)
      have HFa : Hid (F (List.finRange (N * M)) = pdV W P xs H p) := Lib.hid (by rw [hF, pdP_all, HV.out])
      clear hF
      go_wp2
      refine (wpIn_wide (n := 5)).1 ?_
      refine' wpIn_rangeFunc_ownG rfl (by omega) (gf := 63) (lb := #[.pointer (some ⟨bp, 0, none⟩), .pointer (some ⟨bp + 2, 0, none⟩), .pointer (some ⟨bp + 1, 0, none⟩)]) rfl trivial (enters_of Tryd.func63 (by kernel_rfl) rfl)
        (places_stops 4 (by omega) bp (bp + 1) (bp + 2) fx dx fy dy W H N M (N * M) rfl (by omega) (by omega) (by omega) (by omega) (by omega) (by omega) (by omega) (by omega) HN1.out HN2.out HM1.out HM2.out wc HPt.out)
        (fun h k x => k (h x)) (fun V l o o' hl _ _ _ h => h.kept (fun b hb he => World.putObj_heap_other (fun e => by have h1 := HPt.out.1.lt; have h2 := HPt.out.2.1.lt; have h3 := HPt.out.2.2.lt; rcases he with rfl | rfl | rfl <;> omega))) (Below.refl _ _) (fun _ => rfl)
        (fun pre V => ∃ v, PiSt w V b2 b5 b6 wc.heap.size (imC W H P (.slice A xs.length c)) #[.int .i64 (W : Int), .int .i64 (H : Int), .slice Ag (W * H) cg] Ag (img W H 4 (pxc W P xs)) v (F pre)) (fun _ _ _ => False)
        (fun pre V V' row h hG hr => by obtain ⟨v, h⟩ := h; exact ⟨v, h.other hG hr⟩)
        (fun _ _ _ _ _ hs _ _ => hs) ⟨_, by rw [HF0.out]; exact HS7.out⟩ _ ?assign ?body ?done ?stop
      case assign =>
        intro l x V K hK
        gi_wp2
        exact hK
      case stop =>
        rintro D c pre V _ _ h _
        exact h.elim
      case body =>
        rintro l pre x V ⟨v, hS⟩ hlt
        have hx := x.isLt
        have hN0 : 0 < N := by
          rcases Nat.eq_zero_or_pos N with h | h
          · subst h; omega
          · exact h
        obtain ⟨X0, hX0⟩ : ∃ X0, X0 = fx + dx * (x.val % N) := ⟨_, rfl⟩
        obtain ⟨Y0, hY0⟩ : ∃ Y0, Y0 = fy + dy * (x.val / N) := ⟨_, rfl⟩
        have hX0W : X0 < W := by rw [hX0]; exact HN1.out _ (Nat.mod_lt _ hN0)
        have hY0H : Y0 < H := by rw [hY0]; exact HM1.out _ ((Nat.div_lt_iff_lt_mul hN0).mpr (Nat.lt_of_lt_of_eq hx (Nat.mul_comm N M)))
        rw [show (fx : Int) + (dx : Int) * (((x.val : Nat) : Int) % ((N : Nat) : Int)) = (X0 : Int) by rw [hX0]; simp, show (fy : Int) + (dy : Int) * (((x.val : Nat) : Int) / ((N : Nat) : Int)) = (Y0 : Int) by rw [hY0]; simp]
        have HSS : Hid (F pre ++ pxl W P xs X0 Y0 = F (pre ++ [x])) := Lib.hid (by rw [hX0, hY0]; exact HST.out pre x)
        have HFl := Lib.hid (HLn.out pre hlt)
        have HC := Lib.hid (at_n W H (W * H) rfl hW hH Ag cg (pxc W P xs) X0 Y0 hX0W hY0H V (hS.R.more hS.ls) hcg)
        have HKp : Hid (PB bp (bp + 1) (bp + 2) fx dx fy dy W H V → PB bp (bp + 1) (bp + 2) fx dx fy dy W H V) := Lib.hid (fun h => h)
        obtain ⟨s0, s1, s2⟩ : V.cell? ⟨b5, 0, none⟩ = some (.int .i64 (W : Int)) ∧ V.cell? ⟨b5, 1, none⟩ = some (.int .i64 (H : Int)) ∧ V.cell? ⟨b5, 2, none⟩ = some (.slice Ag (W * H) cg) := ⟨cell_of_row V b5 0 _ _ _ hS.X5, cell_of_row V b5 1 _ _ _ hS.X5, cell_of_row V b5 2 _ _ _ hS.X5⟩
        have HS := Lib.hid hS
        clear hS hX0 hY0 hlt hx
        gi_wp2_with fail
        refine ⟨trivial, ?_⟩
        gi_at_call 37
        refine (CallsIn.inRound l (callsIn_wide.2 HC.out)).mono ?_
        rintro e V2 ⟨rfl, hB⟩
        have HBb := Lib.hid hB
        have HS2 := Lib.hid (HS.out.call hB)
        obtain ⟨V3, hV3⟩ : ∃ U : World, U = V2.alloc (.cells #[.int .i64 (pxc W P xs X0 Y0 0), .int .i64 (pxc W P xs X0 Y0 1), .int .i64 (pxc W P xs X0 Y0 2), .int .i64 (pxc W P xs X0 Y0 3)] 69) := ⟨_, rfl⟩
        obtain ⟨b9, hb9⟩ : ∃ b : Nat, b = V2.heap.size := ⟨_, rfl⟩
        have hB3 : Below V2.heap.size V2 V3 := by rw [hV3]; exact (Below.refl _ _).alloc (Nat.le_refl _) _
        have HB3 := Lib.hid hB3
        have HSc := Lib.hid (HS2.out.call hB3).drew
        have HPX : Hid (Rds .i64 V3.drew V3.drew.heap.size (some ⟨b9, 0, none⟩) (pxl W P xs X0 Y0)) := Lib.hid (by
          have hx9 : Bx V3 b9 69 #[.int .i64 (pxc W P xs X0 Y0 0), .int .i64 (pxc W P xs X0 Y0 1), .int .i64 (pxc W P xs X0 Y0 2), .int .i64 (pxc W P xs X0 Y0 3)] := by rw [hV3, hb9]; exact Bx.new V2 _ _
          refine .inr ⟨b9, 0, rfl, hx9.lt, fun j hj => ?_⟩
          rw [pxl_len] at hj
          show V3.cell? ⟨b9, 0 + j, none⟩ = some (.int .i64 (pxc W P xs X0 Y0 j))
          rw [Nat.zero_add]
          rcases (show j = 0 ∨ j = 1 ∨ j = 2 ∨ j = 3 by omega) with rfl | rfl | rfl | rfl
          · exact cell_of_row V3 b9 0 _ _ _ hx9
          · exact cell_of_row V3 b9 1 _ _ _ hx9
          · exact cell_of_row V3 b9 2 _ _ _ hx9
          · exact cell_of_row V3 b9 3 _ _ _ hx9)
        have Hpl : Hid ((pxl W P xs X0 Y0).length = P) := Lib.hid (pxl_len _ _ _ _ _)
        have HV3 := Lib.hid hV3
        have Hb9 := Lib.hid hb9
        clear hB hB3 hV3 hb9 s0 s1 s2
        simp only [colV]
        gi_wp2
        rw [← HV3.out, ← Hb9.out]
        clear HV3
        have x6 := HSc.out.c6
        have y6 := HSc.out.f6
        obtain ⟨m0, m1, m2, m3⟩ := HSc.out.X2.im
        have hP4 : (P : Int) ≤ 4 := by omega
        have hP0 : (0 : Int) ≤ (P : Int) := by omega
        clear HC HS HS2
        refine wpIn_region_any (by kernel_rfl) ?_
        (try (change wpAnyIn _ _ _ _ _ _ _ _ _ (World.drew _)))
        refine wpAnyIn_ready (rs := [0, 1]) (by kernel_rfl) (by simp) ?_
        refine AllReadyIn.cons rfl (fun K hK => ?_) ?_
        · skip
          go_simp
          refine hK _ _ ?_
          clear hK K
          refine wpAnyIn_ready (rs := [1]) (by kernel_rfl) (by simp) ?_
          refine AllReadyIn.cons rfl (fun K hK => ?_) ?_
          · skip
            go_simp
            refine hK _ _ ?_
            clear hK K
            refine wpAnyIn_ready (rs := [2]) (by kernel_rfl) (by simp) ?_
            refine AllReadyIn.cons rfl (fun K hK => ?_) ?_
            · skip
              go_simp
              refine hK _ _ ?_
              clear hK K
              refine wpAnyIn_ready (rs := [3]) (by kernel_rfl) (by simp) ?_
              refine AllReadyIn.cons rfl (fun K hK => ?_) ?_
              · skip
                go_simp
                refine hK _ _ ?_
                clear hK K
                refine wpAnyIn_ready (rs := [4]) (by kernel_rfl) (by simp) ?_
                refine AllReadyIn.cons rfl (fun K hK => ?_) ?_
                · skip
                  refine stepIn_app rfl (.tmp 34) (.tmp 37) rfl wc.heap.size v (F pre) (by simp [Act.eval, Act.put]) HSc.out.O (some ⟨b9, 0, none⟩) P 4 _ (pxl W P xs X0 Y0) (by simp [Act.eval, Act.put]) Hpl.out.symm HPX.out (by have := Hpl.out; have := HFl.out; omega) HSc.out.ls ?_
                  intro v3 V4 hO3 hG3
                  obtain ⟨A4, c4, rfl, _⟩ := hO3.slice
                  obtain ⟨n4, hn4⟩ : ∃ n, n = (F pre ++ pxl W P xs X0 Y0).length := ⟨_, rfl⟩
                  rw [← hn4] at hO3 ⊢
                  clear hn4
                  have HSd := Lib.hid (HSc.out.app hO3 hG3)
                  have HKd := Lib.hid hG3
                  clear hO3 hG3
                  have x6 := HSd.out.c6
                  have y6 := HSd.out.f6
                  refine hK _ _ ?_
                  clear hK K
                  refine wpAnyIn_ready (rs := [5]) (by kernel_rfl) (by simp) ?_
                  refine AllReadyIn.cons rfl (fun K hK => ?_) ?_
                  · skip
                    go_simp
                    refine hK _ _ ?_
                    clear hK K
                    refine wpAnyIn_done (by kernel_rfl) ?_ _
                    gi_wp2
                    refine ⟨((keepsB HBb.out).trans (keepsB HB3.out)).trans ((KeepsFrom.trans (⟨Nat.le_refl _, fun _ _ _ h _ => h⟩ : KeepsFrom wc.heap.size V3 V3.drew) (keepsG HSc.out.O HKd.out)).trans ((KeepsOthers.setCell _ _ _).from _)), fun h => h.kept fun b hb he => ?_, ⟨_, by rw [← HSS.out]; exact HSd.out.put⟩⟩
                    have hbl : b < wc.heap.size := by
                      rcases he with rfl | rfl | rfl
                      · exact HPt.out.1.lt
                      · exact HPt.out.2.1.lt
                      · exact HPt.out.2.2.lt
                    have hbg : bp ≤ b := by
                      rcases he with rfl | rfl | rfl
                      · exact Nat.le_refl _
                      · exact Nat.le_succ _
                      · exact Nat.le_trans (Nat.le_succ _) (Nat.le_succ _)
                    have hb6 := Hb6l.out
                    have h2 := HBb.out.size
                    have h3 := HB3.out.size
                    rw [heap_setCell_other _ ⟨b6, 0, none⟩ b _ (by simp; omega), HKd.out.block b (by show b < V3.heap.size; omega) (fun e => by have := (HSc.out.O.lt b e.symm).1; omega)]
                    exact (HB3.out.block b (by omega)).trans (HBb.out.block b hb)
                  exact AllReadyIn.nil
                exact AllReadyIn.nil
              exact AllReadyIn.nil
            exact AllReadyIn.nil
          exact AllReadyIn.nil
        refine AllReadyIn.cons rfl (fun K hK => ?_) ?_
        · skip
          go_simp
          refine hK _ _ ?_
          clear hK K
          refine wpAnyIn_ready (rs := [0, 2]) (by kernel_rfl) (by simp) ?_
          refine AllReadyIn.cons rfl (fun K hK => ?_) ?_
          · skip
            go_simp
            refine hK _ _ ?_
            clear hK K
            refine wpAnyIn_ready (rs := [2]) (by kernel_rfl) (by simp) ?_
            refine AllReadyIn.cons rfl (fun K hK => ?_) ?_
            · skip
              go_simp
              refine hK _ _ ?_
              clear hK K
              refine wpAnyIn_ready (rs := [3]) (by kernel_rfl) (by simp) ?_
              refine AllReadyIn.cons rfl (fun K hK => ?_) ?_
              · skip
                go_simp
                refine hK _ _ ?_
                clear hK K
                refine wpAnyIn_ready (rs := [4]) (by kernel_rfl) (by simp) ?_
                refine AllReadyIn.cons rfl (fun K hK => ?_) ?_
                · skip
                  refine stepIn_app rfl (.tmp 34) (.tmp 37) rfl wc.heap.size v (F pre) (by simp [Act.eval, Act.put]) HSc.out.O (some ⟨b9, 0, none⟩) P 4 _ (pxl W P xs X0 Y0) (by simp [Act.eval, Act.put]) Hpl.out.symm HPX.out (by have := Hpl.out; have := HFl.out; omega) HSc.out.ls ?_
                  intro v3 V4 hO3 hG3
                  obtain ⟨A4, c4, rfl, _⟩ := hO3.slice
                  obtain ⟨n4, hn4⟩ : ∃ n, n = (F pre ++ pxl W P xs X0 Y0).length := ⟨_, rfl⟩
                  rw [← hn4] at hO3 ⊢
                  clear hn4
                  have HSd := Lib.hid (HSc.out.app hO3 hG3)
                  have HKd := Lib.hid hG3
                  clear hO3 hG3
                  have x6 := HSd.out.c6
                  have y6 := HSd.out.f6
                  refine hK _ _ ?_
                  clear hK K
                  refine wpAnyIn_ready (rs := [5]) (by kernel_rfl) (by simp) ?_
                  refine AllReadyIn.cons rfl (fun K hK => ?_) ?_
                  · skip
                    go_simp
                    refine hK _ _ ?_
                    clear hK K
                    refine wpAnyIn_done (by kernel_rfl) ?_ _
                    gi_wp2
                    refine ⟨((keepsB HBb.out).trans (keepsB HB3.out)).trans ((KeepsFrom.trans (⟨Nat.le_refl _, fun _ _ _ h _ => h⟩ : KeepsFrom wc.heap.size V3 V3.drew) (keepsG HSc.out.O HKd.out)).trans ((KeepsOthers.setCell _ _ _).from _)), fun h => h.kept fun b hb he => ?_, ⟨_, by rw [← HSS.out]; exact HSd.out.put⟩⟩
                    have hbl : b < wc.heap.size := by
                      rcases he with rfl | rfl | rfl
                      · exact HPt.out.1.lt
                      · exact HPt.out.2.1.lt
                      · exact HPt.out.2.2.lt
                    have hbg : bp ≤ b := by
                      rcases he with rfl | rfl | rfl
                      · exact Nat.le_refl _
                      · exact Nat.le_succ _
                      · exact Nat.le_trans (Nat.le_succ _) (Nat.le_succ _)
                    have hb6 := Hb6l.out
                    have h2 := HBb.out.size
                    have h3 := HB3.out.size
                    rw [heap_setCell_other _ ⟨b6, 0, none⟩ b _ (by simp; omega), HKd.out.block b (by show b < V3.heap.size; omega) (fun e => by have := (HSc.out.O.lt b e.symm).1; omega)]
                    exact (HB3.out.block b (by omega)).trans (HBb.out.block b hb)
                  exact AllReadyIn.nil
                exact AllReadyIn.nil
              exact AllReadyIn.nil
            exact AllReadyIn.nil
          refine AllReadyIn.cons rfl (fun K hK => ?_) ?_
          · skip
            go_simp
            refine hK _ _ ?_
            clear hK K
            refine wpAnyIn_ready (rs := [0, 3]) (by kernel_rfl) (by simp) ?_
            refine AllReadyIn.cons rfl (fun K hK => ?_) ?_
            · skip
              go_simp
              refine hK _ _ ?_
              clear hK K
              refine wpAnyIn_ready (rs := [3]) (by kernel_rfl) (by simp) ?_
              refine AllReadyIn.cons rfl (fun K hK => ?_) ?_
              · skip
                go_simp
                refine hK _ _ ?_
                clear hK K
                refine wpAnyIn_ready (rs := [4]) (by kernel_rfl) (by simp) ?_
                refine AllReadyIn.cons rfl (fun K hK => ?_) ?_
                · skip
                  refine stepIn_app rfl (.tmp 34) (.tmp 37) rfl wc.heap.size v (F pre) (by simp [Act.eval, Act.put]) HSc.out.O (some ⟨b9, 0, none⟩) P 4 _ (pxl W P xs X0 Y0) (by simp [Act.eval, Act.put]) Hpl.out.symm HPX.out (by have := Hpl.out; have := HFl.out; omega) HSc.out.ls ?_
                  intro v3 V4 hO3 hG3
                  obtain ⟨A4, c4, rfl, _⟩ := hO3.slice
                  obtain ⟨n4, hn4⟩ : ∃ n, n = (F pre ++ pxl W P xs X0 Y0).length := ⟨_, rfl⟩
                  rw [← hn4] at hO3 ⊢
                  clear hn4
                  have HSd := Lib.hid (HSc.out.app hO3 hG3)
                  have HKd := Lib.hid hG3
                  clear hO3 hG3
                  have x6 := HSd.out.c6
                  have y6 := HSd.out.f6
                  refine hK _ _ ?_
                  clear hK K
                  refine wpAnyIn_ready (rs := [5]) (by kernel_rfl) (by simp) ?_
                  refine AllReadyIn.cons rfl (fun K hK => ?_) ?_
                  · skip
                    go_simp
                    refine hK _ _ ?_
                    clear hK K
                    refine wpAnyIn_done (by kernel_rfl) ?_ _
                    gi_wp2
                    refine ⟨((keepsB HBb.out).trans (keepsB HB3.out)).trans ((KeepsFrom.trans (⟨Nat.le_refl _, fun _ _ _ h _ => h⟩ : KeepsFrom wc.heap.size V3 V3.drew) (keepsG HSc.out.O HKd.out)).trans ((KeepsOthers.setCell _ _ _).from _)), fun h => h.kept fun b hb he => ?_, ⟨_, by rw [← HSS.out]; exact HSd.out.put⟩⟩
                    have hbl : b < wc.heap.size := by
                      rcases he with rfl | rfl | rfl
                      · exact HPt.out.1.lt
                      · exact HPt.out.2.1.lt
                      · exact HPt.out.2.2.lt
                    have hbg : bp ≤ b := by
                      rcases he with rfl | rfl | rfl
                      · exact Nat.le_refl _
                      · exact Nat.le_succ _
                      · exact Nat.le_trans (Nat.le_succ _) (Nat.le_succ _)
                    have hb6 := Hb6l.out
                    have h2 := HBb.out.size
                    have h3 := HB3.out.size
                    rw [heap_setCell_other _ ⟨b6, 0, none⟩ b _ (by simp; omega), HKd.out.block b (by show b < V3.heap.size; omega) (fun e => by have := (HSc.out.O.lt b e.symm).1; omega)]
                    exact (HB3.out.block b (by omega)).trans (HBb.out.block b hb)
                  exact AllReadyIn.nil
                exact AllReadyIn.nil
              exact AllReadyIn.nil
            refine AllReadyIn.cons rfl (fun K hK => ?_) ?_
            · skip
              go_simp
              refine hK _ _ ?_
              clear hK K
              refine wpAnyIn_ready (rs := [0]) (by kernel_rfl) (by simp) ?_
              refine AllReadyIn.cons rfl (fun K hK => ?_) ?_
              · skip
                go_simp
                refine hK _ _ ?_
                clear hK K
                refine wpAnyIn_ready (rs := [4]) (by kernel_rfl) (by simp) ?_
                refine AllReadyIn.cons rfl (fun K hK => ?_) ?_
                · skip
                  refine stepIn_app rfl (.tmp 34) (.tmp 37) rfl wc.heap.size v (F pre) (by simp [Act.eval, Act.put]) HSc.out.O (some ⟨b9, 0, none⟩) P 4 _ (pxl W P xs X0 Y0) (by simp [Act.eval, Act.put]) Hpl.out.symm HPX.out (by have := Hpl.out; have := HFl.out; omega) HSc.out.ls ?_
                  intro v3 V4 hO3 hG3
                  obtain ⟨A4, c4, rfl, _⟩ := hO3.slice
                  obtain ⟨n4, hn4⟩ : ∃ n, n = (F pre ++ pxl W P xs X0 Y0).length := ⟨_, rfl⟩
                  rw [← hn4] at hO3 ⊢
                  clear hn4
                  have HSd := Lib.hid (HSc.out.app hO3 hG3)
                  have HKd := Lib.hid hG3
                  clear hO3 hG3
                  have x6 := HSd.out.c6
                  have y6 := HSd.out.f6
                  refine hK _ _ ?_
                  clear hK K
                  refine wpAnyIn_ready (rs := [5]) (by kernel_rfl) (by simp) ?_
                  refine AllReadyIn.cons rfl (fun K hK => ?_) ?_
                  · skip
                    go_simp
                    refine hK _ _ ?_
                    clear hK K
                    refine wpAnyIn_done (by kernel_rfl) ?_ _
                    gi_wp2
                    refine ⟨((keepsB HBb.out).trans (keepsB HB3.out)).trans ((KeepsFrom.trans (⟨Nat.le_refl _, fun _ _ _ h _ => h⟩ : KeepsFrom wc.heap.size V3 V3.drew) (keepsG HSc.out.O HKd.out)).trans ((KeepsOthers.setCell _ _ _).from _)), fun h => h.kept fun b hb he => ?_, ⟨_, by rw [← HSS.out]; exact HSd.out.put⟩⟩
                    have hbl : b < wc.heap.size := by
                      rcases he with rfl | rfl | rfl
                      · exact HPt.out.1.lt
                      · exact HPt.out.2.1.lt
                      · exact HPt.out.2.2.lt
                    have hbg : bp ≤ b := by
                      rcases he with rfl | rfl | rfl
                      · exact Nat.le_refl _
                      · exact Nat.le_succ _
                      · exact Nat.le_trans (Nat.le_succ _) (Nat.le_succ _)
                    have hb6 := Hb6l.out
                    have h2 := HBb.out.size
                    have h3 := HB3.out.size
                    rw [heap_setCell_other _ ⟨b6, 0, none⟩ b _ (by simp; omega), HKd.out.block b (by show b < V3.heap.size; omega) (fun e => by have := (HSc.out.O.lt b e.symm).1; omega)]
                    exact (HB3.out.block b (by omega)).trans (HBb.out.block b hb)
                  exact AllReadyIn.nil
                exact AllReadyIn.nil
              exact AllReadyIn.nil
            exact AllReadyIn.nil
          exact AllReadyIn.nil
        exact AllReadyIn.nil
      case done =>
        rintro D ys V hD rfl ⟨v, hS⟩ hK
        have cq := hS.c6
        have HF := Lib.hid (hS.other (grownBy_putObj' V D (.deferred none)) (fun r e => by cases e; exact ⟨hD, _, hK, rfl⟩))
        have HKK := Lib.hid hK
        have Hle := Lib.hid (show w.heap.size ≤ wc.heap.size by have := hS.l2; omega)
        clear hS hK
        go_wp2
        refine ⟨by simp, .inl ⟨_, _, rfl, run_takeDeferred HKK.out, ?_⟩⟩
        refine ⟨_, results_tmp rfl _ _ _, ?_⟩
        rw [HE.out]
        refine ⟨v, rfl, ?_, HF.out.B⟩
        have hO := HF.out.O.base_le Hle.out
        rw [HFa.out] at hO
        simpa using hO
end Go.Proofs.YtlkacohbfgcokaaDoor
