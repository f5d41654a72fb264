/- The program's shelves. -/
import Derived.Test.YtgieijogopcjnaaPckT
import Derived.Test.YtgieijogopcjnaaPckI
import Derived.StillTailTactics
import Derived.Deep.RegionHeld3
import Derived.Maps.AppendAt
namespace Go.Proofs.Ytgieijogopcjnaa
open Go.RowKit
set_option linter.unusedSimpArgs false
set_option linter.unusedVariables false
set_option maxRecDepth 20000

/-- Tops and ends, by turns. -/
def inter : List Int → List Int → List Int
  | t :: ts, e :: es => t :: e :: inter ts es
  | _, _ => []
theorem inter_len : ∀ {ts es : List Int}, ts.length = es.length → (inter ts es).length = es.length * 2
  | [], [], _ => rfl
  | t :: ts, e :: es, h => by
    have := inter_len (ts := ts) (es := es) (by simpa using h)
    show (inter ts es).length + 1 + 1 = (es.length + 1) * 2
    omega
  | [], _ :: _, h => by simp at h
  | _ :: _, [], h => by simp at h
theorem inter_app : ∀ {ts es : List Int} (t e : Int), ts.length = es.length → inter (ts ++ [t]) (es ++ [e]) = inter ts es ++ [t, e]
  | [], [], t, e, _ => rfl
  | a :: ts, b :: es, t, e, h => by
    show a :: b :: inter (ts ++ [t]) (es ++ [e]) = a :: b :: (inter ts es ++ [t, e])
    rw [inter_app t e (by simpa using h)]
  | [], _ :: _, _, _, h => by simp at h
  | _ :: _, [], _, _, h => by simp at h
theorem inter_set : ∀ {ts es : List Int} (j : Nat) (x : Int), ts.length = es.length → (inter ts es).set (j * 2 + 1) x = inter ts (es.set j x)
  | [], [], j, x, _ => by simp [inter]
  | a :: ts, b :: es, 0, x, h => rfl
  | a :: ts, b :: es, j + 1, x, h => by
    show (a :: b :: inter ts es).set ((j + 1) * 2 + 1) x = a :: b :: inter ts (es.set j x)
    rw [← inter_set j x (by simpa using h), show (j + 1) * 2 + 1 = j * 2 + 1 + 1 + 1 by omega]
    rfl
  | [], _ :: _, _, _, h => by simp at h
  | _ :: _, [], _, _, h => by simp at h
theorem inter_get : ∀ {ts es : List Int} (j : Nat), ts.length = es.length → j < es.length → (inter ts es).getD (j * 2) 0 = ts.getD j 0 ∧ (inter ts es).getD (j * 2 + 1) 0 = es.getD j 0
  | [], [], j, _, h => by simp at h
  | a :: ts, b :: es, 0, _, _ => ⟨rfl, rfl⟩
  | a :: ts, b :: es, j + 1, h, hj => by
    have := inter_get (ts := ts) (es := es) j (by simpa using h) (by simpa using hj)
    rw [show (j + 1) * 2 + 1 = j * 2 + 1 + 1 + 1 by omega, show (j + 1) * 2 = j * 2 + 1 + 1 by omega]
    simpa [inter] using this
  | [], _ :: _, _, h, _ => by simp at h
  | _ :: _, [], _, h, _ => by simp at h
theorem grw_set (w : World) (b i : Nat) (v : Value) : w.grownBy (w.setCell ⟨b, i, none⟩ v) (some b) :=
  ⟨rfl, rfl, rfl, by simp [World.setCell], fun k _ hk => Below.heap_setCell _ _ _ _ (fun e => hk (by simp [e]))⟩
theorem cell_lt {w : World} {q o : Nat} {x : Value} (h : w.cell? ⟨q, o, none⟩ = some x) : q < w.heap.size := by
  rcases Nat.lt_or_ge q w.heap.size with h' | h'
  · exact h'
  · simp [World.cell?, Array.getElem?_eq_none h'] at h
theorem heap_lt {w : World} {q : Nat} {x : Obj} (h : w.heap[q]? = some x) : q < w.heap.size := by
  rcases Nat.lt_or_ge q w.heap.size with h' | h'
  · exact h'
  · rw [Array.getElem?_eq_none h'] at h; cases h
set_option maxHeartbeats 2000000 in
theorem put1_any (t e : Int) (ps p pa : Nat) (a W : Int) (w : World) (hs : w.cell? ⟨ps, 0, none⟩ = some (.int .i64 a)) (hp : w.cell? ⟨p, 0, none⟩ = some (.pointer (some ⟨pa, 0, none⟩))) (ha : w.cell? ⟨pa, 0, none⟩ = some (.int .i64 W)) (he : 0 ≤ e ∧ e ≤ 1000) (hab : 0 ≤ a ∧ a ≤ 1000) :
    Calls Try.prog 49 #[.agg #[.int .i64 t, .int .i64 e], .pointer (some ⟨ps, 0, none⟩), .pointer (some ⟨p, 0, none⟩)] w fun e' w' => e' = .returned (.bool (decide (e + a ≤ W))) ∧ Below w.heap.size w w' := by
  have hw : IntKind.i64.wrap (e + a) = e + a := IntWalk.i64_in _ (by omega)
  obtain ⟨u, hu⟩ : ∃ u, u = w.alloc (.cells #[.int .i64 t, .int .i64 e] 74) := ⟨_, rfl⟩
  have hg : u.heap[w.heap.size]? = some (.cells #[.int .i64 t, .int .i64 e] 74 (0, 0)) := by rw [hu]; exact heap_alloc_new w _
  have HB : Hid (Below w.heap.size w u) := Lib.hid (by rw [hu]; exact (Below.refl w.heap.size w).alloc (Nat.le_refl _) _)
  have s1 := (HB.out.cell (p := ⟨ps, 0, none⟩) (cell_lt hs)).trans hs
  have s2 := (HB.out.cell (p := ⟨p, 0, none⟩) (cell_lt hp)).trans hp
  have s3 := (HB.out.cell (p := ⟨pa, 0, none⟩) (cell_lt ha)).trans ha
  have s4 : u.cell? ⟨w.heap.size, 1, none⟩ = some (.int .i64 e) := by rw [cell_of_row _ _ _ _ _ _ hg]; rfl
  have HU := Lib.hid hu
  clear hs hp ha hg hu
  go_enter Try.func49, Try.ntmps49
  go_upto_region 1 with fail
  rw [← HU.out]
  go_quiet (fail)
  go_wp2
  go_ret
  exact ⟨rfl, dnP HB.out _⟩
/-- The first shelf with room, -1 for none. -/
def FoundS (j L : Nat) (w : World) (e : Ending) (w' : World) : Prop := e = .returned (.int .i64 (if j < L then (j : Int) else -1)) ∧ Below w.heap.size w w'
set_option maxHeartbeats 4000000 in
theorem idxS_any (A : Option Addr) (L c ps p pa : Nat) (a W : Int) (ss es : List Int) (w : World) (hs : w.cell? ⟨ps, 0, none⟩ = some (.int .i64 a)) (hp : w.cell? ⟨p, 0, none⟩ = some (.pointer (some ⟨pa, 0, none⟩))) (ha : w.cell? ⟨pa, 0, none⟩ = some (.int .i64 W))
    (hr : Rds .i64 w w.heap.size A ss) (hl : ss.length = L * 2) (hes : es.length = L) (hge : ∀ j, j < L → ss.getD (j * 2 + 1) 0 = es.getD j 0) (hbd : ∀ j, j < L → 0 ≤ es.getD j 0 ∧ es.getD j 0 ≤ 1000) (hab : 0 ≤ a ∧ a ≤ 1000) (hL : L ≤ 1000) :
    Calls Try.prog 48 #[.slice A L c, .func (.func 49) #[] #[.pointer (some ⟨ps, 0, none⟩), .pointer (some ⟨p, 0, none⟩)]] w (FoundS (shF W a es) L w) := by
  have HC : Hid (∀ u, Below w.heap.size w u → ∀ (j : Nat) (t : Int), j < L → Calls Try.prog 49 #[.agg #[.int .i64 t, .int .i64 (es.getD j 0)], .pointer (some ⟨ps, 0, none⟩), .pointer (some ⟨p, 0, none⟩)] u fun e' w' => e' = .returned (.bool (decide (es.getD j 0 + a ≤ W))) ∧ Below u.heap.size u w') := Lib.hid (fun u hu j t hj => put1_any t (es.getD j 0) ps p pa a W u ((hu.cell (p := ⟨ps, 0, none⟩) (cell_lt hs)).trans hs) ((hu.cell (p := ⟨p, 0, none⟩) (cell_lt hp)).trans hp) ((hu.cell (p := ⟨pa, 0, none⟩) (cell_lt ha)).trans ha) (hbd j hj) hab)
  have HR := Lib.hid hr
  have HL := Lib.hid hl
  have HES := Lib.hid hes
  have HGE := Lib.hid hge
  have eg : ∀ args w, (callFunc 49 args).run Try.prog w = .ok (.enter 49 args) w := enters_of Try.func49 (by kernel_rfl) rfl
  clear hs hp ha hr hl hes hge hbd
  go_enter Try.func48, Try.ntmps48
  go_wp2
  go_loopw [8] (fun i wr => ∃ j : Nat, j ≤ L ∧ i = .int .i64 (j : Int) ∧ Hid (∀ i, i < j → ¬ es.getD i 0 + a ≤ W) ∧ Hid (Below w.heap.size w wr)) (fun i _ => L - (intOf i).toNat)
  case atStart => exact ⟨0, Nat.zero_le _, rfl, Lib.hid (fun i hi => absurd hi (Nat.not_lt_zero _)), Lib.hid (Below.refl _ _)⟩
  case round =>
    obtain ⟨j, hj, rfl, hNo, hB⟩ := hrel
    rename World => wr
    by_cases hlt : j < L
    · have hjI : (j : Int) < (L : Int) := by omega
      obtain ⟨b, off, rfl, hb, hc⟩ := HR.out.cells_ (show j * 2 + 1 < ss.length by have := HL.out; omega)
      have c0 : wr.cell? ⟨b, off + j * 2, none⟩ = some (.int .i64 (ss.getD (j * 2) 0)) := (hB.out.cell (p := ⟨b, off + j * 2, none⟩) hb).trans (hc _ (by have := HL.out; omega))
      have c1 : wr.cell? ⟨b, off + j * 2 + 1, none⟩ = some (.int .i64 (es.getD j 0)) := (hB.out.cell (p := ⟨b, off + j * 2 + 1, none⟩) hb).trans (by have := hc (j * 2 + 1) (by have := HL.out; omega); rw [← Nat.add_assoc, HGE.out j hlt] at this; exact this)
      have hcc := fun t => HC.out wr hB.out j t hlt
      have HY : Hid (es.getD j 0 + a ≤ W → shF W a es = j) := Lib.hid (fun h => shF_at (by have := HES.out; omega) hNo.out (fun _ => h))
      have HN : Hid (¬ es.getD j 0 + a ≤ W → ∀ i, i < j + 1 → ¬ es.getD i 0 + a ≤ W) := Lib.hid (fun h i hi => by
        by_cases e : i = j
        · subst e; exact h
        · exact hNo.out i (by omega))
      clear hc hNo
      generalize es.getD j 0 = x at *
      generalize ss.getD (j * 2) 0 = t at *
      have HCC := Lib.hid (hcc t)
      clear hcc
      by_cases hx : x + a ≤ W
      · have HJ := Lib.hid (HY.out hx)
        have hd : decide (x + a ≤ W) = true := decide_eq_true hx
        rw [hd] at HCC
        clear HY HN hx hd
        go_wp2_with fail
        refine HCC.out.mono ?_
        rintro e w2 ⟨rfl, hb2⟩
        have HE := Lib.hid (hB.out.trans (hb2.mono hB.out.size))
        clear hb2
        go_wp2
        go_ret
        exact ⟨ret_int (by rw [HJ.out, if_pos hlt]), HE.out⟩
      · have HJ := Lib.hid (HN.out hx)
        have hd : decide (x + a ≤ W) = false := decide_eq_false hx
        rw [hd] at HCC
        clear HY HN hx hd
        go_wp2_with fail
        refine HCC.out.mono ?_
        rintro e w2 ⟨rfl, hb2⟩
        have HE := Lib.hid (hB.out.trans (hb2.mono hB.out.size))
        clear hb2
        go_wp2
        go_roundw
        case rel => exact ⟨j + 1, by omega, by go_num, Lib.hid (fun i hi => by have := HJ.out i hi; omega), HE⟩
        case measure => simp [intOf]; omega
    · have hjI : ¬ (j : Int) < (L : Int) := by omega
      have HJ : Hid (shF W a es = j) := Lib.hid (shF_at (by have := HES.out; omega) hNo.out (fun h => by have := HES.out; omega))
      go_wp2
      go_ret
      exact ⟨ret_int (by rw [HJ.out, if_neg (by omega)]), hB.out⟩
theorem infoSh : (Try.prog.info? 74).map (fun i => (i.zero, i.size, i.bytes)) = some (some (.agg #[.int .i64 0, .int .i64 0]), 2, 16) := by kernel_rfl
theorem wp_appSh {w : World} {o : Oper} {a : Act} {K : Act → World → Prop} {Q : Exit → Act → World → Prop} (s x : Operand)
    (ho : o.op = .call { callee := .builtin .append, args := #[s, x], argTypes := #[59, 59] })
    (base : Nat) (v : Value) (n : Nat) (xs : List Int) (hs : a.eval s = v) (hown : OwnT 74 2 w base v n xs)
    (b : Nat) (y0 y1 : Int) (hx : a.eval x = .slice (some ⟨b, 0, .none⟩) 1 1) (hr : w.heap[b]? = some (.cells #[.int .i64 y0, .int .i64 y1] 74 (0, 0))) (hl : n ≤ 1000000) (hbase : base ≤ w.heap.size)
    (h : ∀ v' w', OwnT 74 2 w' base v' (n + 1) (xs ++ [y0, y1]) → w.grownBy w' v.ownBlock → (v'.ownBlock = v.ownBlock ∨ v'.ownBlock = some w.heap.size) → K (a.put o.dst v') w') : o.wp Try.prog a w K Q := by
  obtain ⟨i, hi, hz, hsz, hb⟩ := info_parts infoSh
  have hnews : ∀ j u, ([y0, y1].map (Value.int .i64))[j]? = some u → w.cell? ((⟨b, 0, .none⟩ : Addr).add j) = some u := by
    intro j u hu
    have e : (⟨b, 0, .none⟩ : Addr).add j = ⟨b, j, .none⟩ := (add_spot rfl j).trans (by simp)
    rw [e, cell_of_row _ _ _ _ _ _ hr]
    rcases j with _ | _ | j
    · simpa using hu
    · simpa using hu
    · simp at hu
  obtain ⟨v', w', hrun, h2, h3, _, h5⟩ := run_append_own_at (P := Try.prog) w base 59 o.type 74 i _ 2 16 Try.underlying59 hi hz hsz hb rfl (by omega) v n (xs.map (.int .i64)) hown ⟨b, 0, .none⟩ 1 1 ([y0, y1].map (.int .i64)) (by simp) hnews (ints_oneCell _ _) (by unfold maxLen; omega) (by omega) hbase
  unfold Oper.wp execOp
  simp only [ho, resolve, invoke, builtin, Sem.run_bind, Sem.run_pure, Result.andThen_ok, List.map_toArray, List.map_cons, List.map_nil, hs, hx, hrun]
  exact h v' w' (by unfold OwnT; simpa using h2) h3 h5
theorem wpList_appSh {w : World} {ops : Array Oper} {rest : List Oper} {o : Oper} {a : Act} {Q : Exit → Act → World → Prop} (hgd : o.guard = none) (s x : Operand)
    (ho : o.op = .call { callee := .builtin .append, args := #[s, x], argTypes := #[59, 59] })
    (base : Nat) (v : Value) (n : Nat) (xs : List Int) (hs : a.eval s = v) (hown : OwnT 74 2 w base v n xs)
    (b : Nat) (y0 y1 : Int) (hx : a.eval x = .slice (some ⟨b, 0, .none⟩) 1 1) (hr : w.heap[b]? = some (.cells #[.int .i64 y0, .int .i64 y1] 74 (0, 0))) (hl : n ≤ 1000000) (hbase : base ≤ w.heap.size)
    (h : ∀ v' w', OwnT 74 2 w' base v' (n + 1) (xs ++ [y0, y1]) → w.grownBy w' v.ownBlock → (v'.ownBlock = v.ownBlock ∨ v'.ownBlock = some w.heap.size) → wpList Try.prog ops Q rest (a.put o.dst v') w') : wpList Try.prog ops Q (o :: rest) a w :=
  wpList_plain hgd fun _ hK => wp_appSh s x ho base v n xs hs hown b y0 y1 hx hr hl hbase fun v' w' h1 h2 h3 => hK _ _ (h v' w' h1 h2 h3)
/-- The atlas and what lies beside it. -/
structure PaSt (w wr : World) (go pa n : Nat) (vs vr : Value) (L : Nat) (W H : Int) (out ss ord : List Int) : Prop where
  O : OwnT 29 4 wr w.heap.size (.slice (some ⟨go, 0, none⟩) n n) n out
  P : wr.heap[pa]? = some (.cells #[.int .i64 W, .int .i64 H, vs] 61 (0, 0))
  S : OwnT 74 2 wr w.heap.size vs L ss
  R : Own wr w.heap.size vr ord
  B : Below w.heap.size w wr
  lo : w.heap.size ≤ pa
  op : go ≠ pa
  os : vs.ownBlock ≠ some go
  sp : vs.ownBlock ≠ some pa
  or : vr.ownBlock ≠ some go
  rp : vr.ownBlock ≠ some pa
  rs : Dj vs vr
section
variable {w wr w' : World} {go pa n L L' : Nat} {vs vr vs' : Value} {W H : Int} {out ss ord zs : List Int}
theorem PaSt.drew (h : PaSt w wr go pa n vs vr L W H out ss ord) : PaSt w wr.drew go pa n vs vr L W H out ss ord := ⟨h.O, h.P, h.S, h.R, h.B.drew, h.lo, h.op, h.os, h.sp, h.or, h.rp, h.rs⟩
theorem PaSt.drewN (h : PaSt w wr go pa n vs vr L W H out ss ord) (m : Nat) : PaSt w (wr.drewN m) go pa n vs vr L W H out ss ord := ⟨h.O, h.P, h.S, h.R, dnP h.B m, h.lo, h.op, h.os, h.sp, h.or, h.rp, h.rs⟩
theorem PaSt.below (h : PaSt w wr go pa n vs vr L W H out ss ord) (hb : Below wr.heap.size wr w') : PaSt w w' go pa n vs vr L W H out ss ord :=
  ⟨h.O.below hb (Nat.le_refl _), (hb.block pa (heap_lt h.P)).trans h.P, h.S.below hb (Nat.le_refl _), h.R.below hb (Nat.le_refl _), h.B.trans (hb.mono h.B.size), h.lo, h.op, h.os, h.sp, h.or, h.rp, h.rs⟩
theorem PaSt.alloc (h : PaSt w wr go pa n vs vr L W H out ss ord) (o : Obj) : PaSt w (wr.alloc o) go pa n vs vr L W H out ss ord := h.below ((Below.refl _ _).alloc (Nat.le_refl _) o)
/-- A cell of a block that is no part of it. -/
theorem PaSt.other (h : PaSt w wr go pa n vs vr L W H out ss ord) {g j : Nat} {x : Value} (hg : w.heap.size ≤ g) (h1 : g ≠ go) (h2 : g ≠ pa) (h3 : vs.ownBlock ≠ some g) (h4 : vr.ownBlock ≠ some g) : PaSt w (wr.setCell ⟨g, j, none⟩ x) go pa n vs vr L W H out ss ord := by
  have hG : wr.grownBy (wr.setCell ⟨g, j, none⟩ x) (some g) := grw_set wr g j x
  exact ⟨OwnT.kept h.O hG (.inr (fun e => h1 (by injection e with e; exact e.symm))), (hG.block pa (heap_lt h.P) (fun e => h2 (by injection e with e; exact e.symm))).trans h.P, h.S.kept hG (.inr h3), h.R.kept hG h4, h.B.setCell hg _, h.lo, h.op, h.os, h.sp, h.or, h.rp, h.rs⟩
/-- The shelves have grown. -/
theorem PaSt.app (h : PaSt w wr go pa n vs vr L W H out ss ord) (hO : OwnT 74 2 w' w.heap.size vs' L' zs) (hG : wr.grownBy w' vs.ownBlock) (hd : vs'.ownBlock = vs.ownBlock ∨ vs'.ownBlock = some wr.heap.size) : PaSt w (w'.setCell ⟨pa, 2, none⟩ vs') go pa n vs' vr L' W H out zs ord := by
  have hR : vr.ownBlock = none ∨ vr.ownBlock ≠ vs.ownBlock := by
    cases hv : vr.ownBlock with
    | none => exact .inl rfl
    | some g => exact .inr (fun e => h.rs g e.symm hv)
  have hP1 : w'.heap[pa]? = some (.cells #[.int .i64 W, .int .i64 H, vs] 61 (0, 0)) := (hG.block pa (heap_lt h.P) (fun e => h.sp e.symm)).trans h.P
  have hP2 := blk_set hP1 2 vs'
  have hG2 : w'.grownBy (w'.setCell ⟨pa, 2, none⟩ vs') (some pa) := grw_set w' pa 2 vs'
  have hO1 := OwnT.kept h.O hG (.inr (fun e => h.os e.symm))
  have hR1 : Own w' w.heap.size vr ord := World.ownsRow.kept h.R hG hR
  have kg := (ownT_gt h.O).1
  have kp := heap_lt h.P
  have e1 : vs'.ownBlock ≠ some go := by
    rcases hd with e | e
    · rw [e]; exact h.os
    · rw [e]; intro e2; injection e2 with e2; omega
  have e2 : vs'.ownBlock ≠ some pa := by
    rcases hd with e | e
    · rw [e]; exact h.sp
    · rw [e]; intro e2; injection e2 with e2; omega
  have e3 : Dj vs' vr := by
    rcases hd with e | e
    · intro g h1; rw [e] at h1; exact h.rs g h1
    · intro g h1 h2; rw [e] at h1; injection h1 with h1; have := (h.R.lt g h2).2; omega
  exact ⟨OwnT.kept hO1 hG2 (.inr (fun e => h.op (by injection e))), hP2, hO.kept hG2 (.inr e2), hR1.kept hG2 h.rp, (h.B.grown hG h.B.size (fun j hj => (h.S.lt j hj).1)).setCell h.lo _, h.lo, h.op, e1, e2, h.or, h.rp, e3⟩
theorem PaSt.high (h : PaSt w wr go pa n vs vr L W H out ss ord) (H' : Int) : PaSt w (wr.setCell ⟨pa, 1, none⟩ (.int .i64 H')) go pa n vs vr L W H' out ss ord := by
  have hG : wr.grownBy (wr.setCell ⟨pa, 1, none⟩ (.int .i64 H')) (some pa) := grw_set wr pa 1 _
  exact ⟨OwnT.kept h.O hG (.inr (fun e => h.op (by injection e))), blk_set h.P 1 _, h.S.kept hG (.inr h.sp), h.R.kept hG h.rp, h.B.setCell h.lo _, h.lo, h.op, h.os, h.sp, h.or, h.rp, h.rs⟩
theorem PaSt.putS {gs c : Nat} (h : PaSt w wr go pa n (.slice (some ⟨gs, 0, none⟩) L c) vr L W H out ss ord) (j : Nat) (y : Int) : PaSt w (wr.setCell ⟨gs, j, none⟩ (.int .i64 y)) go pa n (.slice (some ⟨gs, 0, none⟩) L c) vr L W H out (ss.set j y) ord := by
  have hp := h.S.put j y
  exact ⟨OwnT.kept h.O hp.2 (.inr (fun e => h.os e.symm)), (hp.2.block pa (heap_lt h.P) (fun e => h.sp e.symm)).trans h.P, hp.1, h.R.kept hp.2 (dj_ne h.rs rfl), h.B.setCell (h.S.lt gs rfl).1 _, h.lo, h.op, h.os, h.sp, h.or, h.rp, h.rs⟩
theorem PaSt.putO (h : PaSt w wr go pa n vs vr L W H out ss ord) (j : Nat) (y : Int) : PaSt w (wr.setCell ⟨go, j, none⟩ (.int .i64 y)) go pa n vs vr L W H (out.set j y) ss ord := by
  have hp := h.O.put j y
  exact ⟨hp.1, (hp.2.block pa (heap_lt h.P) (fun e => h.op (by injection e with e; exact e.symm))).trans h.P, h.S.kept hp.2 (.inr h.os), h.R.kept hp.2 h.or, h.B.setCell (ownT_gt h.O).2 _, h.lo, h.op, h.os, h.sp, h.or, h.rp, h.rs⟩
end
end Go.Proofs.Ytgieijogopcjnaa
