/- Chunks of two numbers: the library's iterator. -/
import Derived.RangeFuncNested
import Derived.RangeFuncBound
import Derived.RangeFuncCalls
import Derived.RangeFuncLeaves
import Derived.RangeFuncBox
import Derived.Shelf.Abstract
import Derived.Shelf.RegionOpen
import Derived.WalkKit
import Derived.OwnWalkIn
import Derived.TacticsInMore
import Derived.LoopNIn
import Derived.LoopIn
import Derived.Sort.QuietIn
import Derived.Maps.AppendAt
import Derived.Deep.RegionHeld3
import Derived.Test.YtbjgjjhfnaiocaaDoorRnM
namespace Go.Proofs.YtbjgjjhfnaiocaaDoor
open Go.RowKit Go.Shelf
set_option linter.unusedSimpArgs false
set_option linter.unusedVariables false
attribute [local go_sem] Oper.semAt_some

/-! ### A drawn region in the round of a loop over an iterator: walked as any other. -/
theorem rows_round {n : Nat} {P : Program} {row : String} {args : Array Value} {w : World} {R : Value → World → Prop} (l : Nat) (h : Rows P row args w R) : RowsIn (Fence.wide.inRound l) n P row args w R :=
  fun c cs _ => let ⟨v, w', r, s⟩ := h c cs; ⟨v, w', r, stepsIn_wide.2 s⟩
theorem upon_round {n : Nat} {P : Program} {o : Oper} {a : Act} {next : Act → World → Prop} {Q : Exit → Act → World → Prop} (l : Nat) : ∀ r : Result Next, o.upon P a next Q r → o.uponIn (Fence.wide.inRound l) n P a next Q r
  | .ok (.value v) w', h => h
  | .ok .skip w', h => h
  | .ok (.defer d) w', h => h
  | .ok (.enter f args) w', h => ⟨fun e => (by cases e), (callsIn_wide (n := n - 1)).2 h⟩
  | .ok (.row row args) w', h => ⟨fun e => (by cases e), rows_round l h⟩
  | .halt (.panic v) w', h => h
theorem op_round {n : Nat} {P : Program} {o : Oper} {a : Act} {w : World} {next : Act → World → Prop} {Q : Exit → Act → World → Prop} (l : Nat) (hnd : ∀ c, o.op ≠ .defer c) (h : o.wp P a w next Q) : o.wpIn (Fence.wide.inRound l) n P a w next Q :=
  ⟨fun _ _ => trivial, by rw [Oper.semAt_eq _ _ _ hnd]; exact upon_round l _ h⟩
theorem ops_round {n : Nat} {P : Program} {ops : Array Oper} {Q : Exit → Act → World → Prop} (l : Nat) (hnd : ∀ (i : Nat) (o : Oper) (c : Call), ops[i]? = some o → o.op ≠ .defer c) (hQ : ¬ LetsOut Q) : ∀ (is : List Nat) (a : Act) (w : World), wpOps P ops Q is a w → wpOpsIn (Fence.wide.inRound l) n P ops Q is a w
  | [], _, _, h => h
  | i :: rest, a, w, h => by
    unfold wpOps at h
    unfold wpOpsIn
    cases ho : ops[i]? with
    | none => rw [ho] at h; exact ops_round l hnd hQ rest a w h
    | some o =>
      rw [ho] at h
      simp only at h ⊢
      by_cases hw : Region.wanted o (yielded ops a.tmps) = true
      · rw [if_pos hw] at h ⊢
        rcases h with h | h
        · exact op_round l (fun c => hnd i o c ho) (Oper.wp_mono (fun a' w' h' => ops_round l hnd hQ rest a' w' h') h)
        · exact absurd h.2 hQ
      · rw [if_neg hw] at h ⊢
        exact ⟨fun _ _ => trivial, ops_round l hnd hQ rest _ w h⟩
theorem region_round_held {n : Nat} {P : Program} {id : Nat} {ops : Array Oper} {Q : Exit → Act → World → Prop} {S : World → Prop} {a : Act} {w : World} {l : Nat} (hm : P.follows .mixedOrders = true) (hnd : ∀ (i : Nat) (o : Oper) (c : Call), ops[i]? = some o → o.op ≠ .defer c) (hQ : ¬ LetsOut Q) (hS : S w.drew)
    (h : S w.drew → wpAnyH P .any ops Q S ops.size (Array.replicate ops.size false) a w.drew) : (Code.region id ops true).wpIn (Fence.wide.inRound l) n P Q a w :=
  wpIn_region_draw fun t => by
    simp only [Region.schedule, hm, Bool.true_or, if_true]
    exact ops_round l hnd hQ _ _ _ (wpAny_sound ops.size t _ a _ (wpAny_of_held _ _ _ _ (h hS)))
theorem op_append_own {P : Program} {o : Oper} {a : Act} {w : World} {K : Act → World → Prop} {Q : Exit → Act → World → Prop} (s x : Operand) (t : TypeId)
    (ho : o.op = .call { callee := .builtin .append, args := #[s, x], argTypes := #[t, t] })
    (base : Nat) (e : TypeId) (i : TypeInfo) (z : Value) (size bytes : Nat) (ht : P.underlying t = some (.slice e)) (hi : P.info? e = some i) (hz : i.zero = some z)
    (hsize : i.size = size) (hby : i.bytes = bytes) (hzs : z.cells.size = size) (hsz : 0 < size)
    (v : Value) (n : Nat) (xs : List Value) (hs : a.eval s = v) (hown : w.ownsRow base e size v n xs)
    (ad : Addr) (m c : Nat) (news : List Value) (hx : a.eval x = .slice (some ad) m c) (hl : news.length = m * size) (hnews : ∀ j u, news[j]? = some u → w.cell? (ad.add j) = some u) (h1 : ∀ u ∈ news, u.oneCell' = true)
    (h63 : n + m ≤ maxLen) (hbytes : (n + m) * bytes ≤ 140737488355328) (hbase : base ≤ w.heap.size)
    (h : ∀ v' w', w'.ownsRow base e size v' (n + m) (xs ++ news) → w.grownBy w' v.ownBlock → K (a.put o.dst v') w') : o.wp P a w K Q := by
  obtain ⟨v', w', hr, h2, h3, h4, h5⟩ := run_append_own_at (P := P) w base t o.type e i z size bytes ht hi hz hsize hby hzs hsz v n xs hown ad m c news hl hnews h1 h63 hbytes hbase
  unfold Oper.wp execOp
  simp only [ho, resolve, invoke, builtin, Sem.run_bind, Sem.run_pure, Result.andThen_ok, List.map_toArray, List.map_cons, List.map_nil, hs, hx, hr]
  exact h v' w' h2 h3
theorem fin_take (M k : Nat) (hk : k < M) : (List.finRange M).take (k + 1) = (List.finRange M).take k ++ [⟨k, hk⟩] := by
  rw [List.take_add_one, List.getElem?_eq_getElem (by simpa using hk)]
  simp
/-- What a round keeps: the iterator's two boxes. -/
def CK (Bs Bz : Nat) (sv : Value) (W W' : World) : Prop := (Boxed W Bs 67 sv → Boxed W' Bs 67 sv) ∧ (Boxed W Bz 3 (.int .i64 2) → Boxed W' Bz 3 (.int .i64 2))
theorem CK.trans {Bs Bz : Nat} {sv : Value} {A B C : World} (h : CK Bs Bz sv A B) (k : CK Bs Bz sv B C) : CK Bs Bz sv A C := ⟨fun x => k.1 (h.1 x), fun x => k.2 (h.2 x)⟩
theorem CK.putObj {Bs Bz : Nat} {sv : Value} (W : World) (l : Nat) (o' : Obj) (h1 : Bs < l) (h2 : Bz < l) : CK Bs Bz sv W (W.putObj l o') :=
  ⟨fun h => h.kept (grownBy_putObj' W l o') (fun e => by cases e; omega), fun h => h.kept (grownBy_putObj' W l o') (fun e => by cases e; omega)⟩
set_option maxRecDepth 100000 in
set_option maxHeartbeats 4000000 in
theorem chunk1_in (n : Nat) (hn : 1 ≤ n) (l Bs Bz b off M cap : Nat) (A : Option Addr) (hA : 0 < M → A = some ⟨b, off, none⟩) (hM : M ≤ 100000) (hcap : 2 * M ≤ cap) (J Jx : List (Fin M) → World → Prop) (hJd : ∀ pre W n, J pre W → J pre (W.drewN n))
    (hY : ∀ pre x W, J pre W → pre.length < M → YieldAt Fence.wide (n - 1) Tryd.prog l #[.slice (some ⟨b, off + 2 * x.val, none⟩) 2 2] W fun e W' =>
      (e = .returned (.bool true) ∧ J (pre ++ [x]) W' ∧ CK Bs Bz (.slice A (2 * M) cap) W W') ∨ (e = .returned (.bool false) ∧ Jx (pre ++ [x]) W'))
    (W : World) (hBs : Boxed W Bs 67 (.slice A (2 * M) cap)) (hBz : Boxed W Bz 3 (.int .i64 2)) (h0 : J [] W) :
    CallsIn Fence.wide n Tryd.prog 68 #[.func (.yield l) #[] #[], .pointer (some ⟨Bs, 0, none⟩), .pointer (some ⟨Bz, 0, none⟩)] W fun e W' => (∃ v, e = .returned v) ∧
      ((∃ ys, ys = List.finRange M ∧ J ys W') ∨ (∃ pre : List (Fin M), True ∧ Jx pre W')) := by
  refine callsIn_of_wp Tryd.func68 rfl trivial ?_ rfl
  simp only [Tryd.ntmps68, List.size_toArray, List.length_cons, List.length_nil, Nat.reduceAdd, Nat.reduceSub, Array.replicate_succ, Array.replicate_zero, List.push_toArray, List.append_toArray, List.nil_append, List.cons_append]
  gi_wp2
  gi_loopw [4] (fun i wr => ∃ k : Nat, k ≤ M ∧ i = .int .i64 ((2 * k : Nat) : Int) ∧ J ((List.finRange M).take k) wr ∧ Boxed wr Bs 67 (.slice A (2 * M) cap) ∧ Boxed wr Bz 3 (.int .i64 2))
    (fun i _ => 2 * M - (intOf i).toNat)
  case atStart => exact ⟨0, Nat.zero_le _, rfl, by simpa using h0, hBs, hBz⟩
  case round =>
    obtain ⟨k, hk, rfl, hJs, hx1, hx2⟩ := hrel
    have c1 := hx1.cell
    have c2 := hx2.cell
    by_cases hlt : k < M
    · obtain rfl := hA (by omega)
      have h1 : (2 * k : Int) < (2 * M : Int) := by omega
      have h2 : ¬ cap = 2 * k := by omega
      have h3 : 2 * k ≤ 2 * M := by omega
      have h4 : (2 * (k : Int)).toNat = 2 * k := by omega
      have h5 : ¬ (2 : Int) > ((2 * M - 2 * k : Nat) : Int) := by omega
      have h6 : (2 : Int) ≤ 2 * (M : Int) - 2 * (k : Int) := by omega
      have h7 : 2 * k + 2 ≤ cap := by omega
      gi_wp2
      gi_quiet (fail)
      have hJ3 := hJd _ _ nq hJs
      have hy1 : Boxed (wr.drewN nq) Bs 67 (.slice (some ⟨b, off, none⟩) (2 * M) cap) := hx1
      have hy2 : Boxed (wr.drewN nq) Bz 3 (.int .i64 2) := hx2
      have c3 := hy1.cell
      clear hJs hx1 hx2 c1 c2
      generalize wr.drewN nq = w3 at *
      obtain ⟨fn, tmps, assign, body, hy, hR⟩ := hY _ ⟨k, hlt⟩ w3 hJ3 (by simp; omega)
      have hR2 := Lib.hid hR
      clear hR hJ3
      have h8 : ¬ 2 * k + 2 = 2 * k := by omega
      have h9 : 2 * (k : Int) + 2 ≤ (cap : Int) := by omega
      have h10 : (2 * (k : Int) + 2).toNat = 2 * k + 2 := by omega
      gi_wp2
      refine hR2.out.mono ?_
      rintro e W3 (⟨rfl, hJ4, hk4⟩ | ⟨rfl, hJx4⟩)
      · have c5 := (hk4.2 hy2).cell
        gi_wp2
        go_roundw
        case rel => exact ⟨k + 1, by omega, by go_num, by rw [fin_take M k hlt]; exact hJ4, hk4.1 hy1, hk4.2 hy2⟩
        case measure => simp [intOf]; omega
      · gi_wp2
        refine bodyPost_ret (results_none rfl _ _ _) rfl ?_
        exact ⟨⟨_, rfl⟩, .inr ⟨_, trivial, hJx4⟩⟩
    · obtain rfl : k = M := by omega
      gi_wp2
      go_end0
      exact ⟨⟨_, rfl⟩, .inl ⟨_, rfl, by rw [List.take_of_length_le (by simp)] at hJs; exact hJs⟩⟩
/-- The value that slices.Chunk hands back, as an iterator. -/
theorem chunk_stops (n : Nat) (hn : 1 ≤ n) (Bs Bz b off M cap : Nat) (A : Option Addr) (hA : 0 < M → A = some ⟨b, off, none⟩) (hM : M ≤ 100000) (hcap : 2 * M ≤ cap) (w : World)
    (hBs : Boxed w Bs 67 (.slice A (2 * M) cap)) (hBz : Boxed w Bz 3 (.int .i64 2)) :
    SeqStopsK Fence.wide n Tryd.prog 68 #[.pointer (some ⟨Bs, 0, none⟩), .pointer (some ⟨Bz, 0, none⟩)] (fun x : Fin M => #[Value.slice (some ⟨b, off + 2 * x.val, none⟩) 2 2]) (CK Bs Bz (.slice A (2 * M) cap)) (fun ys => ys = List.finRange M) (fun _ => True) M w :=
  fun l J Jx W hW hJ _ hY h0 => chunk1_in n hn l Bs Bz b off M cap A hA hM hcap J Jx (fun pre W1 k h => hJ pre W1 (W1.drewN k) none h ⟨rfl, rfl, rfl, Nat.le_refl _, fun _ _ _ => rfl⟩ (by simp)) hY W ((hW.block Bs hBs.lt).trans hBs) ((hW.block Bz hBz.lt).trans hBz) h0
set_option maxHeartbeats 4000000 in
theorem chunk_any (A : Option Addr) (m c : Nat) (w : World) :
    Calls Tryd.prog 66 #[.slice A m c, .int .i64 2] w fun e w' => e = .returned (.func (.func 68) #[] #[.pointer (some ⟨w.heap.size, 0, none⟩), .pointer (some ⟨w.heap.size + 1, 0, none⟩)]) ∧ w' = (w.alloc (.cells #[.slice A m c] 67)).alloc (.cells #[.int .i64 2] 3) := by
  go_enter Tryd.func66, Tryd.ntmps66
  go_wp2
  go_ret
  exact ⟨by simp, rfl⟩
theorem infoC_Run : (Tryd.prog.info? 35).map (fun i => (i.zero, i.size, i.bytes)) = some (some (.agg #[.int .i64 0, .int .i64 0, .int .i64 0]), 3, 24) := by kernel_rfl
/-- The runs of some places, in their order. -/
def runsAt (xs : List Int) (n : Nat) (pre : List (Fin n)) : List Int := pre.flatMap fun j => [gY xs j.val, gF xs j.val, gT xs j.val]
theorem runsAt_snoc (xs : List Int) (n : Nat) (pre : List (Fin n)) (x : Fin n) : runsAt xs n (pre ++ [x]) = runsAt xs n pre ++ [gY xs x.val, gF xs x.val, gT xs x.val] := by simp [runsAt]
theorem runsAt_len (xs : List Int) (n : Nat) : ∀ pre : List (Fin n), (runsAt xs n pre).length = pre.length * 3
  | [] => rfl
  | j :: pre => by
    have := runsAt_len xs n pre
    unfold runsAt at this ⊢
    rw [List.flatMap_cons, List.length_append, this]; simp; omega
theorem runsAt_take {xs : List Int} {n : Nat} (hl : xs.length = 3 * n) : ∀ k, k ≤ n → runsAt xs n ((List.finRange n).take k) = xs.take (k * 3)
  | 0, _ => by simp [runsAt]
  | k + 1, hk => by
    rw [fin_take n k (by omega), runsAt_snoc, runsAt_take hl k (by omega), show (k + 1) * 3 = k * 3 + 3 by omega, take_run hl (by omega)]
theorem runsAt_all {xs : List Int} {n : Nat} (hl : xs.length = 3 * n) : runsAt xs n (List.finRange n) = xs := by
  have := runsAt_take hl n (Nat.le_refl _)
  rw [List.take_of_length_le (by simp), List.take_of_length_le (by omega)] at this
  exact this
set_option maxRecDepth 100000 in
set_option maxHeartbeats 8000000 in
theorem runsBetween_any (A : Option Addr) (c n : Nat) (xs : List Int) (hl : xs.length = 3 * n) (hr : reg xs n) (hn : n ≤ 1000) (hc : 2 * n ≤ c) (w : World) (hA : Rds .i64 w w.heap.size A (mkL xs n)) :
    Calls Tryd.prog 58 #[.slice A (2 * n) c] w fun e w' => ∃ v, e = .returned v ∧ OwnT 35 3 w' w.heap.size v n xs ∧ Below w.heap.size w w' := by
  refine (callsIn_wide (n := 5)).1 ?_
  obtain ⟨i0, hi, hz0, hz1, hz2⟩ := info_parts infoC_Run
  obtain ⟨b, off, hAe, hbl, hcell⟩ : ∃ b off, (0 < n → A = some ⟨b, off, none⟩) ∧ (0 < n → b < w.heap.size) ∧ (∀ j, j < 2 * n → w.cell? ⟨b, off + j, none⟩ = some (.int .i64 ((mkL xs n).getD j 0))) := by
    rcases Nat.eq_zero_or_pos n with h0 | h0
    · exact ⟨0, 0, fun h => by omega, fun h => by omega, fun j hj => by omega⟩
    · have hml := mkL_len xs n
      obtain ⟨b, off, rfl, hb, hc⟩ := hA.cells_ (j := 0) (by omega)
      exact ⟨b, off, fun _ => rfl, fun _ => hb, fun j hj => hc j (by omega)⟩
  refine callsIn_of_wp_marks Tryd.func58 rfl trivial ?_ rfl
  simp only [Tryd.ntmps58, List.size_toArray, List.length_cons, List.length_nil, Nat.reduceAdd, Nat.reduceSub, Array.replicate_succ, Array.replicate_zero, List.push_toArray, List.append_toArray, List.nil_append, List.cons_append]
  gi_wp2_with (refine ⟨trivial, ?_⟩; gi_at_call 66; refine (callsIn_wide.2 (chunk_any A (2 * n) c _)).mono ?_; rintro e w' ⟨rfl, rfl⟩)
  have bO := Boxed.new w 22 (.slice none 0 0)
  have hsz : (w.alloc (.cells #[.slice none 0 0] 22)).heap.size = w.heap.size + 1 := by simp
  obtain ⟨u, hu⟩ : ∃ u, u = ((w.alloc (.cells #[.slice none 0 0] 22)).alloc (.cells #[.slice A (2 * n) c] 67)).alloc (.cells #[.int .i64 2] 3) := ⟨_, rfl⟩
  have hB0 : Below w.heap.size w u := by rw [hu]; exact (((Below.refl _ w).alloc (Nat.le_refl _) _).alloc (by simp) _).alloc (by simp; omega) _
  have hus : u.heap.size = w.heap.size + 3 := by rw [hu]; simp
  have hcs : Boxed u (w.heap.size + 1) 67 (.slice A (2 * n) c) := by
    rw [hu]
    have := (Boxed.new (w.alloc (.cells #[.slice none 0 0] 22)) 67 (.slice A (2 * n) c)).alloc (.cells #[.int .i64 2] 3)
    rwa [hsz] at this
  have hcz : Boxed u (w.heap.size + 2) 3 (.int .i64 2) := by
    rw [hu]
    have := Boxed.new ((w.alloc (.cells #[.slice none 0 0] 22)).alloc (.cells #[.slice A (2 * n) c] 67)) 3 (.int .i64 2)
    rwa [World.size_alloc, hsz] at this
  have bU : Boxed u w.heap.size 22 (.slice none 0 0) := by rw [hu]; exact (bO.alloc _).alloc _
  (try simp only [hsz])
  (try rw [← hu])
  clear hu bO
  refine wpIn_rangeFunc_ownG rfl (by omega) (gf := 68) (lb := #[.pointer (some ⟨w.heap.size + 1, 0, none⟩), .pointer (some ⟨w.heap.size + 2, 0, none⟩)]) rfl trivial (enters_of Tryd.func68 (by kernel_rfl) rfl)
    (chunk_stops 4 (by omega) (w.heap.size + 1) (w.heap.size + 2) b off n c A hAe (by omega) hc u hcs hcz) CK.trans (fun W l o o' hl _ _ _ => CK.putObj W l o' (by omega) (by omega)) (Below.refl _ _) (fun _ => rfl)
    (fun pre W => (∃ v, Boxed W w.heap.size 22 v ∧ W.ownsRow w.heap.size 35 3 v pre.length ((runsAt xs n pre).map (Value.int .i64)) ∧ True) ∧ Below w.heap.size w W)
    (fun _ _ _ => False)
    (OwnFrom.and (Own.from (holdsRow_own w.heap.size w.heap.size 22 35 3 (fun pre => pre.length) (fun pre => (runsAt xs n pre).map (Value.int .i64)) (fun pre v => True)) _) (ownFrom_below (Nat.le_refl _) (by omega)))
    (fun _ _ _ _ _ hs _ _ => hs)
    ⟨⟨_, bU, World.ownsRow_nil _ _ _ _, trivial⟩, hB0⟩
    (fun x => { tmps := #[.slice A (2 * n) c, undef, .slice none 0 0, .pointer (some ⟨w.heap.size, 0, none⟩), .slice (some ⟨b, off + 2 * x.val, none⟩) 2 2, .slice A (2 * n) c, .func (.func 68) #[] #[.pointer (some ⟨w.heap.size + 1, 0, none⟩), .pointer (some ⟨w.heap.size + 2, 0, none⟩)], .slice (some ⟨b, off + 2 * x.val, none⟩) 2 2, undef, undef, undef, undef, undef, undef, undef, undef, undef, undef, undef, undef, undef, undef, undef, undef, undef], defers := [] }) ?assign ?body ?done ?stop
  case assign =>
    intro l x W K hK
    gi_wp2
    exact hK
  case body =>
    rintro l pre x W ⟨⟨v, hv, hrow, _⟩, hB⟩ hlt
    have hcv := hv.cell
    have hfv := hv.frozen
    have hxlt := x.isLt
    have m0 : W.cell? ⟨b, off + 2 * x.val, none⟩ = some (.int .i64 (gY xs x.val * 17 + gF xs x.val)) := by
      rw [hB.cell (p := ⟨b, off + 2 * x.val, none⟩) (hbl (by omega)), hcell (2 * x.val) (by omega), (mkL_get xs n x.val hxlt).1]
    have m1 : W.cell? ⟨b, off + 2 * x.val + 1, none⟩ = some (.int .i64 (gY xs x.val * 17 + gT xs x.val)) := by
      rw [Nat.add_assoc, hB.cell (p := ⟨b, off + (2 * x.val + 1), none⟩) (hbl (by omega)), hcell (2 * x.val + 1) (by omega), (mkL_get xs n x.val hxlt).2]
    obtain ⟨r1, r2, r3⟩ := runs_of hr hxlt
    obtain ⟨⟨b0, b1⟩, ⟨b2, b3⟩, b4, b5⟩ := bnds hr hxlt
    obtain ⟨a0, ha0⟩ : ∃ a0, a0 = gY xs x.val * 17 + gF xs x.val := ⟨_, rfl⟩
    obtain ⟨a1, ha1⟩ : ∃ a1, a1 = gY xs x.val * 17 + gT xs x.val := ⟨_, rfl⟩
    rw [← ha0] at m0 r1 r2
    rw [← ha1] at m1 r3
    have hp0 : 0 ≤ a0 ∧ a0 ≤ 300 := by omega
    have hp1 : 0 ≤ a1 ∧ a1 ≤ 300 := by omega
    obtain ⟨yy, hyy⟩ : ∃ yy, yy = gY xs x.val := ⟨_, rfl⟩
    obtain ⟨ff, hff⟩ : ∃ ff, ff = gF xs x.val := ⟨_, rfl⟩
    obtain ⟨tt, htt⟩ : ∃ tt, tt = gT xs x.val := ⟨_, rfl⟩
    have HRA : Hid (runsAt xs n (pre ++ [x]) = runsAt xs n pre ++ [yy, ff, tt]) := Lib.hid (by rw [hyy, hff, htt]; exact runsAt_snoc xs n pre x)
    rw [← hyy] at r1 b0 b1
    rw [← hff] at r2 b2 b3 b4
    rw [← htt] at r3 b4 b5
    have s1 : a0.tdiv 17 = yy := by rw [Int.tdiv_eq_ediv_of_nonneg hp0.1]; exact r1
    have s2 : a0.tmod 17 = ff := by rw [Int.tmod_eq_emod_of_nonneg hp0.1]; exact r2
    have s3 : a1.tmod 17 = tt := by rw [Int.tmod_eq_emod_of_nonneg hp1.1]; exact r3
    have s4 : IntKind.i64.wrap yy = yy := IntWalk.i64_in _ (by omega)
    have s5 : IntKind.i64.wrap ff = ff := IntWalk.i64_in _ (by omega)
    have s6 : IntKind.i64.wrap tt = tt := IntWalk.i64_in _ (by omega)
    have HLen := Lib.hid (runsAt_len xs n pre)
    obtain ⟨L0, hL0⟩ : ∃ L0, L0 = (runsAt xs n pre).map (Value.int .i64) := ⟨_, rfl⟩
    rw [← hL0] at hrow
    have HL0 := Lib.hid hL0
    clear ha0 ha1 hyy hff htt r1 r2 r3 hL0
    gi_wp2
    refine region_round_held (S := (fun w' => w'.cell? ⟨b, off + 2 * x.val, none⟩ = some (.int .i64 a0) ∧ w'.cell? ⟨b, off + 2 * x.val + 1, none⟩ = some (.int .i64 a1))) (by kernel_rfl) ?hnd ?hlo (by exact ⟨m0, m1⟩) (fun hHeld => ?hwalk)
    case hnd =>
      intro i o cc hi
      rcases i with _ | _ | _ | _ | _ | _ | _ | _ | _ | _ | _ | _ | _ | _ | _ | _ | _ | i
      all_goals first
        | (simp only [List.getElem?_toArray, List.getElem?_cons_succ, List.getElem?_cons_zero, Option.some.injEq] at hi; subst hi; intro h; cases h)
        | (simp at hi)
    case hlo => rintro ⟨a', w', h⟩; exact h
    case hwalk =>
      have HVd : Hid (Boxed W.drew w.heap.size 22 v) := Lib.hid hv
      have HRow : Hid (W.drew.ownsRow w.heap.size 35 3 v pre.length L0) := Lib.hid hrow
      have HB := Lib.hid hB
      have HBd : Hid (Below w.heap.size W W.drew) := Lib.hid (Below.refl _ W).drew
      have HbW : Hid (b < w.heap.size) := Lib.hid (hbl (by omega))
      have HbW2 : Hid (b < W.heap.size) := Lib.hid (by have := hB.size; have := HbW.out; omega)
      have HNw : Hid (∀ j u, [Value.int .i64 yy, .int .i64 ff, .int .i64 tt][j]? = some u → (W.drew.alloc (.cells #[.int .i64 yy, .int .i64 ff, .int .i64 tt] 35)).cell? ((⟨W.heap.size, 0, none⟩ : Addr).add j) = some u) := Lib.hid (fun j u hj => by
        have h : (W.drew.alloc (.cells #[.int .i64 yy, .int .i64 ff, .int .i64 tt] 35)).heap[W.heap.size]? = some (.cells #[.int .i64 yy, .int .i64 ff, .int .i64 tt] 35 (0, 0)) := heap_alloc_new W.drew _
        rw [add_spot rfl j, Nat.zero_add, cell_of_row _ _ j _ _ _ h]
        simpa using hj)
      have HBA : Hid (Below w.heap.size W (W.drew.alloc (.cells #[.int .i64 yy, .int .i64 ff, .int .i64 tt] 35))) := Lib.hid (HBd.out.alloc HB.out.size _)
      clear hrow hB
      refine' wpAnyH_take (i := 1) (oi := _) (v := _) ?hi1 (by kernel_rfl) (by kernel_rfl) (by kernel_rfl) ?hq1 (Or.inl ⟨?hw1, ?hy1⟩) (by assumption) ?rest1
      case hi1 => (simp only [List.getElem?_toArray, List.getElem?_cons_succ, List.getElem?_cons_zero]; rfl)
      case hq1 => exact fun _ _ _ h => h
      case hw1 => rfl
      case hy1 => (intro wq hSw; (try dsimp only at hSw); go_simp; (try with_reducible rfl))
      (try simp only [Act.put, List.setIfInBounds_toArray, List.set_cons_zero, List.set_cons_succ])
      refine' wpAnyH_take (i := 2) (oi := _) (v := _) ?hi2 (by kernel_rfl) (by kernel_rfl) (by kernel_rfl) ?hq2 (Or.inl ⟨?hw2, ?hy2⟩) (by assumption) ?rest2
      case hi2 => (simp only [List.getElem?_toArray, List.getElem?_cons_succ, List.getElem?_cons_zero]; rfl)
      case hq2 => exact fun _ _ _ h => h
      case hw2 => rfl
      case hy2 => (intro wq hSw; (try dsimp only at hSw); go_simp; (try with_reducible rfl))
      (try simp only [Act.put, List.setIfInBounds_toArray, List.set_cons_zero, List.set_cons_succ])
      refine' wpAnyH_take (i := 3) (oi := _) (v := _) ?hi3 (by kernel_rfl) (by kernel_rfl) (by kernel_rfl) ?hq3 (Or.inl ⟨?hw3, ?hy3⟩) (by assumption) ?rest3
      case hi3 => (simp only [List.getElem?_toArray, List.getElem?_cons_succ, List.getElem?_cons_zero]; rfl)
      case hq3 => exact fun _ _ _ h => h
      case hw3 => rfl
      case hy3 => (intro wq hSw; (try dsimp only at hSw); go_simp; (try with_reducible rfl))
      (try simp only [Act.put, List.setIfInBounds_toArray, List.set_cons_zero, List.set_cons_succ])
      refine' wpAnyH_take (i := 4) (oi := _) (v := _) ?hi4 (by kernel_rfl) (by kernel_rfl) (by kernel_rfl) ?hq4 (Or.inl ⟨?hw4, ?hy4⟩) (by assumption) ?rest4
      case hi4 => (simp only [List.getElem?_toArray, List.getElem?_cons_succ, List.getElem?_cons_zero]; rfl)
      case hq4 => exact fun _ _ _ h => h
      case hw4 => rfl
      case hy4 => (intro wq hSw; (try dsimp only at hSw); go_simp; (try with_reducible rfl))
      (try simp only [Act.put, List.setIfInBounds_toArray, List.set_cons_zero, List.set_cons_succ])
      refine' wpAnyH_take (i := 5) (oi := _) (v := _) ?hi5 (by kernel_rfl) (by kernel_rfl) (by kernel_rfl) ?hq5 (Or.inl ⟨?hw5, ?hy5⟩) (by assumption) ?rest5
      case hi5 => (simp only [List.getElem?_toArray, List.getElem?_cons_succ, List.getElem?_cons_zero]; rfl)
      case hq5 => exact fun _ _ _ h => h
      case hw5 => rfl
      case hy5 => (intro wq hSw; (try dsimp only at hSw); go_simp; (try with_reducible rfl))
      (try simp only [Act.put, List.setIfInBounds_toArray, List.set_cons_zero, List.set_cons_succ])
      refine' wpAnyH_take (i := 6) (oi := _) (v := _) ?hi6 (by kernel_rfl) (by kernel_rfl) (by kernel_rfl) ?hq6 (Or.inl ⟨?hw6, ?hy6⟩) (by assumption) ?rest6
      case hi6 => (simp only [List.getElem?_toArray, List.getElem?_cons_succ, List.getElem?_cons_zero]; rfl)
      case hq6 => exact fun _ _ _ h => h
      case hw6 => rfl
      case hy6 => (intro wq hSw; (try dsimp only at hSw); go_simp; (try with_reducible rfl))
      (try simp only [Act.put, List.setIfInBounds_toArray, List.set_cons_zero, List.set_cons_succ])
      refine' wpAnyH_take (i := 7) (oi := _) (v := _) ?hi7 (by kernel_rfl) (by kernel_rfl) (by kernel_rfl) ?hq7 (Or.inl ⟨?hw7, ?hy7⟩) (by assumption) ?rest7
      case hi7 => (simp only [List.getElem?_toArray, List.getElem?_cons_succ, List.getElem?_cons_zero]; rfl)
      case hq7 => exact fun _ _ _ h => h
      case hw7 => rfl
      case hy7 => (intro wq hSw; (try dsimp only at hSw); go_simp; (try with_reducible rfl))
      (try simp only [Act.put, List.setIfInBounds_toArray, List.set_cons_zero, List.set_cons_succ])
      refine' wpAnyH_take (i := 8) (oi := _) (v := _) ?hi8 (by kernel_rfl) (by kernel_rfl) (by kernel_rfl) ?hq8 (Or.inl ⟨?hw8, ?hy8⟩) (by assumption) ?rest8
      case hi8 => (simp only [List.getElem?_toArray, List.getElem?_cons_succ, List.getElem?_cons_zero]; rfl)
      case hq8 => exact fun _ _ _ h => h
      case hw8 => rfl
      case hy8 => (intro wq hSw; (try dsimp only at hSw); go_simp; (try with_reducible rfl))
      (try simp only [Act.put, List.setIfInBounds_toArray, List.set_cons_zero, List.set_cons_succ])
      refine' wpAnyH_take (i := 9) (oi := _) (v := _) ?hi9 (by kernel_rfl) (by kernel_rfl) (by kernel_rfl) ?hq9 (Or.inl ⟨?hw9, ?hy9⟩) (by assumption) ?rest9
      case hi9 => (simp only [List.getElem?_toArray, List.getElem?_cons_succ, List.getElem?_cons_zero]; rfl)
      case hq9 => exact fun _ _ _ h => h
      case hw9 => rfl
      case hy9 => (intro wq hSw; (try dsimp only at hSw); go_simp; (try with_reducible rfl))
      (try simp only [Act.put, List.setIfInBounds_toArray, List.set_cons_zero, List.set_cons_succ])
      refine' wpAnyH_take (i := 10) (oi := _) (v := _) ?hi10 (by kernel_rfl) (by kernel_rfl) (by kernel_rfl) ?hq10 (Or.inl ⟨?hw10, ?hy10⟩) (by assumption) ?rest10
      case hi10 => (simp only [List.getElem?_toArray, List.getElem?_cons_succ, List.getElem?_cons_zero]; rfl)
      case hq10 => exact fun _ _ _ h => h
      case hw10 => rfl
      case hy10 => (intro wq hSw; (try dsimp only at hSw); go_simp; (try with_reducible rfl))
      (try simp only [Act.put, List.setIfInBounds_toArray, List.set_cons_zero, List.set_cons_succ])
      refine' wpAnyH_take (i := 11) (oi := _) (v := _) ?hi11 (by kernel_rfl) (by kernel_rfl) (by kernel_rfl) ?hq11 (Or.inl ⟨?hw11, ?hy11⟩) (by assumption) ?rest11
      case hi11 => (simp only [List.getElem?_toArray, List.getElem?_cons_succ, List.getElem?_cons_zero]; rfl)
      case hq11 => exact fun _ _ _ h => h
      case hw11 => rfl
      case hy11 => (intro wq hSw; (try dsimp only at hSw); go_simp; (try with_reducible rfl))
      (try simp only [Act.put, List.setIfInBounds_toArray, List.set_cons_zero, List.set_cons_succ])
      refine' wpAnyH_take (i := 12) (oi := _) (v := _) ?hi12 (by kernel_rfl) (by kernel_rfl) (by kernel_rfl) ?hq12 (Or.inl ⟨?hw12, ?hy12⟩) (by assumption) ?rest12
      case hi12 => (simp only [List.getElem?_toArray, List.getElem?_cons_succ, List.getElem?_cons_zero]; rfl)
      case hq12 => exact fun _ _ _ h => h
      case hw12 => rfl
      case hy12 => (intro wq hSw; (try dsimp only at hSw); go_simp; (try with_reducible rfl))
      (try simp only [Act.put, List.setIfInBounds_toArray, List.set_cons_zero, List.set_cons_succ])
      refine' wpAnyH_take (i := 13) (oi := _) (v := _) ?hi13 (by kernel_rfl) (by kernel_rfl) (by kernel_rfl) ?hq13 (Or.inl ⟨?hw13, ?hy13⟩) (by assumption) ?rest13
      case hi13 => (simp only [List.getElem?_toArray, List.getElem?_cons_succ, List.getElem?_cons_zero]; rfl)
      case hq13 => exact fun _ _ _ h => h
      case hw13 => rfl
      case hy13 => (intro wq hSw; (try dsimp only at hSw); go_simp; (try with_reducible rfl))
      (try simp only [Act.put, List.setIfInBounds_toArray, List.set_cons_zero, List.set_cons_succ])
      refine wpAnyH_ready (rs := [0, 14]) (by kernel_rfl) (by simp) ?_
      refine' AllReadyH.cons (o := _) ?hiA (fun K hK => ?restA) (AllReadyH.cons (o := _) ?hiB (fun K hK => ?restB) AllReadyH.nil)
      case hiA => (simp only [List.getElem?_toArray, List.getElem?_cons_succ, List.getElem?_cons_zero]; rfl)
      case hiB => (simp only [List.getElem?_toArray, List.getElem?_cons_succ, List.getElem?_cons_zero]; rfl)
      case restA =>
        go_simp
        refine hK.out _ _ (by (try dsimp only); exact ⟨m0, m1⟩) (fun hHeld => ?_)
        clear hK K
        (try simp only [Act.put, List.setIfInBounds_toArray, List.set_cons_zero, List.set_cons_succ])
        refine wpAnyH_ready (rs := [14]) (by kernel_rfl) (by simp) ?_
        refine' AllReadyH.cons (o := _) ?hi41 (fun K hK => ?rest41) AllReadyH.nil
        case hi41 => (simp only [List.getElem?_toArray, List.getElem?_cons_succ, List.getElem?_cons_zero]; rfl)
        go_simp
        refine hK.out _ _ (by (try dsimp only); exact ⟨(HBA.out.cell (p := ⟨b, off + 2 * x.val, none⟩) HbW.out).trans m0, (HBA.out.cell (p := ⟨b, off + 2 * x.val + 1, none⟩) HbW.out).trans m1⟩) (fun hHeld => ?_)
        clear hK K
        (try simp only [Act.put, List.setIfInBounds_toArray, List.set_cons_zero, List.set_cons_succ])
        refine wpAnyH_ready (rs := [15]) (by kernel_rfl) (by simp) ?_
        refine' AllReadyH.cons (o := _) ?hi42 (fun K hK => ?rest42) AllReadyH.nil
        case hi42 => (simp only [List.getElem?_toArray, List.getElem?_cons_succ, List.getElem?_cons_zero]; rfl)
        (rw [if_pos (by first | rfl | kernel_rfl)])
        refine op_append_own (.tmp 8) (.tmp 22) 22 rfl w.heap.size 35 i0 _ 3 24 Tryd.underlying22 hi hz0 hz1 hz2 rfl (by decide) v pre.length L0 rfl (HRow.out.alloc _) ⟨W.heap.size, 0, none⟩ 1 1 [.int .i64 yy, .int .i64 ff, .int .i64 tt] rfl rfl HNw.out (by intro u hu; simp at hu; rcases hu with rfl | rfl | rfl <;> rfl) (by unfold maxLen; omega) (by omega) (Nat.le_trans HB.out.size (HBd.out.alloc HB.out.size (.cells #[.int .i64 yy, .int .i64 ff, .int .i64 tt] 35)).size) ?_
        intro v' w1 hown' hgrow
        obtain ⟨g', cap', rfl⟩ := ownsRow_succ hown'
        obtain ⟨hv1, hv2, hr2, hk2, hb2⟩ := Boxed.appended (W := W.drew) HVd.out (by decide) HRow.out HB.out.size (Nat.le_refl _) hown' hgrow
        have hbw1 : Below w.heap.size W w1 := ((HBd.out.alloc HB.out.size _).grown hgrow (Nat.le_trans HB.out.size (HBd.out.alloc HB.out.size (.cells #[.int .i64 yy, .int .i64 ff, .int .i64 tt] 35)).size) (fun j ej => (World.ownsRow.lt HRow.out j ej).1))
        have hc1 := hv1.cell
        have hf1 := hv1.frozen
        refine hK.out _ _ (by (try dsimp only); exact ⟨(hbw1.cell (p := ⟨b, off + 2 * x.val, none⟩) HbW.out).trans m0, (hbw1.cell (p := ⟨b, off + 2 * x.val + 1, none⟩) HbW.out).trans m1⟩) (fun hHeld => ?_)
        clear hK K
        (try simp only [Act.put, List.setIfInBounds_toArray, List.set_cons_zero, List.set_cons_succ])
        refine wpAnyH_ready (rs := [16]) (by kernel_rfl) (by simp) ?_
        refine' AllReadyH.cons (o := _) ?hi43 (fun K hK => ?rest43) AllReadyH.nil
        case hi43 => (simp only [List.getElem?_toArray, List.getElem?_cons_succ, List.getElem?_cons_zero]; rfl)
        go_simp
        have hb3 := HBd.out.trans hb2
        refine hK.out _ _ (by (try dsimp only); exact ⟨(hb3.cell (p := ⟨b, off + 2 * x.val, none⟩) HbW.out).trans m0, (hb3.cell (p := ⟨b, off + 2 * x.val + 1, none⟩) HbW.out).trans m1⟩) (fun hHeld => ?_)
        clear hK K
        (try simp only [Act.put, List.setIfInBounds_toArray, List.set_cons_zero, List.set_cons_succ])
        refine wpAnyH_done (by kernel_rfl) ?_ _
        have hr3 := hr2
        rw [show L0 ++ [Value.int .i64 yy, .int .i64 ff, .int .i64 tt] = (runsAt xs n (pre ++ [x])).map (Value.int .i64) from by rw [HRA.out, List.map_append, ← HL0.out]; rfl] at hr3
        exact ⟨((KeepsOthers.drew W).from _).trans (hk2.from _), ⟨fun h => (((show Boxed W.drew _ _ _ from h).alloc (.cells #[.int .i64 yy, .int .i64 ff, .int .i64 tt] 35)).kept hgrow (Boxed.not_row (W := W.drew) h (by decide) HRow.out)).other (by omega) _, fun h => (((show Boxed W.drew _ _ _ from h).alloc (.cells #[.int .i64 yy, .int .i64 ff, .int .i64 tt] 35)).kept hgrow (Boxed.not_row (W := W.drew) h (by decide) HRow.out)).other (by omega) _⟩, ⟨⟨_, hv2, by simpa using hr3, trivial⟩, HB.out.trans hb3⟩⟩
      case restB =>
        go_simp
        refine hK.out _ _ (by (try dsimp only); exact ⟨(HBA.out.cell (p := ⟨b, off + 2 * x.val, none⟩) HbW.out).trans m0, (HBA.out.cell (p := ⟨b, off + 2 * x.val + 1, none⟩) HbW.out).trans m1⟩) (fun hHeld => ?_)
        clear hK K
        (try simp only [Act.put, List.setIfInBounds_toArray, List.set_cons_zero, List.set_cons_succ])
        have hcv2 := (HVd.out.alloc (.cells #[.int .i64 yy, .int .i64 ff, .int .i64 tt] 35)).cell
        have hcv3 := (hv.alloc (.cells #[.int .i64 yy, .int .i64 ff, .int .i64 tt] 35)).cell
        refine wpAnyH_ready (rs := [0]) (by kernel_rfl) (by simp) ?_
        refine' AllReadyH.cons (o := _) ?hi44 (fun K hK => ?rest44) AllReadyH.nil
        case hi44 => (simp only [List.getElem?_toArray, List.getElem?_cons_succ, List.getElem?_cons_zero]; rfl)
        go_simp
        refine hK.out _ _ (by (try dsimp only); exact ⟨(HBA.out.cell (p := ⟨b, off + 2 * x.val, none⟩) HbW.out).trans m0, (HBA.out.cell (p := ⟨b, off + 2 * x.val + 1, none⟩) HbW.out).trans m1⟩) (fun hHeld => ?_)
        clear hK K
        (try simp only [Act.put, List.setIfInBounds_toArray, List.set_cons_zero, List.set_cons_succ])
        refine wpAnyH_ready (rs := [15]) (by kernel_rfl) (by simp) ?_
        refine' AllReadyH.cons (o := _) ?hi45 (fun K hK => ?rest45) AllReadyH.nil
        case hi45 => (simp only [List.getElem?_toArray, List.getElem?_cons_succ, List.getElem?_cons_zero]; rfl)
        (rw [if_pos (by first | rfl | kernel_rfl)])
        refine op_append_own (.tmp 8) (.tmp 22) 22 rfl w.heap.size 35 i0 _ 3 24 Tryd.underlying22 hi hz0 hz1 hz2 rfl (by decide) v pre.length L0 rfl (HRow.out.alloc _) ⟨W.heap.size, 0, none⟩ 1 1 [.int .i64 yy, .int .i64 ff, .int .i64 tt] rfl rfl HNw.out (by intro u hu; simp at hu; rcases hu with rfl | rfl | rfl <;> rfl) (by unfold maxLen; omega) (by omega) (Nat.le_trans HB.out.size (HBd.out.alloc HB.out.size (.cells #[.int .i64 yy, .int .i64 ff, .int .i64 tt] 35)).size) ?_
        intro v' w1 hown' hgrow
        obtain ⟨g', cap', rfl⟩ := ownsRow_succ hown'
        obtain ⟨hv1, hv2, hr2, hk2, hb2⟩ := Boxed.appended (W := W.drew) HVd.out (by decide) HRow.out HB.out.size (Nat.le_refl _) hown' hgrow
        have hbw1 : Below w.heap.size W w1 := ((HBd.out.alloc HB.out.size _).grown hgrow (Nat.le_trans HB.out.size (HBd.out.alloc HB.out.size (.cells #[.int .i64 yy, .int .i64 ff, .int .i64 tt] 35)).size) (fun j ej => (World.ownsRow.lt HRow.out j ej).1))
        have hc1 := hv1.cell
        have hf1 := hv1.frozen
        refine hK.out _ _ (by (try dsimp only); exact ⟨(hbw1.cell (p := ⟨b, off + 2 * x.val, none⟩) HbW.out).trans m0, (hbw1.cell (p := ⟨b, off + 2 * x.val + 1, none⟩) HbW.out).trans m1⟩) (fun hHeld => ?_)
        clear hK K
        (try simp only [Act.put, List.setIfInBounds_toArray, List.set_cons_zero, List.set_cons_succ])
        refine wpAnyH_ready (rs := [16]) (by kernel_rfl) (by simp) ?_
        refine' AllReadyH.cons (o := _) ?hi46 (fun K hK => ?rest46) AllReadyH.nil
        case hi46 => (simp only [List.getElem?_toArray, List.getElem?_cons_succ, List.getElem?_cons_zero]; rfl)
        go_simp
        have hb3 := HBd.out.trans hb2
        refine hK.out _ _ (by (try dsimp only); exact ⟨(hb3.cell (p := ⟨b, off + 2 * x.val, none⟩) HbW.out).trans m0, (hb3.cell (p := ⟨b, off + 2 * x.val + 1, none⟩) HbW.out).trans m1⟩) (fun hHeld => ?_)
        clear hK K
        (try simp only [Act.put, List.setIfInBounds_toArray, List.set_cons_zero, List.set_cons_succ])
        refine wpAnyH_done (by kernel_rfl) ?_ _
        have hr3 := hr2
        rw [show L0 ++ [Value.int .i64 yy, .int .i64 ff, .int .i64 tt] = (runsAt xs n (pre ++ [x])).map (Value.int .i64) from by rw [HRA.out, List.map_append, ← HL0.out]; rfl] at hr3
        exact ⟨((KeepsOthers.drew W).from _).trans (hk2.from _), ⟨fun h => (((show Boxed W.drew _ _ _ from h).alloc (.cells #[.int .i64 yy, .int .i64 ff, .int .i64 tt] 35)).kept hgrow (Boxed.not_row (W := W.drew) h (by decide) HRow.out)).other (by omega) _, fun h => (((show Boxed W.drew _ _ _ from h).alloc (.cells #[.int .i64 yy, .int .i64 ff, .int .i64 tt] 35)).kept hgrow (Boxed.not_row (W := W.drew) h (by decide) HRow.out)).other (by omega) _⟩, ⟨⟨_, hv2, by simpa using hr3, trivial⟩, HB.out.trans hb3⟩⟩
  case done =>
    rintro D ys W hD rfl ⟨⟨v, hv, hrow, _⟩, hB⟩ hK
    have hcv := hv.cell
    gi_wp2
    refine ⟨by simp, .inl ⟨_, _, rfl, run_takeDeferred hK, ?_⟩⟩
    refine ⟨_, results_tmp rfl _ _ _, v, rfl, ?_, hB.trans (belowK_b (w := w) (Nat.le_refl _) W D _ _ (by omega) hK rfl rfl)⟩
    rw [runsAt_all hl] at hrow
    have h := ownsRow_putObj hrow (.deferred none) hK rfl
    show World.ownsRow _ _ _ _ _ _ _
    simpa using h
  case stop =>
    rintro D c pre W _ _ h _
    exact h.elim
end Go.Proofs.YtbjgjjhfnaiocaaDoor
