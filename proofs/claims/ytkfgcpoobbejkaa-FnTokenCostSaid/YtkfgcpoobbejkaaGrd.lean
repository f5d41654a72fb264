/- What the model's GreedyTokens answers: some tokens, no more of them than bytes. -/
import Derived.Test.YtkfgcpoobbejkaaDrawBytes
import Derived.Test.YtkfgcpoobbejkaaOwnT
import Derived.BigQuiet
namespace Go.Proofs.Ytkfgcpoobbejkaa
open Go.RowKit
set_option linter.unusedSimpArgs false
set_option linter.unusedVariables false
set_option maxRecDepth 20000

theorem dnB {B : Nat} {a w : World} (h : Below B a w) (n : Nat) : Below B a (w.drewN n) := ⟨h.os, h.tape, h.output, h.size, h.block⟩
theorem tok_cells (w : World) (a b c : Int) (T : TypeId) (j : Nat) (hj : j < [a, b, c].length) : (w.alloc (.cells #[.int .i64 a, .int .i64 b, .int .i64 c] T)).cell? ⟨w.heap.size, j, none⟩ = some (.int .i64 ([a, b, c].getD j 0)) := by
  rw [cell_of_row _ _ _ _ _ _ (heap_alloc_new w _)]
  match j, hj with
  | 0, _ => rfl
  | 1, _ => rfl
  | 2, _ => rfl
theorem infoT_Tok2 : (Try.prog.info? 31).map (fun i => (i.zero, i.size, i.bytes)) = some (some (.agg #[.int .i64 0, .int .i64 0, .int .i64 0]), 3, 24) := by kernel_rfl
theorem wpList_appTok2 {w : World} {ops : Array Oper} {rest : List Oper} {o : Oper} {a : Act} {Q : Exit → Act → World → Prop} (hgd : o.guard = none) (s x : Operand)
    (ho : o.op = .call { callee := .builtin .append, args := #[s, x], argTypes := #[23, 23] })
    (base : Nat) (v : Value) (n : Nat) (xs : List Int) (hs : a.eval s = v) (hown : OwnT 31 3 w base v n xs)
    (b m c : Nat) (ys : List Int) (hx : a.eval x = .slice (some ⟨b, 0, .none⟩) m c) (hm : ys.length = m * 3) (hr : ∀ j, j < ys.length → w.cell? ⟨b, j, .none⟩ = some (.int .i64 (ys.getD j 0))) (hl : n + m ≤ 1000000) (hbase : base ≤ w.heap.size)
    (h : ∀ v' w', OwnT 31 3 w' base v' (n + m) (xs ++ ys) → w.grownBy w' v.ownBlock → wpList Try.prog ops Q rest (a.put o.dst v') w') : wpList Try.prog ops Q (o :: rest) a w := by
  obtain ⟨i, hi, hz, hsz, hb⟩ := info_parts infoT_Tok2
  refine wpList_append_own w hgd s x 23 ho base 31 i (.agg #[.int .i64 0, .int .i64 0, .int .i64 0]) 3 24 Try.underlying23 hi hz hsz hb rfl (by omega) v n (xs.map (.int .i64)) hs hown ⟨b, 0, .none⟩ m c (ys.map (.int .i64)) hx (by simpa using hm) ?_ (ints_oneCell _ _)
    (by unfold maxLen; omega) (by omega) hbase ?_
  · intro j u hu
    have hj : j < ys.length := by
      rcases Nat.lt_or_ge j ys.length with h | h
      · exact h
      · simp [List.getElem?_eq_none h] at hu
    have e : (⟨b, 0, .none⟩ : Addr).add j = ⟨b, j, .none⟩ := (add_spot rfl j).trans (by simp)
    rw [e, hr j hj]
    simp [hj] at hu ⊢
    exact hu
  · intro v' w' ho' hg _
    exact h v' w' (by unfold OwnT; simpa using ho') hg
set_option maxHeartbeats 2000000 in
theorem s_vb (A : Option Addr) (c B : Nat) (xs : List Int) (w : World) (hx : Rds .i64 w B A xs) (hl : xs.length ≤ 1200) :
    Calls Try.prog 14 #[.slice A xs.length c] w fun e w' => ∃ b : Bool, e = .returned (.bool b) ∧ w = w' := by
  have Hx := Lib.hid hx
  clear hx
  go_enter Try.func14, Try.ntmps14
  go_wp2_with fail
  refine (sAllIn_any A c _ xs 0 255 _ Hx.out (by omega)).mono ?_
  rintro e w' ⟨rfl, rfl⟩
  go_wp2
  go_ret
  exact ⟨_, rfl, rfl⟩
set_option maxHeartbeats 8000000 in
theorem s_matchLength (A : Option Addr) (c at_ back : Nat) (xs : List Int) (w : World) (hx : Rds .i64 w w.heap.size A xs) (hl : xs.length ≤ 1200) (hb : 1 ≤ back ∧ back ≤ at_) (ha : at_ ≤ xs.length) :
    Calls Try.prog 21 #[.slice A xs.length c, .int .i64 (at_ : Int), .int .i64 (back : Int)] w fun e w' => ∃ m : Nat, e = .returned (.int .i64 (m : Int)) ∧ (m ≤ 18 ∧ at_ + m ≤ xs.length) ∧ Below w.heap.size w w' := by
  have HX := Lib.hid hx
  clear hx
  go_enter Try.func21, Try.ntmps21
  go_wp2
  go_loopw [7] (fun i wr => ∃ k : Nat, (k ≤ 18 ∧ at_ + k ≤ xs.length) ∧ i = .int .i64 (k : Int) ∧ Hid (Below w.heap.size w wr)) (fun i _ => 18 - (intOf i).toNat)
  case atStart => exact ⟨0, by omega, rfl, Lib.hid (Below.refl _ _)⟩
  case round =>
    obtain ⟨k, hk, rfl, hI⟩ := hrel
    rename World => wr
    by_cases h1 : k < 18
    · have d1 : decide ((k : Int) < 18) = true := decide_eq_true (by omega)
      have d1' : (k : Int) < 18 := by omega
      by_cases h2 : at_ + k < xs.length
      · have d2 : decide ((at_ : Int) + (k : Int) < (xs.length : Int)) = true := decide_eq_true (by omega)
        have d2' : (at_ : Int) + (k : Int) < (xs.length : Int) := by omega
        obtain ⟨b, off, rfl, hbl, hc⟩ := HX.out.cells_ h2
        have c1 : wr.cell? ⟨b, off + (at_ + k), none⟩ = some (.int .i64 (xs.getD (at_ + k) 0)) := (hI.out.cell (p := ⟨b, off + (at_ + k), none⟩) hbl).trans (hc _ h2)
        have c2 : wr.cell? ⟨b, off + (at_ + k - back), none⟩ = some (.int .i64 (xs.getD (at_ + k - back) 0)) := (hI.out.cell (p := ⟨b, off + (at_ + k - back), none⟩) hbl).trans (hc _ (by omega))
        have i1 : ((at_ : Int) + (k : Int)).toNat = at_ + k := by omega
        have i2 : ((at_ : Int) + (k : Int) - (back : Int)).toNat = at_ + k - back := by omega
        have i3 : 0 ≤ (at_ : Int) + (k : Int) - (back : Int) := by omega
        have i4 : (at_ : Int) + (k : Int) - (back : Int) < (xs.length : Int) := by omega
        clear hc hbl
        generalize xs.getD (at_ + k) 0 = p at *
        generalize xs.getD (at_ + k - back) 0 = q at *
        cases d3 : (p == q)
        · go_upto_region 2 with fail
          go_quiet (fail)
          go_wp2
          go_ret
          exact ⟨k, rfl, by omega, dnB hI.out _⟩
        · go_upto_region 2 with fail
          go_quiet (fail)
          go_wp2
          go_roundw
          case rel => exact ⟨k + 1, by omega, by go_num, Lib.hid (dnB hI.out _)⟩
          case measure => simp [intOf]; omega
      · have d2 : decide ((at_ : Int) + (k : Int) < (xs.length : Int)) = false := decide_eq_false (by omega)
        go_upto_region 2 with fail
        go_quiet (fail)
        go_wp2
        go_ret
        exact ⟨k, rfl, by omega, dnB hI.out _⟩
    · have d1 : decide ((k : Int) < 18) = false := decide_eq_false (by omega)
      go_upto_region 2 with fail
      go_quiet (fail)
      go_wp2
      go_ret
      exact ⟨k, rfl, by omega, dnB hI.out _⟩
set_option maxHeartbeats 8000000 in
theorem s_longest (A : Option Addr) (c at_ : Nat) (xs : List Int) (w : World) (hx : Rds .i64 w w.heap.size A xs) (hl : xs.length ≤ 1200) (ha : at_ ≤ xs.length) :
    Calls Try.prog 18 #[.slice A xs.length c, .int .i64 (at_ : Int)] w fun e w' => ∃ m q : Nat, e = .returned (.tuple #[.int .i64 (m : Int), .int .i64 (q : Int)]) ∧ (m ≤ 18 ∧ q ≤ 64 ∧ at_ + m ≤ xs.length) ∧ Below w.heap.size w w' := by
  have HX := Lib.hid hx
  clear hx
  go_enter Try.func18, Try.ntmps18
  go_wp2
  go_loopw [6, 7, 8] (fun bv qv i wr => ∃ m q d : Nat, (m ≤ 18 ∧ q ≤ 64 ∧ at_ + m ≤ xs.length ∧ 1 ≤ d ∧ d ≤ 65) ∧ bv = .int .i64 (m : Int) ∧ qv = .int .i64 (q : Int) ∧ i = .int .i64 (d : Int) ∧ Hid (Below w.heap.size w wr)) (fun _ _ i _ => 66 - (intOf i).toNat)
  case atStart => exact ⟨0, 0, 1, by omega, rfl, rfl, rfl, Lib.hid (Below.refl _ _)⟩
  case round =>
    obtain ⟨m, q, d, ⟨b1, b2, b3, b4, b5⟩, rfl, rfl, rfl, hI⟩ := hrel
    rename World => wr
    have hfin : Hid (∀ u : World, Below w.heap.size w u → True) := Lib.hid (fun _ _ => trivial)
    by_cases h1 : d ≤ at_
    · have d1 : (d : Int) ≤ (at_ : Int) := by omega
      by_cases h2 : d ≤ 64
      · have d2 : (d : Int) ≤ 64 := by omega
        have HXr := Lib.hid ((HX.out.below hI.out).more hI.out.size)
        go_wp2_with fail
        refine (s_matchLength A c at_ d xs wr HXr.out hl ⟨b4, h1⟩ ha).mono ?_
        rintro e w2 ⟨r, rfl, ⟨r1, r2⟩, hb2⟩
        have HN : Hid (Below w.heap.size w w2) := Lib.hid (hI.out.trans (hb2.mono hI.out.size))
        clear hb2 HXr hI
        by_cases h3 : m < r
        · have d3 : (m : Int) < (r : Int) := by omega
          go_wp2
          go_roundw
          case rel => exact ⟨r, d, d + 1, by omega, rfl, rfl, by go_num, HN⟩
          case measure => simp [intOf]; omega
        · have d3 : ¬ (m : Int) < (r : Int) := by omega
          go_wp2
          go_roundw
          case rel => exact ⟨m, q, d + 1, by omega, rfl, rfl, by go_num, HN⟩
          case measure => simp [intOf]; omega
      · have d2 : ¬ (d : Int) ≤ 64 := by omega
        by_cases h3 : m < 3
        · have d3 : (m : Int) < 3 := by omega
          go_wp2
          go_ret2
          exact ⟨0, 0, rfl, by omega, hI.out⟩
        · have d3 : ¬ (m : Int) < 3 := by omega
          go_wp2
          go_ret2
          exact ⟨m, q, rfl, by omega, hI.out⟩
    · have d1 : ¬ (d : Int) ≤ (at_ : Int) := by omega
      by_cases h3 : m < 3
      · have d3 : (m : Int) < 3 := by omega
        go_wp2
        go_ret2
        exact ⟨0, 0, rfl, by omega, hI.out⟩
      · have d3 : ¬ (m : Int) < 3 := by omega
        go_wp2
        go_ret2
        exact ⟨m, q, rfl, by omega, hI.out⟩
/-- Some tokens in memory of the call's own. -/
def SomeTok (N : Nat) (w : World) (base : Nat) (v : Value) (w' : World) : Prop := ∃ n ys, OwnT 31 3 w' base v n ys ∧ n ≤ N ∧ Below w.heap.size w w'
set_option maxHeartbeats 8000000 in
theorem s_greedy (A : Option Addr) (c : Nat) (xs : List Int) (w : World) (hx : Rds .i64 w w.heap.size A xs) (hl : xs.length ≤ 1200) :
    Calls Try.prog 15 #[.slice A xs.length c] w fun e w' => ∃ v, e = .returned v ∧ SomeTok xs.length w w.heap.size v w' := by
  have HX := Lib.hid hx
  have HI0 : Hid (SomeTok 0 w w.heap.size (.slice (some ⟨w.heap.size, 0, none⟩) 0 0) (w.alloc (.cells #[] 31))) := Lib.hid ⟨0, [], OwnT.none _ _ _, by omega, (Below.refl _ _).alloc (Nat.le_refl _) _⟩
  clear hx
  go_enter Try.func15, Try.ntmps15
  go_wp2
  go_loopw [3, 4] (fun v i wr => ∃ k : Nat, k ≤ xs.length ∧ i = .int .i64 (k : Int) ∧ Hid (SomeTok k w w.heap.size v wr)) (fun _ i _ => xs.length - (intOf i).toNat)
  case atStart => exact ⟨0, Nat.zero_le _, rfl, HI0⟩
  case round =>
    clear HI0
    rename Value => v
    obtain ⟨k, hk, rfl, hI⟩ := hrel
    rename World => wr
    by_cases hlt : k < xs.length
    · have hkI : (k : Int) < (xs.length : Int) := by omega
      obtain ⟨n, ys, hO, hn, hbel⟩ := hI.out
      obtain ⟨A1, c1, rfl, hc1⟩ := hO.slice
      have HB := Lib.hid hbel
      have HO := Lib.hid hO
      have HXr := Lib.hid ((HX.out.below hbel).more hbel.size)
      clear hI hO hbel
      go_wp2_with fail
      refine (s_longest A c k xs wr HXr.out hl (by omega)).mono ?_
      rintro e w2 ⟨m, q, rfl, ⟨m1, q1, m2⟩, hb2⟩
      have HB2 := Lib.hid (HB.out.trans (hb2.mono HB.out.size))
      have HO2 := Lib.hid (HO.out.below hb2 (Nat.le_refl _))
      have HX2 := Lib.hid ((HX.out.below HB2.out).more HB2.out.size)
      clear hb2 HB HO HXr
      by_cases h0 : m = 0
      · subst h0
        obtain ⟨b, off, rfl, hbl, hc⟩ := HX2.out.cells_ hlt
        have c0 := hc _ hlt
        clear hc hbl
        generalize xs.getD k 0 = p at *
        have HO3 := Lib.hid (HO2.out.alloc (.cells #[.int .i64 p, .int .i64 0, .int .i64 0] 31))
        have HLt := Lib.hid HO2.out.lt
        have HA3 := Lib.hid (HB2.out.alloc HB2.out.size (.cells #[.int .i64 p, .int .i64 0, .int .i64 0] 31))
        have HsB : Hid (w.heap.size ≤ w2.heap.size) := Lib.hid HB2.out.size
        have HRC := Lib.hid (tok_cells w2 p 0 0 31)
        clear HO2 HB2 HX2
        go_wp2_with (at_builtin; refine wpList_appTok2 rfl (.tmp 20) (.tmp 26) rfl w.heap.size (.slice A1 n c1) n _ rfl HO3.out w2.heap.size 1 1 [p, 0, 0] rfl (by simp) HRC.out (by omega) (by have := HsB.out; simp; omega) ?_; intro v3 w3 hO4 hG4)
        have HN : Hid (SomeTok (k + 1) w w.heap.size v3 w3) := Lib.hid ⟨n + 1, _, hO4, by omega, HA3.out.grown hG4 HA3.out.size (fun k hk => (HLt.out k hk).1)⟩
        clear hO4 hG4 HO3 HLt HA3 HsB HRC c0
        go_wp2
        go_roundw
        case rel => exact ⟨k + 1, by omega, by go_num, HN⟩
        case measure => simp [intOf]; omega
      · have h0I : ¬ (m : Int) = 0 := by omega
        have h0B : ((m : Int) == 0) = false := beq_eq_false_iff_ne.2 h0I
        have HO3 := Lib.hid (HO2.out.alloc (.cells #[.int .i64 0, .int .i64 (m : Int), .int .i64 (q : Int)] 31))
        have HLt := Lib.hid HO2.out.lt
        have HA3 := Lib.hid (HB2.out.alloc HB2.out.size (.cells #[.int .i64 0, .int .i64 (m : Int), .int .i64 (q : Int)] 31))
        have HsB : Hid (w.heap.size ≤ w2.heap.size) := Lib.hid HB2.out.size
        have HRC := Lib.hid (tok_cells w2 0 (m : Int) (q : Int) 31)
        clear HO2 HB2 HX2
        go_wp2_with (at_builtin; refine wpList_appTok2 rfl (.tmp 30) (.tmp 34) rfl w.heap.size (.slice A1 n c1) n _ rfl HO3.out w2.heap.size 1 1 [0, (m : Int), (q : Int)] rfl (by simp) HRC.out (by omega) (by have := HsB.out; simp; omega) ?_; intro v3 w3 hO4 hG4)
        have HN : Hid (SomeTok (k + m) w w.heap.size v3 w3) := Lib.hid ⟨n + 1, _, hO4, by omega, HA3.out.grown hG4 HA3.out.size (fun k hk => (HLt.out k hk).1)⟩
        clear hO4 hG4 HO3 HLt HA3 HsB HRC
        go_wp2
        go_roundw
        case rel => exact ⟨k + m, by omega, by go_num, HN⟩
        case measure => simp [intOf]; omega
    · obtain rfl : k = xs.length := by omega
      have hkI : ¬ ((xs.length : Nat) : Int) < (xs.length : Int) := by omega
      go_wp2
      go_ret
      exact ⟨_, rfl, hI.out⟩
set_option maxHeartbeats 4000000 in
theorem s_GreedyTokens (A : Option Addr) (c : Nat) (xs : List Int) (w : World) (hx : Rds .i64 w w.heap.size A xs) (hl : xs.length ≤ 1200) :
    Calls Try.prog 10 #[.slice A xs.length c] w fun e w' => ∃ v, e = .returned v ∧ SomeTok xs.length w w.heap.size v w' := by
  have HX := Lib.hid hx
  clear hx
  go_enter Try.func10, Try.ntmps10
  go_wp2_with fail
  refine (s_vb A c _ xs w HX.out hl).mono ?_
  rintro e w1 ⟨bb, rfl, rfl⟩
  cases bb
  · go_wp2
    go_ret
    exact ⟨_, rfl, 0, [], OwnT.nil _ _ _ _, Nat.zero_le _, Below.refl _ _⟩
  · go_wp2_with fail
    refine (s_greedy A c xs w HX.out hl).mono ?_
    rintro e w2 ⟨v, rfl, h⟩
    have HE := Lib.hid h
    clear h
    go_wp2
    go_ret
    exact ⟨v, rfl, HE.out⟩
end Go.Proofs.Ytkfgcpoobbejkaa
