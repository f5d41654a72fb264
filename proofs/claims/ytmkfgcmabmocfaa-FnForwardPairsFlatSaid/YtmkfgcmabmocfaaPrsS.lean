/- Contracts of ForwardPairs and BackPairs in the model. -/
import Derived.Test.YtmkfgcmabmocfaaPrsM
import Derived.Test.YtmkfgcmabmocfaaDiv
import Derived.Deep.RegionLaw
import Derived.Deep.QuietTactic
import Derived.BigQuiet
namespace Go.Proofs.Ytmkfgcmabmocfaa
open Go.RowKit
set_option linter.unusedSimpArgs false
set_option linter.unusedVariables false
set_option maxRecDepth 20000

set_option maxHeartbeats 2000000 in
theorem sPrOk_any (A : Option Addr) (c B : Nat) (xs : List Int) (w : World) (h : Rds .i64 w B A xs) (hl : xs.length ≤ 10000000) :
    Calls Try.prog 52 #[.slice A xs.length c] w fun e w' => e = .returned (.bool (prOk xs)) ∧ w = w' := by
  have H := Lib.hid (sAllIn_any A c B xs (-999) 999 w h hl)
  clear h
  by_cases h64 : (xs.length : Int) ≤ 64
  · have HV : Hid (prOk xs = allB (-999) 999 xs) := Lib.hid (by unfold prOk; rw [decide_eq_true h64, Bool.true_and])
    go_enter Try.func52, Try.ntmps52
    go_wp2_with fail
    refine H.out.mono ?_
    rintro e w' ⟨rfl, rfl⟩
    go_wp2
    go_ret
    exact ⟨ret_bool HV.out.symm, rfl⟩
  · have HV : Hid (prOk xs = false) := Lib.hid (by unfold prOk; rw [decide_eq_false h64, Bool.false_and])
    go_enter Try.func52, Try.ntmps52
    go_wp2
    go_ret
    exact ⟨ret_bool HV.out.symm, rfl⟩
theorem step_app2 {w : World} {ops : Array Oper} {o : Oper} {a : Act} {K : Act → World → Prop} {Q : Exit → Act → World → Prop} {E : Prop} (hgd : o.guard = none) (s x : Operand)
    (ho : o.op = .call { callee := .builtin .append, args := #[s, x], argTypes := #[23, 23] })
    (base : Nat) (v : Value) (xs : List Int) (hs : a.eval s = v) (hown : Own w base v xs)
    (ad : Addr) (m c B : Nat) (ys : List Int) (hx : a.eval x = .slice (some ad) m c) (hm : m = ys.length) (hr : Rds .i64 w B (some ad) ys) (hl : xs.length + ys.length ≤ 10000000) (hbase : base ≤ w.heap.size)
    (h : ∀ v' w', Own w' base v' (xs ++ ys) → w.grownBy w' v.ownBlock → (∀ g, v'.ownBlock = some g → v.ownBlock = some g ∨ w.heap.size ≤ g) → K (a.put o.dst v') w') : if Region.wanted o (yielded ops a.tmps) = true then Oper.wp Try.prog o a w K Q else E := by
  have hw : Region.wanted o (yielded ops a.tmps) = true := by simp [Region.wanted, hgd]
  rw [if_pos hw]
  obtain ⟨i, hi, hz, hsz, hb⟩ := info_parts info_int
  subst hm
  have hnews : ∀ j u, (ys.map (Value.int .i64))[j]? = some u → w.cell? (ad.add j) = some u := by
    intro j u hu
    rcases hr with rfl | ⟨b, off, h1, _, hc⟩
    · simp at hu
    · have h1 := Option.some.inj h1
      subst h1
      have hj : j < ys.length := by
        rcases Nat.lt_or_ge j ys.length with h | h
        · exact h
        · simp [List.getElem?_eq_none h] at hu
      have hcj := hc j hj
      have e : (⟨b, off, none⟩ : Addr).add j = ⟨b, off + j, none⟩ := add_spot rfl j
      rw [e, hcj]
      simp [hj] at hu ⊢
      exact hu
  obtain ⟨v', w', hrun, h2, h3, h4⟩ := run_append_own (P := Try.prog) w base 23 o.type 3 i (.int .i64 0) 1 8 Try.underlying23 hi hz hsz hb rfl (by omega) v xs.length (xs.map (.int .i64)) hown ad ys.length c (ys.map (.int .i64)) (by simp) hnews (ints_oneCell _ _) (by unfold maxLen; omega) (by omega) hbase
  have hwh : ∀ g, v'.ownBlock = some g → v.ownBlock = some g ∨ w.heap.size ≤ g := by
    rcases hown.2 with ⟨rfl, h0⟩ | ⟨g0, cap, cur, rfl, hbg, hg, hnc, hcm, hcs, htake⟩
    · have hx0 : xs = [] := List.eq_nil_of_length_eq_zero h0
      subst hx0
      obtain ⟨v2, w2, hr2, h22, _⟩ := run_append_own (P := Try.prog) w w.heap.size 23 o.type 3 i (.int .i64 0) 1 8 Try.underlying23 hi hz hsz hb rfl (by omega) (.slice none 0 0) 0 [] (World.ownsRow_nil _ _ _ _) ad ys.length c (ys.map (.int .i64)) (by simp) hnews (ints_oneCell _ _) (by unfold maxLen; simp at hl; omega) (by simp at hl; omega) (Nat.le_refl _)
      rw [hrun] at hr2
      injection hr2 with e1 e2
      subst e1
      intro g hg
      exact .inr (h22.lt g hg).1
    · intro g hg'
      by_cases hroom : xs.length + ys.length ≤ cap
      · have hr2 := run_append_room (P := Try.prog) w 23 o.type 3 i Try.underlying23 hi g0 xs.length cap cur hg ad ys.length c (ys.map (.int .i64)) (by simp [hsz]) hnews (ints_oneCell _ _) hroom (by rw [hsz, hcs]; simp; omega)
        rw [hrun] at hr2
        injection hr2 with e1 e2
        subst e1
        exact .inl hg'
      · have hr2 := run_append_grow (P := Try.prog) w 23 o.type 3 i (.int .i64 0) Try.underlying23 hi hz ⟨g0, 0, none⟩ xs.length cap (xs.map (.int .i64)) (by simp [hsz]) (World.ownsRow.cells hown (g := g0) rfl) ad ys.length c (ys.map (.int .i64)) (by simp [hsz]) hnews (by omega) (by omega) (growslice_fits (by omega) (by rw [hb]; omega))
        rw [hrun] at hr2
        injection hr2 with e1 e2
        subst e1
        right
        simp [Value.ownBlock] at hg'
        omega
  unfold Oper.wp execOp
  simp only [ho, resolve, invoke, builtin, Sem.run_bind, Sem.run_pure, Result.andThen_ok, List.map_toArray, List.map_cons, List.map_nil, hs, hx, hrun]
  exact h v' w' (by unfold Own; simpa using h2) h3 hwh
/-- The state of two rows that grow. -/
def Two (w wr : World) (v1 : Value) (xs : List Int) (v2 : Value) (ys : List Int) : Prop :=
  (Own wr w.heap.size v1 xs ∧ Own wr w.heap.size v2 ys) ∧ Below w.heap.size w wr ∧ (∀ g g', v1.ownBlock = some g → v2.ownBlock = some g' → g ≠ g')
theorem Two.swap {w wr : World} {v1 v2 : Value} {xs ys : List Int} (h : Two w wr v1 xs v2 ys) : Two w wr v2 ys v1 xs :=
  ⟨⟨h.1.2, h.1.1⟩, h.2.1, fun g g' e1 e2 e => h.2.2 g' g e2 e1 e.symm⟩
theorem Two.app {w wr u w' : World} {v1 v1' v2 : Value} {xs ys zs : List Int} (o : Obj) (h : Two w wr v1 xs v2 ys) (hu : u = wr.alloc o ∨ u = (wr.alloc o).drew) (hO : Own w' w.heap.size v1' zs) (hG : u.grownBy w' v1.ownBlock)
    (hd : ∀ g, v1'.ownBlock = some g → v1.ownBlock = some g ∨ u.heap.size ≤ g) : Two w w' v1' zs v2 ys := by
  obtain ⟨⟨h1, h2⟩, hB, hne⟩ := h
  have hk : u.heap = (wr.alloc o).heap ∧ u.os = (wr.alloc o).os ∧ u.tape = (wr.alloc o).tape ∧ u.output = (wr.alloc o).output := by rcases hu with rfl | rfl <;> exact ⟨rfl, rfl, rfl, rfl⟩
  have hs : u.heap.size = wr.heap.size + 1 := by rw [hk.1]; simp
  have hG' : (wr.alloc o).grownBy w' v1.ownBlock := ⟨hG.os.trans hk.2.1, hG.tape.trans hk.2.2.1, hG.output.trans hk.2.2.2, by have := hG.size; rw [hk.1] at this; exact this, fun k h1 h2 => by have := hG.block k (by rw [hk.1]; exact h1) h2; rw [hk.1] at this; exact this⟩
  refine ⟨⟨hO, (h2.alloc o).keep (fun g e => hG'.block g (by have := (h2.lt g e).2; simp; omega) (fun e2 => hne g g e2.symm e rfl))⟩, (hB.alloc hB.size o).grown hG' (by have := hB.size; simp; omega) (fun j hj => (h1.lt j hj).1), fun g g' e1 e2 => ?_⟩
  rcases hd g e1 with h | h
  · exact hne g g' h e2
  · have := (h2.lt g' e2).2; omega
set_option maxHeartbeats 16000000 in
theorem sFw_any (A : Option Addr) (c : Nat) (xs : List Int) (w : World) (h : Rds .i64 w w.heap.size A xs) (hp : prOk xs = true) :
    Calls Try.prog 53 #[.slice A xs.length c] w (Made (fwL xs) w) := by
  have Hh := Lib.hid h
  have HP := Lib.hid (prOk_parts hp)
  have hl64 := HP.out.1
  obtain ⟨M, hM⟩ : ∃ M : Nat → Int, M = fun j => chg mnF gpF xs.length (getF xs) (2 * j) := ⟨_, rfl⟩
  obtain ⟨G, hG⟩ : ∃ G : Nat → Int, G = fun j => chg mnF gpF xs.length (getF xs) (2 * j + 1) := ⟨_, rfl⟩
  have HM := Lib.hid hM
  have HG := Lib.hid hG
  have HI0 : Hid (Two w ((w.alloc (.cells #[] 3)).alloc (.cells #[] 3)) (.slice (some ⟨w.heap.size, 0, none⟩) 0 0) (fm 0 M) (.slice (some ⟨w.heap.size + 1, 0, none⟩) 0 0) (fm 0 G)) := Lib.hid (by
    have e := own_none (w.alloc (.cells #[] 3))
    rw [World.size_alloc] at e
    exact ⟨⟨(own_none w).alloc _, e.base_le (by omega)⟩, ((Below.refl _ _).alloc (Nat.le_refl _) _).alloc (by simp) _, fun g g' e1 e2 => by simp [Value.ownBlock] at e1 e2; omega⟩)
  clear h hp hM hG
  go_enter Try.func53, Try.ntmps53
  go_wp2
  generalize (w.alloc (.cells #[] 3)).alloc (.cells #[] 3) = u0 at *
  go_loopw [3, 4, 5] (fun v1 v2 i wr => ∃ k j : Nat, j = 2 * k ∧ j ≤ xs.length ∧ i = .int .i64 (j : Int) ∧ Hid (Two w wr v1 (fm k M) v2 (fm k G))) (fun _ _ i _ => xs.length - (intOf i).toNat)
  case atStart => exact ⟨0, 0, rfl, Nat.zero_le _, rfl, HI0⟩
  case round =>
    obtain ⟨k, j, hj, hjn, rfl, hI⟩ := hrel
    clear HI0
    obtain ⟨m, hm⟩ : ∃ m, m = j + 1 := ⟨_, rfl⟩
    have hs1 : (j : Int) + 1 = (m : Int) := by omega
    have hs3 : IntKind.i64.wrap (m : Int) = (m : Int) := IntWalk.i64_in _ (by omega)
    by_cases hlt : m < xs.length
    · obtain ⟨A1, c1, rfl, hc1⟩ := hI.out.1.1.slice
      obtain ⟨A2, c2, rfl, hc2⟩ := hI.out.1.2.slice
      simp only [fm_len] at hI hc1 hc2 ⊢
      have hjl : j < xs.length := by omega
      obtain ⟨b, off, rfl, hb, hcc⟩ := Hh.out.cells_ hlt
      have hB := hI.out.2.1
      have c0 := (hB.cell (p := ⟨b, off + j, none⟩) hb).trans (hcc j hjl)
      have c1' := (hB.cell (p := ⟨b, off + m, none⟩) hb).trans (hcc m hlt)
      have b0 := allB_get HP.out.2 hjl
      have b1 := allB_get HP.out.2 hlt
      have eM : M k = mnF (getF xs j) (getF xs m) := by
        rw [HM.out]; show chg mnF gpF xs.length (getF xs) (2 * k) = _
        unfold chg; rw [← hj, if_pos (by omega), if_pos (by omega), ← hm]
      have eG : G k = gpF (getF xs j) (getF xs m) := by
        rw [HG.out]; show chg mnF gpF xs.length (getF xs) (2 * k + 1) = _
        unfold chg; rw [← hj, ← hm, if_neg (by omega), show m - 1 = j by omega]
      have eM' : M k = (xs.getD j 0 + xs.getD m 0) / 2 := eM
      have eG' : G k = xs.getD j 0 - xs.getD m 0 := eG
      have b0' : -999 ≤ xs.getD j 0 ∧ xs.getD j 0 ≤ 999 := b0
      have b1' : -999 ≤ xs.getD m 0 ∧ xs.getD m 0 ≤ 999 := b1
      generalize xs.getD j 0 = y0 at *
      generalize xs.getD m 0 = y1 at *
      obtain ⟨b00, b01⟩ := b0'
      obtain ⟨b10, b11⟩ := b1'
      have hw1 : IntKind.i64.wrap (y0 + y1) = y0 + y1 := IntWalk.i64_in _ (by omega)
      have hw2 : IntKind.i64.wrap (y0 - y1) = y0 - y1 := IntWalk.i64_in _ (by omega)
      obtain ⟨z0, hz0⟩ : ∃ z, z = (y0 + y1) / 2 := ⟨_, rfl⟩
      obtain ⟨z1, hz1⟩ : ∃ z, z = y0 - y1 := ⟨_, rfl⟩
      have EM : Hid (fm k M ++ [z0] = fm (k + 1) M) := Lib.hid (by rw [hz0, ← eM', fm_next])
      have EG : Hid (fm k G ++ [z1] = fm (k + 1) G) := Lib.hid (by rw [hz1, ← eG', fm_next])
      have HZ0 := Lib.hid hz0
      have hz1' : y0 - y1 = z1 := hz1.symm
      have hw3 : IntKind.i64.wrap z1 = z1 := by rw [hz1]; exact hw2
      have HO := Lib.hid (hI.out.1.1.alloc (.cells #[.int .i64 z0] 3))
      have HS := Lib.hid (rds_one wr z0)
      have HZ : Hid (w.heap.size ≤ (wr.alloc (.cells #[.int .i64 z0] 3)).heap.size) := Lib.hid (by have := hB.size; simp; omega)
      have hk32 : k ≤ 32 := by omega
      have HL1 : Hid ((fm k M).length + [z0].length ≤ 10000000) := Lib.hid (by rw [fm_len]; simp; omega)
      have HL2 : Hid ((fm k G).length + [z1].length ≤ 10000000) := Lib.hid (by rw [fm_len]; simp; omega)
      have hjI : (j : Int) < (xs.length : Int) := by omega
      have hmI : (m : Int) < (xs.length : Int) := by omega
      have HC := Lib.hid (show (∀ u : World, Below w.heap.size w u → u.cell? ⟨b, off + j, none⟩ = some (.int .i64 y0) ∧ u.cell? ⟨b, off + m, none⟩ = some (.int .i64 y1)) from fun u h => ⟨(h.cell (p := ⟨b, off + j, none⟩) hb).trans ((hB.cell (p := ⟨b, off + j, none⟩) hb).symm.trans c0), (h.cell (p := ⟨b, off + m, none⟩) hb).trans ((hB.cell (p := ⟨b, off + m, none⟩) hb).symm.trans c1')⟩)
      have hjw : j + 2 ≤ 100 := by omega
      have Hm := Lib.hid hm
      have Hj := Lib.hid hj
      clear hcc eM eG eM' eG' b0 b1 hz0 hz1 hB hc1 hc2 hj hm
      go_upto_region 6 with fail
      go_region_law (first | (refine step_app2 rfl (.tmp 15) (.tmp 27) rfl w.heap.size (.slice A1 k c1) (fm k M) (by simp [Act.eval, Act.put]) (by exact HO.out) ⟨wr.heap.size, 0, none⟩ 1 1 _ [z0] (by simp [Act.eval, Act.put]) rfl (by exact HS.out) HL1.out (by exact HZ.out) ?_; intro v6 w6 hO6 hG6 hW6) | (go_simp; go_at_call 97; refine (sFlr_any (y0 + y1) 2 _ (by omega) (by omega) (by omega)).mono ?_; rintro e w5 ⟨rfl, rfl⟩; rw [← HZ0.out]))
      all_goals
        have hO6' : Own w6 w.heap.size v6 (fm (k + 1) M) := by rw [← EM.out]; exact hO6
        have HT := Lib.hid (Two.swap (hI.out.app _ (by first | exact .inr rfl | exact .inl rfl) hO6' hG6 hW6))
        clear hO6 hO6' hG6 hW6 c0 c1'
        obtain ⟨c0, c1'⟩ := HC.out _ HT.out.2.1
        have HO2 := Lib.hid (HT.out.1.1.alloc (.cells #[.int .i64 z1] 3))
        have HS2 := Lib.hid (rds_one w6 z1)
        have HZ2 : Hid (w.heap.size ≤ (w6.alloc (.cells #[.int .i64 z1] 3)).heap.size) := Lib.hid (by have := HT.out.2.1.size; simp; omega)
        go_upto_region 7 with fail
        go_region_law (refine step_app2 rfl (.tmp 29) (.tmp 40) rfl w.heap.size (.slice A2 k c2) (fm k G) (by simp [Act.eval, Act.put]) (by exact HO2.out) ⟨w6.heap.size, 0, none⟩ 1 1 _ [z1] (by simp [Act.eval, Act.put]) rfl (by exact HS2.out) HL2.out (by exact HZ2.out) ?_; intro v7 w7 hO7 hG7 hW7)
        all_goals
          have hO7' : Own w7 w.heap.size v7 (fm (k + 1) G) := by rw [← EG.out]; exact hO7
          have HN := Lib.hid (Two.swap (HT.out.app _ (by first | exact .inr rfl | exact .inl rfl) hO7' hG7 hW7))
          clear hO7 hO7' hG7 hW7 c0 c1'
          go_wp2
          go_roundw
          case rel => exact ⟨k + 1, j + 2, by have := Hj.out; omega, by have := Hm.out; omega, by go_num, HN⟩
          case measure => simp [intOf]; omega
    · have hcond : ¬ ((m : Int) < (xs.length : Int)) := by omega
      obtain ⟨A1, c1, rfl, hc1⟩ := hI.out.1.1.slice
      obtain ⟨A2, c2, rfl, hc2⟩ := hI.out.1.2.slice
      simp only [fm_len] at hI ⊢
      have hI' := hI.out
      have HB := Lib.hid hI'.2.1
      have HO1 := Lib.hid hI'.1.1
      have HO2 := Lib.hid hI'.1.2
      have hne := hI'.2.2
      have hk32 : k ≤ 32 := by omega
      have hmw : m ≤ 100 := by omega
      rcases Nat.lt_or_ge j xs.length with hodd | heven
      · have hn : xs.length = 2 * k + 1 := by omega
        have r1 : (xs.length : Int).tmod 2 = 1 := by rw [Int.tmod_eq_emod_of_nonneg (by omega)]; omega
        obtain ⟨b, off, rfl, hb, hcc⟩ := Hh.out.cells_ hodd
        have c0 := (HB.out.cell (p := ⟨b, off + j, none⟩) hb).trans (hcc j hodd)
        have hs4 : (xs.length : Int) - 1 = (j : Int) := by omega
        have hs5 : IntKind.i64.wrap (j : Int) = (j : Int) := IntWalk.i64_in _ (by omega)
        have HR : Hid ((fm k M ++ [xs.getD j 0]) ++ fm k G = fwL xs) := Lib.hid (by rw [HM.out, HG.out, hj]; exact fw_odd xs k hn)
        clear hcc hI hI' hc1 hc2
        generalize xs.getD j 0 = y at *
        have HOa := Lib.hid (HO1.out.alloc (.cells #[.int .i64 y] 3))
        have HOg := Lib.hid (HO2.out.alloc (.cells #[.int .i64 y] 3))
        have HS := Lib.hid (rds_one wr y)
        have HZ : Hid (w.heap.size ≤ (wr.alloc (.cells #[.int .i64 y] 3)).heap.size) := Lib.hid (by have := HB.out.size; simp; omega)
        have HK : Hid (∀ w3, (wr.alloc (.cells #[.int .i64 y] 3)).grownBy w3 (Value.ownBlock (.slice A1 k c1)) → Own w3 w.heap.size (.slice A2 k c2) (fm k G) ∧ Below w.heap.size w w3) := Lib.hid (fun w3 hG => ⟨HOg.out.keep (fun g e => hG.block g (HOg.out.lt g e).2 (fun e2 => hne g g e2.symm e rfl)), (HB.out.alloc HB.out.size _).grown hG HZ.out (fun j hj => (HOa.out.lt j hj).1)⟩)
        have r2 : (xs.length : Int) % 2 = 1 := by omega
        clear hne hn hj hm
        go_wp2_with (at_builtin; first | (refine wpList_app rfl (.tmp 46) (.tmp 53) rfl w.heap.size (.slice A1 k c1) (fm k M) rfl HOa.out (some ⟨wr.heap.size, 0, none⟩) 1 1 _ [y] rfl rfl HS.out (by rw [fm_len]; simp; omega) HZ.out ?_; intro v3 w3 hO3 hG3; obtain ⟨hg3, hb3⟩ := HK.out w3 hG3; have HO3 := Lib.hid hO3; have HG3 := Lib.hid hg3; have HB3 := Lib.hid hb3; clear hO3 hG3 hg3 hb3) | (refine wpList_app rfl (.tmp 55) (.tmp 56) rfl w.heap.size v3 (fm k M ++ [y]) rfl HO3.out A2 k c2 _ (fm k G) rfl (fm_len _ _).symm HG3.out.rds.2 (by rw [List.length_append, fm_len, fm_len]; simp; omega) HB3.out.size ?_; intro v4 w4 hO4 hG4))
        have HE := Lib.hid (show Own w4 w.heap.size v4 (fwL xs) by rw [← HR.out]; exact hO4)
        have HF := Lib.hid (HB3.out.grown hG4 HB3.out.size (fun j hj => (HO3.out.lt j hj).1))
        clear hO4 hG4
        (try go_wp2)
        go_ret
        exact ⟨_, rfl, HE.out, HF.out⟩
      · have hn : xs.length = 2 * k := by omega
        have r1 : (xs.length : Int).tmod 2 = 0 := by rw [Int.tmod_eq_emod_of_nonneg (by omega)]; omega
        have HR : Hid (fm k M ++ fm k G = fwL xs) := Lib.hid (by rw [HM.out, HG.out]; exact fw_even xs k hn)
        have r2 : (xs.length : Int) % 2 = 0 := by omega
        clear hI hI' hc1 hc2 hne hn hj hm
        go_wp2_with (at_builtin; refine wpList_app rfl (.tmp 55) (.tmp 56) rfl w.heap.size (.slice A1 k c1) (fm k M) rfl HO1.out A2 k c2 _ (fm k G) rfl (fm_len _ _).symm HO2.out.rds.2 (by rw [fm_len, fm_len]; omega) HB.out.size ?_; intro v4 w4 hO4 hG4)
        have HE := Lib.hid (show Own w4 w.heap.size v4 (fwL xs) by rw [← HR.out]; exact hO4)
        have HF := Lib.hid (HB.out.grown hG4 HB.out.size (fun j hj => (HO1.out.lt j hj).1))
        clear hO4 hG4
        (try go_wp2)
        go_ret
        exact ⟨_, rfl, HE.out, HF.out⟩
set_option maxHeartbeats 4000000 in
theorem s_ForwardPairs (A : Option Addr) (c : Nat) (xs : List Int) (w : World) (h : Rds .i64 w w.heap.size A xs) (hl : xs.length ≤ 2000000) :
    Calls Try.prog 18 #[.slice A xs.length c] w (Made (cond (prOk xs) (fwL xs) []) w) := by
  have Hh := Lib.hid h
  clear h
  cases hv : prOk xs
  · have Hv := Lib.hid hv
    clear hv
    go_enter Try.func18, Try.ntmps18
    go_wp2_with fail
    refine (sPrOk_any A c _ xs w Hh.out (by omega)).mono ?_
    rintro e w' ⟨rfl, rfl⟩
    rw [Hv.out]
    go_wp2
    go_ret
    exact ⟨_, rfl, World.ownsRow_nil _ _ _ _, Below.refl _ _⟩
  · have Hv := Lib.hid hv
    clear hv
    go_enter Try.func18, Try.ntmps18
    go_wp2_with fail
    refine (sPrOk_any A c _ xs w Hh.out (by omega)).mono ?_
    rintro e w' ⟨rfl, rfl⟩
    rw [Hv.out]
    go_wp2_with fail
    refine (sFw_any A c xs w Hh.out Hv.out).mono ?_
    rintro e w1 ⟨v1, rfl, hO1, hB1⟩
    go_wp2
    go_ret
    exact ⟨_, rfl, hO1, hB1⟩
end Go.Proofs.Ytmkfgcmabmocfaa
