/- Whatever the code: the program finds drawn boxes valid where the model does; with the first one once more they are not. -/
import Derived.Test.YtgieijogopcjnaaRows
import Derived.WalkKit
import Derived.ProofKit
import Derived.OpenShut
import Derived.ShutString
import Derived.ChangeOld
import Derived.Below
import Derived.Test.YtgieijogopcjnaaDrawVpk
import Derived.Test.YtgieijogopcjnaaVpk
import Derived.BigQuiet
import Derived.Deep.RegionHeld3
namespace Go.Proofs.Ytgieijogopcjnaa.fnValidPackingTwice
open Go.ChangeShapes Go.WideShapes Go.ChangeAt Go.RowKit
open Go.ChangeMaps (open_string shut_string)
set_option linter.unusedVariables false

theorem rds_call {u u' : World} {A : Option Addr} {xs : List Int} (h : Rds .i64 u u.heap.size A xs) (hb : Below u.heap.size u u') : Rds .i64 u' u'.heap.size A xs := (h.below hb).more hb.size
theorem rds_dn {u : World} {A : Option Addr} {xs : List Int} (h : Rds .i64 u u.heap.size A xs) (m : Nat) : Rds .i64 (u.drewN m) (u.drewN m).heap.size A xs := h.keep (fun _ _ => rfl)
theorem q_take {xs : List Int} {m k : Nat} (h : k < m) : q0 (xs.take (m * 4)) k = q0 xs k ∧ q1 (xs.take (m * 4)) k = q1 xs k ∧ q2 (xs.take (m * 4)) k = q2 xs k ∧ q3 (xs.take (m * 4)) k = q3 xs k := by
  have g : ∀ i, i < m * 4 → (xs.take (m * 4)).getD i 0 = xs.getD i 0 := fun i hi => by
    rw [List.getD_eq_getElem?_getD, List.getD_eq_getElem?_getD, List.getElem?_take, if_pos hi]
  exact ⟨g _ (by omega), g _ (by omega), g _ (by omega), g _ (by omega)⟩
theorem hit_take {xs : List Int} {m k : Nat} (h : k < m) : ∀ j, j ≤ k → hitB (xs.take (m * 4)) k j = hitB xs k j
  | 0, _ => rfl
  | j + 1, hj => by
    have a := q_take (xs := xs) h
    have b := q_take (xs := xs) (show j < m by omega)
    unfold hitB
    rw [hit_take h j (by omega), a.1, a.2.1, a.2.2.1, a.2.2.2, b.1, b.2.1, b.2.2.1, b.2.2.2]
theorem okKs_all {W H : Int} {xs : List Int} : ∀ n, (∀ k, k < n → okK W H xs k = true) → okKs W H xs n = true
  | 0, _ => rfl
  | n + 1, h => by
    unfold okKs
    rw [okKs_all n (fun k hk => h k (by omega)), h n (by omega)]; rfl
theorem vpk_parts {W H : Int} {n : Nat} {xs : List Int} (h : vpk W H n xs = true) : (1 ≤ W ∧ W ≤ 64) ∧ (0 ≤ H ∧ H ≤ 192) ∧ n ≤ 12 ∧ okKs W H xs n = true := by
  unfold vpk at h
  simp only [Bool.and_eq_true] at h
  exact ⟨of_decide_eq_true h.1, of_decide_eq_true h.2.1, by have := of_decide_eq_true h.2.2.1; omega, h.2.2.2⟩
theorem vpk_mk {W H : Int} {n : Nat} {xs : List Int} (h1 : 1 ≤ W ∧ W ≤ 64) (h2 : 0 ≤ H ∧ H ≤ 192) (h3 : n ≤ 12) (h4 : okKs W H xs n = true) : vpk W H n xs = true := by
  unfold vpk
  rw [decide_eq_true h1, decide_eq_true h2, decide_eq_true (by omega), h4]; rfl
theorem vpk_less {W H : Int} {n m : Nat} {xs : List Int} (h : vpk W H n xs = true) (hm : m ≤ n) : vpk W H m (xs.take (m * 4)) = true := by
  obtain ⟨h1, h2, h3, h4⟩ := vpk_parts h
  refine vpk_mk h1 h2 (by omega) (okKs_all m (fun k hk => ?_))
  have a := okKs_get h4 k (by omega)
  have q := q_take (xs := xs) hk
  unfold okK at a ⊢
  rw [q.1, q.2.1, q.2.2.1, q.2.2.2, hit_take hk k (Nat.le_refl _)]
  exact a
theorem ft_more {a b c d W H W' H' : Int} (hW : W ≤ W') (hH : H ≤ H') (h : ftB a b c d W H = true) : ftB a b c d W' H' = true := by
  have := ftB_bd' h
  unfold ftB
  rw [decide_eq_true (by omega), decide_eq_true (by omega), decide_eq_true (by omega), decide_eq_true (by omega)]; rfl
theorem vpk_more {W H W' H' : Int} {n : Nat} {xs : List Int} (h : vpk W H n xs = true) (hW : W ≤ W') (hW' : W' ≤ 64) (hH : H ≤ H') (hH' : H' ≤ 192) : vpk W' H' n xs = true := by
  obtain ⟨h1, h2, h3, h4⟩ := vpk_parts h
  refine vpk_mk (by omega) (by omega) h3 (okKs_all n (fun k hk => ?_))
  have a := okKs_get h4 k hk
  unfold okK at a ⊢
  rw [Bool.and_eq_true] at a ⊢
  exact ⟨ft_more hW hH a.1, a.2⟩
theorem q_app {xs ys : List Int} {n k : Nat} (hx : xs.length = 4 * n) (h : k < n) : q0 (xs ++ ys) k = q0 xs k ∧ q1 (xs ++ ys) k = q1 xs k ∧ q2 (xs ++ ys) k = q2 xs k ∧ q3 (xs ++ ys) k = q3 xs k := by
  have g : ∀ i, i < n * 4 → (xs ++ ys).getD i 0 = xs.getD i 0 := fun i hi => by
    rw [List.getD_eq_getElem?_getD, List.getD_eq_getElem?_getD, List.getElem?_append_left (by omega)]
  exact ⟨g _ (by omega), g _ (by omega), g _ (by omega), g _ (by omega)⟩
theorem q_last {xs : List Int} {n : Nat} {a b c d : Int} (hx : xs.length = 4 * n) : q0 (xs ++ [a, b, c, d]) n = a ∧ q1 (xs ++ [a, b, c, d]) n = b ∧ q2 (xs ++ [a, b, c, d]) n = c ∧ q3 (xs ++ [a, b, c, d]) n = d := by
  have g : ∀ i, (xs ++ [a, b, c, d]).getD (n * 4 + i) 0 = [a, b, c, d].getD i 0 := fun i => by
    rw [List.getD_eq_getElem?_getD, List.getD_eq_getElem?_getD, List.getElem?_append_right (by omega), show n * 4 + i - xs.length = i by omega]
  exact ⟨g 0, g 1, g 2, g 3⟩
/-- A box can't be there twice. -/
theorem vpk_twice {W H : Int} {n : Nat} {xs : List Int} (h : vpk W H n xs = true) (hn : 0 < n) (hx : xs.length = 4 * n) : vpk W H (n + 1) (xs ++ [q0 xs 0, q1 xs 0, q2 xs 0, q3 xs 0]) = false := by
  obtain ⟨h1, h2, h3, h4⟩ := vpk_parts h
  have hf := ftB_bd' (okK_ft (okKs_get h4 0 hn))
  refine vpk_no (okKs_no (k := n) ?_ (Nat.lt_succ_self n))
  have hh : hitB (xs ++ [q0 xs 0, q1 xs 0, q2 xs 0, q3 xs 0]) n n = true := by
    refine hit_yes (j := 0) hn ?_
    have a := q_app (ys := [q0 xs 0, q1 xs 0, q2 xs 0, q3 xs 0]) hx hn
    have b := q_last (xs := xs) (n := n) (a := q0 xs 0) (b := q1 xs 0) (c := q2 xs 0) (d := q3 xs 0) hx
    rw [a.1, a.2.1, a.2.2.1, a.2.2.2, b.1, b.2.1, b.2.2.1, b.2.2.2]
    unfold comB
    rw [decide_eq_true (show q0 xs 0 < q0 xs 0 + q2 xs 0 by omega), decide_eq_true (show q1 xs 0 < q1 xs 0 + q3 xs 0 by omega)]; rfl
  unfold okK
  rw [hh]; simp
theorem wf_of {x : Int} (h : -1000 ≤ x ∧ x ≤ 1000) : (Lit.int .i64 x).wf = true := by
  simp only [Lit.wf, Bool.and_eq_true, decide_eq_true_eq]
  exact ⟨by show -9223372036854775808 ≤ x; omega, by show x ≤ 9223372036854775807; omega⟩
theorem heapLt {w : World} {q : Nat} {x : Obj} (h : w.heap[q]? = some x) : q < w.heap.size := by
  rcases Nat.lt_or_ge q w.heap.size with h' | h'
  · exact h'
  · rw [Array.getElem?_eq_none h'] at h; cases h
theorem info_B : (Try.prog.info? 29).map (fun i => (i.zero, i.size, i.bytes)) = some (some (.agg #[.int .i64 0, .int .i64 0, .int .i64 0, .int .i64 0]), 4, 32) := by kernel_rfl
/-- Boxes appended to boxes. -/
theorem wp_appBs {w : World} {o : Oper} {a : Act} {K : Act → World → Prop} {Q : Exit → Act → World → Prop} (s x : Operand)
    (ho : o.op = .call { callee := .builtin .append, args := #[s, x], argTypes := #[23, 23] })
    (base : Nat) (v : Value) (n : Nat) (xs : List Int) (hs : a.eval s = v) (hown : OwnT 29 4 w base v n xs)
    (A : Option Addr) (m c B : Nat) (ys : List Int) (hx : a.eval x = .slice A m c) (hm : 0 < m) (hy : ys.length = 4 * m) (hr : Rds .i64 w B A ys) (hl : n + m ≤ 1000000) (hbase : base ≤ w.heap.size)
    (h : ∀ v' w', OwnT 29 4 w' base v' (n + m) (xs ++ ys) → w.grownBy w' v.ownBlock → K (a.put o.dst v') w') : o.wp Try.prog a w K Q := by
  obtain ⟨i, hi, hz, hsz, hb⟩ := info_parts info_B
  obtain ⟨b, off, rfl, _, hc⟩ := hr.cells_ (show 0 < ys.length by omega)
  have hnews : ∀ j u, (ys.map (Value.int .i64))[j]? = some u → w.cell? ((⟨b, off, none⟩ : Addr).add j) = some u := by
    intro j u hu
    have hj : j < ys.length := by
      rcases Nat.lt_or_ge j ys.length with h | h
      · exact h
      · simp [List.getElem?_eq_none h] at hu
    have e : (⟨b, off, none⟩ : Addr).add j = ⟨b, off + j, none⟩ := add_spot rfl j
    rw [e, hc j hj]
    simp [hj] at hu ⊢
    exact hu
  obtain ⟨v', w', hrun, h2, h3, _⟩ := run_append_own (P := Try.prog) w base 23 o.type 29 i _ 4 32 Try.underlying23 hi hz hsz hb rfl (by omega) v n (xs.map (.int .i64)) hown ⟨b, off, none⟩ m c (ys.map (.int .i64)) (by simp; omega) hnews (ints_oneCell _ _) (by unfold maxLen; omega) (by omega) hbase
  unfold Oper.wp execOp
  simp only [ho, resolve, invoke, builtin, Sem.run_bind, Sem.run_pure, Result.andThen_ok, List.map_toArray, List.map_cons, List.map_nil, hs, hx, hrun]
  exact h v' w' (by unfold OwnT; simpa using h2) h3
theorem OwnT.dr {E : TypeId} {C : Nat} {w : World} {base n : Nat} {v : Value} {xs : List Int} (h : OwnT E C w base v n xs) : OwnT E C w.drew base v n xs := h
theorem quad_cells (w : World) (a b c d : Int) {g : Nat} (h : w.heap[g]? = some (.cells #[.int .i64 a, .int .i64 b, .int .i64 c, .int .i64 d] 29 (0, 0))) : Rds .i64 w w.heap.size (some ⟨g, 0, none⟩) [a, b, c, d] := by
  refine .inr ⟨g, 0, rfl, ?_, fun j hj => ?_⟩
  · rcases Nat.lt_or_ge g w.heap.size with h' | h'
    · exact h'
    · rw [Array.getElem?_eq_none h'] at h; cases h
  · rw [cell_of_row _ _ _ _ _ _ h, Nat.zero_add]
    rcases j with _ | _ | _ | _ | j
    · rfl
    · rfl
    · rfl
    · rfl
    · simp at hj; omega
set_option maxHeartbeats 32000000 in
theorem walk (w : World) (a0 : Option Addr) (cap0 : Nat) (z0 : List Int) (hc0 : z0.length ≤ cap0) (w0 : Rdw .u8 w w.heap.size a0 z0) :
    Calls Try.prog 4 #[.slice a0 z0.length cap0] w fun e w' => e = .returned (.bool true) ∧ Below w.heap.size w w' := by
  have hm := w0.2.1
  unfold maxLen at hm
  by_cases hlen : 1048576 < z0.length
  · go_enter Try.func4, Try.ntmps4
    go_wp2
    go_ret
    exact ⟨rfl, Below.refl _ _⟩
  · have HD := Lib.hid (drawVpk_any a0 cap0 z0 w hc0 w0)
    clear w0 hc0
    go_enter Try.func4, Try.ntmps4
    go_wp2_with fail
    refine HD.out.mono ?_
    rintro e w1 ⟨A1, n, c1, xs, W, H, rfl, ⟨hn12, hnc, hxl⟩, hWb, hHb, hr1, hb1⟩
    have HXL := Lib.hid hxl
    have HI : Hid (∀ (V K : Int) u, Rds .i64 u u.heap.size A1 xs → Calls Try.prog 10 #[.slice A1 n c1, .int .i64 V, .int .i64 K] u fun e w' => e = .returned (.bool (vpk V K n xs)) ∧ Below u.heap.size u w') := Lib.hid (fun V K u h => i_ValidPacking A1 n c1 u.heap.size xs V K u HXL.out hnc h (Nat.le_refl _) (by omega))
    have HS : Hid (∀ u, Rds .i64 u u.heap.size A1 xs → Calls Try.prog 11 #[.slice A1 n c1, .int .i64 W, .int .i64 H] u fun e w' => e = .returned (.bool (vpk W H n xs)) ∧ Below u.heap.size u w') := Lib.hid (fun u h => s_ValidPacking A1 n c1 u.heap.size xs W H u (wf_of (by omega)) (wf_of (by omega)) HXL.out h (Nat.le_refl _) (by omega))
    have HR1 := Lib.hid hr1
    have HB1 := Lib.hid hb1
    clear hr1 hb1 hxl
    go_wp2_with fail
    refine (HI.out W H w1 HR1.out).mono ?_
    rintro e w2 ⟨rfl, hb⟩
    have HR2 := Lib.hid (rds_call HR1.out hb)
    have HB2 := Lib.hid (HB1.out.trans (hb.mono HB1.out.size))
    clear hb HR1 HB1
    by_cases hn0 : n = 0
    · subst hn0
      have ee : (((0 : Nat) : Int) == 0) = true := rfl
      generalize hvv : vpk W H 0 xs = vv at *
      clear hvv
      cases vv
      · go_wp2_with fail
        refine (HS.out w2 HR2.out).mono ?_
        rintro e w3 ⟨rfl, hb⟩
        have HR3 := Lib.hid (rds_call HR2.out hb)
        have HB3 := Lib.hid (HB2.out.trans (hb.mono HB2.out.size))
        clear hb HR2 HB2
        go_wp2_with fail
        refine (HS.out w3 HR3.out).mono ?_
        rintro e w4 ⟨rfl, hb⟩
        have HB4 := Lib.hid (HB3.out.trans (hb.mono HB3.out.size))
        clear hb HR3 HB3
        go_wp2
        go_ret
        exact ⟨by simp, HB4.out⟩
      · go_wp2_with fail
        refine (HS.out w2 HR2.out).mono ?_
        rintro e w3 ⟨rfl, hb⟩
        have HR3 := Lib.hid (rds_call HR2.out hb)
        have HB3 := Lib.hid (HB2.out.trans (hb.mono HB2.out.size))
        clear hb HR2 HB2
        go_wp2_with fail
        refine (HS.out w3 HR3.out).mono ?_
        rintro e w4 ⟨rfl, hb⟩
        have HB4 := Lib.hid (HB3.out.trans (hb.mono HB3.out.size))
        clear hb HR3 HB3
        go_wp2
        go_ret
        exact ⟨by simp, HB4.out⟩
    have hn0I : ((n : Int) == 0) = false := beq_eq_false_iff_ne.2 (by omega)
    cases hv : vpk W H n xs
    · rw [hv] at HS
      go_wp2_with fail
      refine (HS.out w2 HR2.out).mono ?_
      rintro e w3 ⟨rfl, hb⟩
      have HR3 := Lib.hid (rds_call HR2.out hb)
      have HB3 := Lib.hid (HB2.out.trans (hb.mono HB2.out.size))
      clear hb HR2 HB2
      go_wp2_with fail
      refine (HS.out w3 HR3.out).mono ?_
      rintro e w4 ⟨rfl, hb⟩
      have HB4 := Lib.hid (HB3.out.trans (hb.mono HB3.out.size))
      clear hb HR3 HB3
      go_wp2
      go_ret
      exact ⟨by simp, HB4.out⟩
    · rw [hv] at HS
      have HV := Lib.hid hv
      clear hv
      obtain ⟨hW1, hH1, hn1, _⟩ := vpk_parts HV.out
      go_wp2_with fail
      refine (HS.out w2 HR2.out).mono ?_
      rintro e w3 ⟨rfl, hb⟩
      have HR3 := Lib.hid (rds_call HR2.out hb)
      have HB3 := Lib.hid (HB2.out.trans (hb.mono HB2.out.size))
      clear hb HR2 HB2
      obtain ⟨bA, oA, rfl, hbA, hcA⟩ := HR3.out.cells_ (show 0 * 4 + 3 < xs.length by have := HXL.out; omega)
      have HTw := Lib.hid (vpk_twice HV.out (by omega) HXL.out)
      obtain ⟨b0, hb0⟩ : ∃ b, b = q0 xs 0 := ⟨_, rfl⟩
      obtain ⟨b1, hb1⟩ : ∃ b, b = q1 xs 0 := ⟨_, rfl⟩
      obtain ⟨b2, hb2⟩ : ∃ b, b = q2 xs 0 := ⟨_, rfl⟩
      obtain ⟨b3, hb3⟩ : ∃ b, b = q3 xs 0 := ⟨_, rfl⟩
      have k0 : w3.cell? ⟨bA, oA, none⟩ = some (.int .i64 b0) := by rw [hb0]; exact hcA 0 (by have := HXL.out; omega)
      have k1 : w3.cell? ⟨bA, oA + 1, none⟩ = some (.int .i64 b1) := by rw [hb1]; exact hcA 1 (by have := HXL.out; omega)
      have k2 : w3.cell? ⟨bA, oA + 2, none⟩ = some (.int .i64 b2) := by rw [hb2]; exact hcA 2 (by have := HXL.out; omega)
      have k3 : w3.cell? ⟨bA, oA + 3, none⟩ = some (.int .i64 b3) := by rw [hb3]; exact hcA 3 (by have := HXL.out; omega)
      rw [← hb0, ← hb1, ← hb2, ← hb3] at HTw
      have hnI : (0 : Int) < (n : Int) := by omega
      have hnP : 0 < n := by omega
      clear hcA hb0 hb1 hb2 hb3
      go_upto_region 7 with fail
      refine wp_region_held_drew (S := (fun w' => Below w3.heap.size w3 w')) (by kernel_rfl) (by exact (Below.refl _ _).drew) (fun hHeld => ?_)
      refine' wpAnyH_take (i := 1) (oi := _) (v := _) ?hi901 (by kernel_rfl) (by kernel_rfl) (by kernel_rfl) ?hq901 (Or.inl ⟨?hw901, ?hy901⟩) (by assumption) ?rest901
      case hi901 => (simp only [List.getElem?_toArray, List.getElem?_cons_succ, List.getElem?_cons_zero]; rfl)
      case hq901 => exact fun _ _ _ h => h
      case hw901 => rfl
      case hy901 => (intro wq hSw; (try dsimp only at hSw); go_simp; (try with_reducible rfl))
      (try simp only [Act.put, List.setIfInBounds_toArray, List.set_cons_zero, List.set_cons_succ])
      refine' wpAnyH_take (i := 3) (oi := _) (v := _) ?hi902 (by kernel_rfl) (by kernel_rfl) (by kernel_rfl) ?hq902 (Or.inl ⟨?hw902, ?hy902⟩) (by assumption) ?rest902
      case hi902 => (simp only [List.getElem?_toArray, List.getElem?_cons_succ, List.getElem?_cons_zero]; rfl)
      case hq902 => exact fun _ _ _ h => h
      case hw902 => rfl
      case hy902 => (intro wq hSw; (try dsimp only at hSw); go_simp; (try with_reducible rfl))
      (try simp only [Act.put, List.setIfInBounds_toArray, List.set_cons_zero, List.set_cons_succ])
      refine' wpAnyH_take (i := 4) (oi := _) (v := _) ?hi903 (by kernel_rfl) (by kernel_rfl) (by kernel_rfl) ?hq903 (Or.inl ⟨?hw903, ?hy903⟩) (by assumption) ?rest903
      case hi903 => (simp only [List.getElem?_toArray, List.getElem?_cons_succ, List.getElem?_cons_zero]; rfl)
      case hq903 => exact fun _ _ _ h => h
      case hw903 => rfl
      case hy903 => (intro wq hSw; (try dsimp only at hSw); go_simp; (try with_reducible rfl))
      (try simp only [Act.put, List.setIfInBounds_toArray, List.set_cons_zero, List.set_cons_succ])
      refine' wpAnyH_take (i := 5) (oi := _) (v := _) ?hi904 (by kernel_rfl) (by kernel_rfl) (by kernel_rfl) ?hq904 (Or.inl ⟨?hw904, ?hy904⟩) (by assumption) ?rest904
      case hi904 => (simp only [List.getElem?_toArray, List.getElem?_cons_succ, List.getElem?_cons_zero]; rfl)
      case hq904 => exact fun _ _ _ h => h
      case hw904 => rfl
      case hy904 => (intro wq hSw; (try dsimp only at hSw); have e0 := (hSw.cell (p := ⟨bA, oA, none⟩) hbA).trans k0; have e1 := (hSw.cell (p := ⟨bA, oA + 1, none⟩) hbA).trans k1; have e2 := (hSw.cell (p := ⟨bA, oA + 2, none⟩) hbA).trans k2; have e3 := (hSw.cell (p := ⟨bA, oA + 3, none⟩) hbA).trans k3; go_simp; (try with_reducible rfl))
      (try simp only [Act.put, List.setIfInBounds_toArray, List.set_cons_zero, List.set_cons_succ])
      refine' wpAnyH_take (i := 8) (oi := _) (v := _) ?hi905 (by kernel_rfl) (by kernel_rfl) (by kernel_rfl) ?hq905 (Or.inl ⟨?hw905, ?hy905⟩) (by assumption) ?rest905
      case hi905 => (simp only [List.getElem?_toArray, List.getElem?_cons_succ, List.getElem?_cons_zero]; rfl)
      case hq905 => exact fun _ _ _ h => h
      case hw905 => rfl
      case hy905 => (intro wq hSw; (try dsimp only at hSw); go_simp; (try with_reducible rfl))
      (try simp only [Act.put, List.setIfInBounds_toArray, List.set_cons_zero, List.set_cons_succ])
      refine' wpAnyH_take (i := 9) (oi := _) (v := _) ?hi906 (by kernel_rfl) (by kernel_rfl) (by kernel_rfl) ?hq906 (Or.inl ⟨?hw906, ?hy906⟩) (by assumption) ?rest906
      case hi906 => (simp only [List.getElem?_toArray, List.getElem?_cons_succ, List.getElem?_cons_zero]; rfl)
      case hq906 => exact fun _ _ _ h => h
      case hw906 => rfl
      case hy906 => (intro wq hSw; (try dsimp only at hSw); go_simp; (try with_reducible rfl))
      (try simp only [Act.put, List.setIfInBounds_toArray, List.set_cons_zero, List.set_cons_succ])
      refine wpAnyH_ready (rs := [0, 6]) (by kernel_rfl) (by simp) ?_
      refine' AllReadyH.cons (o := _) ?hi907_0 (fun K hK => ?rest907_0) (AllReadyH.cons (o := _) ?hi907_6 (fun K hK => ?rest907_6) AllReadyH.nil)
      case hi907_0 => (simp only [List.getElem?_toArray, List.getElem?_cons_succ, List.getElem?_cons_zero]; rfl)
      case hi907_6 => (simp only [List.getElem?_toArray, List.getElem?_cons_succ, List.getElem?_cons_zero]; rfl)
      case rest907_0 =>
        go_simp
        have HO31 : Hid (OwnT 29 4 ((w3.alloc (.cells #[] 29)).drew) w3.heap.size (.slice (some ⟨w3.heap.size, 0, none⟩) 0 0) 0 []) := Lib.hid ((OwnT.none _ _ w3).dr)
        have HB51 : Hid (Below w3.heap.size w3 ((w3.alloc (.cells #[] 29)).drew)) := Lib.hid (((Below.refl _ _).alloc (Nat.le_refl _) _).drew)
        generalize (w3.alloc (.cells #[] 29)).drew = v31 at *
        refine hK.out _ _ (by (try dsimp only); exact HB51.out) (fun hHeld => ?_)
        clear hK K
        (try simp only [Act.put, List.setIfInBounds_toArray, List.set_cons_zero, List.set_cons_succ])
        refine wpAnyH_ready (rs := [2, 6]) (by kernel_rfl) (by simp) ?_
        refine' AllReadyH.cons (o := _) ?hi908_2 (fun K hK => ?rest908_2) (AllReadyH.cons (o := _) ?hi908_6 (fun K hK => ?rest908_6) AllReadyH.nil)
        case hi908_2 => (simp only [List.getElem?_toArray, List.getElem?_cons_succ, List.getElem?_cons_zero]; rfl)
        case hi908_6 => (simp only [List.getElem?_toArray, List.getElem?_cons_succ, List.getElem?_cons_zero]; rfl)
        case rest908_2 =>
          refine wp_appBs (.tmp 41) (.tmp 42) ?_ w3.heap.size _ 0 [] ?_ HO31.out _ n c1 w3.heap.size xs ?_ (by omega) HXL.out (HR3.out.below HB51.out) (by omega) HB51.out.size ?_
          · rfl
          · rfl
          · rfl
          intro vv v32 hO hG
          rw [List.nil_append, Nat.zero_add] at hO
          have HO92 := Lib.hid hO
          have HB52 := Lib.hid (HB51.out.grown hG HB51.out.size (fun j hj => (HO31.out.lt j hj).1))
          clear hO hG
          refine hK.out _ _ (by (try dsimp only); exact HB52.out) (fun hHeld => ?_)
          clear hK K
          (try simp only [Act.put, List.setIfInBounds_toArray, List.set_cons_zero, List.set_cons_succ])
          refine wpAnyH_ready (rs := [6]) (by kernel_rfl) (by simp) ?_
          refine' AllReadyH.cons (o := _) ?hi909_6 (fun K hK => ?rest909_6) AllReadyH.nil
          case hi909_6 => (simp only [List.getElem?_toArray, List.getElem?_cons_succ, List.getElem?_cons_zero]; rfl)
          case rest909_6 =>
            go_simp
            have HL33 : Hid (((v32.alloc (.cells #[.int .i64 b0, .int .i64 b1, .int .i64 b2, .int .i64 b3] 29))).heap[v32.heap.size]? = some (.cells #[.int .i64 b0, .int .i64 b1, .int .i64 b2, .int .i64 b3] 29 (0, 0))) := Lib.hid (heap_alloc_new v32 _)
            have HB53 : Hid (Below w3.heap.size w3 ((v32.alloc (.cells #[.int .i64 b0, .int .i64 b1, .int .i64 b2, .int .i64 b3] 29)))) := Lib.hid (HB52.out.alloc HB52.out.size _)
            have HO73 := Lib.hid (HO92.out.alloc (.cells #[.int .i64 b0, .int .i64 b1, .int .i64 b2, .int .i64 b3] 29))
            obtain ⟨p6, hp6⟩ : ∃ q, q = v32.heap.size := ⟨_, rfl⟩
            rw [← hp6] at HL33 ⊢
            clear hp6
            generalize (v32.alloc (.cells #[.int .i64 b0, .int .i64 b1, .int .i64 b2, .int .i64 b3] 29)) = v33 at *
            refine hK.out _ _ (by (try dsimp only); exact HB53.out) (fun hHeld => ?_)
            clear hK K
            (try simp only [Act.put, List.setIfInBounds_toArray, List.set_cons_zero, List.set_cons_succ])
            refine wpAnyH_ready (rs := [7]) (by kernel_rfl) (by simp) ?_
            refine' AllReadyH.cons (o := _) ?hi910 (fun K hK => ?rest910) AllReadyH.nil
            case hi910 => (simp only [List.getElem?_toArray, List.getElem?_cons_succ, List.getElem?_cons_zero]; rfl)
            refine wp_appBs (.tmp 43) (.tmp 47) ?_ w3.heap.size _ n xs ?_ HO73.out (some ⟨p6, 0, none⟩) 1 1 v33.heap.size [b0, b1, b2, b3] ?_ (by omega) rfl (quad_cells _ _ _ _ _ HL33.out) (by omega) HB53.out.size ?_
            · rfl
            · rfl
            · rfl
            intro vz wz hO hG
            have HOz := Lib.hid hO
            have HBz := Lib.hid (HB53.out.grown hG HB53.out.size (fun j hj => (HO73.out.lt j hj).1))
            clear hO hG
            refine hK.out _ _ (by (try dsimp only); exact HBz.out) (fun hHeld => ?_)
            clear hK K
            (try simp only [Act.put, List.setIfInBounds_toArray, List.set_cons_zero, List.set_cons_succ])
            obtain ⟨Az, cz, rfl, hcz⟩ := HOz.out.slice
            have HC := Lib.hid (i_ValidPacking Az (n + 1) cz wz.heap.size (xs ++ [b0, b1, b2, b3]) W H wz (by rw [HOz.out.len]; omega) hcz HOz.out.rds (Nat.le_refl _) (by omega))
            rw [HTw.out] at HC
            refine wpAnyH_ready (rs := [10]) (by kernel_rfl) (by simp) ?_
            refine' AllReadyH.cons (o := _) ?hi911 (fun K hK => ?rest911) AllReadyH.nil
            case hi911 => (simp only [List.getElem?_toArray, List.getElem?_cons_succ, List.getElem?_cons_zero]; rfl)
            go_simp
            go_at_call 10
            refine HC.out.mono ?_
            rintro e wy ⟨rfl, hb⟩
            have HBy := Lib.hid (HBz.out.trans (hb.mono HBz.out.size))
            clear hb
            go_wp2_with fail
            refine hK.out _ _ (by (try dsimp only); exact HBy.out) (fun hHeld => ?_)
            clear hK K
            (try simp only [Act.put, List.setIfInBounds_toArray, List.set_cons_zero, List.set_cons_succ])
            refine' wpAnyH_take (i := 11) (oi := _) (v := _) ?hi912 (by kernel_rfl) (by kernel_rfl) (by kernel_rfl) ?hq912 (Or.inl ⟨?hw912, ?hy912⟩) (by assumption) ?rest912
            case hi912 => (simp only [List.getElem?_toArray, List.getElem?_cons_succ, List.getElem?_cons_zero]; rfl)
            case hq912 => exact fun _ _ _ h => h
            case hw912 => rfl
            case hy912 => (intro wq hSw; (try dsimp only at hSw); go_simp; (try with_reducible rfl))
            (try simp only [Act.put, List.setIfInBounds_toArray, List.set_cons_zero, List.set_cons_succ])
            refine' wpAnyH_take (i := 12) (oi := _) (v := _) ?hi913 (by kernel_rfl) (by kernel_rfl) (by kernel_rfl) ?hq913 (Or.inl ⟨?hw913, ?hy913⟩) (by assumption) ?rest913
            case hi913 => (simp only [List.getElem?_toArray, List.getElem?_cons_succ, List.getElem?_cons_zero]; rfl)
            case hq913 => exact fun _ _ _ h => h
            case hw913 => rfl
            case hy913 => (intro wq hSw; (try dsimp only at hSw); go_simp; (try with_reducible rfl))
            (try simp only [Act.put, List.setIfInBounds_toArray, List.set_cons_zero, List.set_cons_succ])
            refine wpAnyH_done (by kernel_rfl) ?_ _
            have HE := Lib.hid (HB3.out.trans (HBy.out.mono HB3.out.size))
            clear HBy HBz HOz HC
            go_wp2
            go_ret
            exact ⟨by simp, HE.out⟩
        case rest908_6 =>
          go_simp
          have HL32 : Hid (((v31.alloc (.cells #[.int .i64 b0, .int .i64 b1, .int .i64 b2, .int .i64 b3] 29))).heap[v31.heap.size]? = some (.cells #[.int .i64 b0, .int .i64 b1, .int .i64 b2, .int .i64 b3] 29 (0, 0))) := Lib.hid (heap_alloc_new v31 _)
          have HB52 : Hid (Below w3.heap.size w3 ((v31.alloc (.cells #[.int .i64 b0, .int .i64 b1, .int .i64 b2, .int .i64 b3] 29)))) := Lib.hid (HB51.out.alloc HB51.out.size _)
          have HO72 := Lib.hid (HO31.out.alloc (.cells #[.int .i64 b0, .int .i64 b1, .int .i64 b2, .int .i64 b3] 29))
          obtain ⟨p6, hp6⟩ : ∃ q, q = v31.heap.size := ⟨_, rfl⟩
          rw [← hp6] at HL32 ⊢
          have Hne : Hid (w3.heap.size ≠ p6) := Lib.hid (by have := (HO31.out.lt w3.heap.size rfl).2; omega)
          clear hp6
          generalize (v31.alloc (.cells #[.int .i64 b0, .int .i64 b1, .int .i64 b2, .int .i64 b3] 29)) = v32 at *
          refine hK.out _ _ (by (try dsimp only); exact HB52.out) (fun hHeld => ?_)
          clear hK K
          (try simp only [Act.put, List.setIfInBounds_toArray, List.set_cons_zero, List.set_cons_succ])
          refine wpAnyH_ready (rs := [2]) (by kernel_rfl) (by simp) ?_
          refine' AllReadyH.cons (o := _) ?hi914_2 (fun K hK => ?rest914_2) AllReadyH.nil
          case hi914_2 => (simp only [List.getElem?_toArray, List.getElem?_cons_succ, List.getElem?_cons_zero]; rfl)
          case rest914_2 =>
            refine wp_appBs (.tmp 41) (.tmp 42) ?_ w3.heap.size _ 0 [] ?_ HO72.out _ n c1 w3.heap.size xs ?_ (by omega) HXL.out (HR3.out.below HB52.out) (by omega) HB52.out.size ?_
            · rfl
            · rfl
            · rfl
            intro vv v33 hO hG
            rw [List.nil_append, Nat.zero_add] at hO
            have HO93 := Lib.hid hO
            have HB53 := Lib.hid (HB52.out.grown hG HB52.out.size (fun j hj => (HO72.out.lt j hj).1))
            have HL93 : Hid (v33.heap[p6]? = some (.cells #[.int .i64 b0, .int .i64 b1, .int .i64 b2, .int .i64 b3] 29 (0, 0))) := Lib.hid ((hG.block p6 (heapLt HL32.out) (fun e => Hne.out (by injection e with e; exact e.symm))).trans HL32.out)
            clear hO hG
            refine hK.out _ _ (by (try dsimp only); exact HB53.out) (fun hHeld => ?_)
            clear hK K
            (try simp only [Act.put, List.setIfInBounds_toArray, List.set_cons_zero, List.set_cons_succ])
            refine wpAnyH_ready (rs := [7]) (by kernel_rfl) (by simp) ?_
            refine' AllReadyH.cons (o := _) ?hi915 (fun K hK => ?rest915) AllReadyH.nil
            case hi915 => (simp only [List.getElem?_toArray, List.getElem?_cons_succ, List.getElem?_cons_zero]; rfl)
            refine wp_appBs (.tmp 43) (.tmp 47) ?_ w3.heap.size _ n xs ?_ HO93.out (some ⟨p6, 0, none⟩) 1 1 v33.heap.size [b0, b1, b2, b3] ?_ (by omega) rfl (quad_cells _ _ _ _ _ HL93.out) (by omega) HB53.out.size ?_
            · rfl
            · rfl
            · rfl
            intro vz wz hO hG
            have HOz := Lib.hid hO
            have HBz := Lib.hid (HB53.out.grown hG HB53.out.size (fun j hj => (HO93.out.lt j hj).1))
            clear hO hG
            refine hK.out _ _ (by (try dsimp only); exact HBz.out) (fun hHeld => ?_)
            clear hK K
            (try simp only [Act.put, List.setIfInBounds_toArray, List.set_cons_zero, List.set_cons_succ])
            obtain ⟨Az, cz, rfl, hcz⟩ := HOz.out.slice
            have HC := Lib.hid (i_ValidPacking Az (n + 1) cz wz.heap.size (xs ++ [b0, b1, b2, b3]) W H wz (by rw [HOz.out.len]; omega) hcz HOz.out.rds (Nat.le_refl _) (by omega))
            rw [HTw.out] at HC
            refine wpAnyH_ready (rs := [10]) (by kernel_rfl) (by simp) ?_
            refine' AllReadyH.cons (o := _) ?hi916 (fun K hK => ?rest916) AllReadyH.nil
            case hi916 => (simp only [List.getElem?_toArray, List.getElem?_cons_succ, List.getElem?_cons_zero]; rfl)
            go_simp
            go_at_call 10
            refine HC.out.mono ?_
            rintro e wy ⟨rfl, hb⟩
            have HBy := Lib.hid (HBz.out.trans (hb.mono HBz.out.size))
            clear hb
            go_wp2_with fail
            refine hK.out _ _ (by (try dsimp only); exact HBy.out) (fun hHeld => ?_)
            clear hK K
            (try simp only [Act.put, List.setIfInBounds_toArray, List.set_cons_zero, List.set_cons_succ])
            refine' wpAnyH_take (i := 11) (oi := _) (v := _) ?hi917 (by kernel_rfl) (by kernel_rfl) (by kernel_rfl) ?hq917 (Or.inl ⟨?hw917, ?hy917⟩) (by assumption) ?rest917
            case hi917 => (simp only [List.getElem?_toArray, List.getElem?_cons_succ, List.getElem?_cons_zero]; rfl)
            case hq917 => exact fun _ _ _ h => h
            case hw917 => rfl
            case hy917 => (intro wq hSw; (try dsimp only at hSw); go_simp; (try with_reducible rfl))
            (try simp only [Act.put, List.setIfInBounds_toArray, List.set_cons_zero, List.set_cons_succ])
            refine' wpAnyH_take (i := 12) (oi := _) (v := _) ?hi918 (by kernel_rfl) (by kernel_rfl) (by kernel_rfl) ?hq918 (Or.inl ⟨?hw918, ?hy918⟩) (by assumption) ?rest918
            case hi918 => (simp only [List.getElem?_toArray, List.getElem?_cons_succ, List.getElem?_cons_zero]; rfl)
            case hq918 => exact fun _ _ _ h => h
            case hw918 => rfl
            case hy918 => (intro wq hSw; (try dsimp only at hSw); go_simp; (try with_reducible rfl))
            (try simp only [Act.put, List.setIfInBounds_toArray, List.set_cons_zero, List.set_cons_succ])
            refine wpAnyH_done (by kernel_rfl) ?_ _
            have HE := Lib.hid (HB3.out.trans (HBy.out.mono HB3.out.size))
            clear HBy HBz HOz HC
            go_wp2
            go_ret
            exact ⟨by simp, HE.out⟩
      case rest907_6 =>
        go_simp
        have HL31 : Hid (((w3.alloc (.cells #[.int .i64 b0, .int .i64 b1, .int .i64 b2, .int .i64 b3] 29)).drew).heap[w3.heap.size]? = some (.cells #[.int .i64 b0, .int .i64 b1, .int .i64 b2, .int .i64 b3] 29 (0, 0))) := Lib.hid (heap_alloc_new w3 _)
        have HB51 : Hid (Below w3.heap.size w3 ((w3.alloc (.cells #[.int .i64 b0, .int .i64 b1, .int .i64 b2, .int .i64 b3] 29)).drew)) := Lib.hid (((Below.refl _ _).alloc (Nat.le_refl _) _).drew)
        obtain ⟨p6, hp6⟩ : ∃ q, q = w3.heap.size := ⟨_, rfl⟩
        rw [← hp6] at HL31 ⊢
        clear hp6
        generalize (w3.alloc (.cells #[.int .i64 b0, .int .i64 b1, .int .i64 b2, .int .i64 b3] 29)).drew = v31 at *
        refine hK.out _ _ (by (try dsimp only); exact HB51.out) (fun hHeld => ?_)
        clear hK K
        (try simp only [Act.put, List.setIfInBounds_toArray, List.set_cons_zero, List.set_cons_succ])
        refine wpAnyH_ready (rs := [0]) (by kernel_rfl) (by simp) ?_
        refine' AllReadyH.cons (o := _) ?hi919_0 (fun K hK => ?rest919_0) AllReadyH.nil
        case hi919_0 => (simp only [List.getElem?_toArray, List.getElem?_cons_succ, List.getElem?_cons_zero]; rfl)
        case rest919_0 =>
          go_simp
          have HO32 : Hid (OwnT 29 4 ((v31.alloc (.cells #[] 29))) w3.heap.size (.slice (some ⟨v31.heap.size, 0, none⟩) 0 0) 0 []) := Lib.hid ((OwnT.none _ _ v31).base_le HB51.out.size)
          have HB52 : Hid (Below w3.heap.size w3 ((v31.alloc (.cells #[] 29)))) := Lib.hid (HB51.out.alloc HB51.out.size _)
          have HL72 : Hid (((v31.alloc (.cells #[] 29))).heap[p6]? = some (.cells #[.int .i64 b0, .int .i64 b1, .int .i64 b2, .int .i64 b3] 29 (0, 0))) := Lib.hid ((heap_old _ _ (heapLt HL31.out)).trans HL31.out)
          obtain ⟨e0, he0⟩ : ∃ q, q = v31.heap.size := ⟨_, rfl⟩
          rw [← he0] at HO32 ⊢
          have Hne : Hid (e0 ≠ p6) := Lib.hid (by have := heapLt HL31.out; omega)
          clear he0
          generalize (v31.alloc (.cells #[] 29)) = v32 at *
          refine hK.out _ _ (by (try dsimp only); exact HB52.out) (fun hHeld => ?_)
          clear hK K
          (try simp only [Act.put, List.setIfInBounds_toArray, List.set_cons_zero, List.set_cons_succ])
          refine wpAnyH_ready (rs := [2]) (by kernel_rfl) (by simp) ?_
          refine' AllReadyH.cons (o := _) ?hi920_2 (fun K hK => ?rest920_2) AllReadyH.nil
          case hi920_2 => (simp only [List.getElem?_toArray, List.getElem?_cons_succ, List.getElem?_cons_zero]; rfl)
          case rest920_2 =>
            refine wp_appBs (.tmp 41) (.tmp 42) ?_ w3.heap.size _ 0 [] ?_ HO32.out _ n c1 w3.heap.size xs ?_ (by omega) HXL.out (HR3.out.below HB52.out) (by omega) HB52.out.size ?_
            · rfl
            · rfl
            · rfl
            intro vv v33 hO hG
            rw [List.nil_append, Nat.zero_add] at hO
            have HO93 := Lib.hid hO
            have HB53 := Lib.hid (HB52.out.grown hG HB52.out.size (fun j hj => (HO32.out.lt j hj).1))
            have HL93 : Hid (v33.heap[p6]? = some (.cells #[.int .i64 b0, .int .i64 b1, .int .i64 b2, .int .i64 b3] 29 (0, 0))) := Lib.hid ((hG.block p6 (heapLt HL72.out) (fun e => Hne.out (by injection e with e; exact e.symm))).trans HL72.out)
            clear hO hG
            refine hK.out _ _ (by (try dsimp only); exact HB53.out) (fun hHeld => ?_)
            clear hK K
            (try simp only [Act.put, List.setIfInBounds_toArray, List.set_cons_zero, List.set_cons_succ])
            refine wpAnyH_ready (rs := [7]) (by kernel_rfl) (by simp) ?_
            refine' AllReadyH.cons (o := _) ?hi921 (fun K hK => ?rest921) AllReadyH.nil
            case hi921 => (simp only [List.getElem?_toArray, List.getElem?_cons_succ, List.getElem?_cons_zero]; rfl)
            refine wp_appBs (.tmp 43) (.tmp 47) ?_ w3.heap.size _ n xs ?_ HO93.out (some ⟨p6, 0, none⟩) 1 1 v33.heap.size [b0, b1, b2, b3] ?_ (by omega) rfl (quad_cells _ _ _ _ _ HL93.out) (by omega) HB53.out.size ?_
            · rfl
            · rfl
            · rfl
            intro vz wz hO hG
            have HOz := Lib.hid hO
            have HBz := Lib.hid (HB53.out.grown hG HB53.out.size (fun j hj => (HO93.out.lt j hj).1))
            clear hO hG
            refine hK.out _ _ (by (try dsimp only); exact HBz.out) (fun hHeld => ?_)
            clear hK K
            (try simp only [Act.put, List.setIfInBounds_toArray, List.set_cons_zero, List.set_cons_succ])
            obtain ⟨Az, cz, rfl, hcz⟩ := HOz.out.slice
            have HC := Lib.hid (i_ValidPacking Az (n + 1) cz wz.heap.size (xs ++ [b0, b1, b2, b3]) W H wz (by rw [HOz.out.len]; omega) hcz HOz.out.rds (Nat.le_refl _) (by omega))
            rw [HTw.out] at HC
            refine wpAnyH_ready (rs := [10]) (by kernel_rfl) (by simp) ?_
            refine' AllReadyH.cons (o := _) ?hi922 (fun K hK => ?rest922) AllReadyH.nil
            case hi922 => (simp only [List.getElem?_toArray, List.getElem?_cons_succ, List.getElem?_cons_zero]; rfl)
            go_simp
            go_at_call 10
            refine HC.out.mono ?_
            rintro e wy ⟨rfl, hb⟩
            have HBy := Lib.hid (HBz.out.trans (hb.mono HBz.out.size))
            clear hb
            go_wp2_with fail
            refine hK.out _ _ (by (try dsimp only); exact HBy.out) (fun hHeld => ?_)
            clear hK K
            (try simp only [Act.put, List.setIfInBounds_toArray, List.set_cons_zero, List.set_cons_succ])
            refine' wpAnyH_take (i := 11) (oi := _) (v := _) ?hi923 (by kernel_rfl) (by kernel_rfl) (by kernel_rfl) ?hq923 (Or.inl ⟨?hw923, ?hy923⟩) (by assumption) ?rest923
            case hi923 => (simp only [List.getElem?_toArray, List.getElem?_cons_succ, List.getElem?_cons_zero]; rfl)
            case hq923 => exact fun _ _ _ h => h
            case hw923 => rfl
            case hy923 => (intro wq hSw; (try dsimp only at hSw); go_simp; (try with_reducible rfl))
            (try simp only [Act.put, List.setIfInBounds_toArray, List.set_cons_zero, List.set_cons_succ])
            refine' wpAnyH_take (i := 12) (oi := _) (v := _) ?hi924 (by kernel_rfl) (by kernel_rfl) (by kernel_rfl) ?hq924 (Or.inl ⟨?hw924, ?hy924⟩) (by assumption) ?rest924
            case hi924 => (simp only [List.getElem?_toArray, List.getElem?_cons_succ, List.getElem?_cons_zero]; rfl)
            case hq924 => exact fun _ _ _ h => h
            case hw924 => rfl
            case hy924 => (intro wq hSw; (try dsimp only at hSw); go_simp; (try with_reducible rfl))
            (try simp only [Act.put, List.setIfInBounds_toArray, List.set_cons_zero, List.set_cons_succ])
            refine wpAnyH_done (by kernel_rfl) ?_ _
            have HE := Lib.hid (HB3.out.trans (HBy.out.mono HB3.out.size))
            clear HBy HBz HOz HC
            go_wp2
            go_ret
            exact ⟨by simp, HE.out⟩

/-! ### From the walk to the statement. -/
theorem own : ownKnob Try.prog.godebug = none := by kernel_rfl
theorem laidOut : laidOutB Try.prog = true := by kernel_rfl
set_option maxRecDepth 100000 in
theorem lifted (os : Os) (started : os.Started) (H : Type) (enc : TypeId × Value → H) :
    ReturnsInHanded {} Try.checked os 4 .any (Rows.fnValidPackingTwiceSpec.pre6 enc Try.prog Try.f4 Rows.fnValidPackingTwiceRow.domain false) (Rows.fnValidPackingTwiceSpec.post enc Try.prog Try.f4 false true false false) := by
  refine returnsInHanded_of_change (C := Try.checked) own started (by kernel_rfl) Try.func4
    (ChangeSpec.witness6 (enc := enc) (C := Try.checked) false ⟨#[], #[.slice none 0 0], []⟩ 8 (by kernel_rfl) (by kernel_rfl) (by kernel_rfl) (by kernel_rfl)) ?_
  intro W base args ds gs before hval0 hW hcnd _
  have hval : ∀ (j : Nat) t v, Try.f4.params[j]? = some t → args[j]? = some v → Value.okWide Try.prog W .any base t v := hval0
  have hW' := hW
  obtain ⟨p, q, hA0, hV, rfl, hfz, hnd⟩ := hW
  have hA : DataW.TrodAll enc Try.prog W 0 (fun _ => true) true Try.f4.params.toList args.toList ds p := hA0
  rw [Try.params4] at hA hval
  obtain ⟨v0, vs0, d0, ds0, p0, q0, hargs, rfl, rfl, h0, r0⟩ := trodAll_cons hA
  obtain ⟨rfl, rfl, rfl⟩ := trodAll_nil r0
  obtain rfl : args = #[v0] := by cases args; simp_all
  obtain ⟨rfl, rfl⟩ := trodVars_none hV
  obtain ⟨a0, len0, cap0, rfl⟩ := okWide_slice Try.underlying22 (hval 0 22 v0 rfl rfl)
  have k0 := h0
  have lt0 : ∀ x ∈ p0, x.block < W.heap.size := by obtain ⟨m, hm⟩ := k0; exact DataW.trod_lt m _ _ _ hm
  obtain ⟨z0, hl0, hc0, w0⟩ : ∃ zs : List Int, len0 = zs.length ∧ zs.length ≤ cap0 ∧ Rdw .u8 W W.heap.size a0 zs := by
    obtain ⟨fuel, hf⟩ := h0
    rcases open_ints Try.underlying22 Try.underlying5 (by kernel_rfl) hf with ⟨hcs, _⟩ | ⟨x, l, c, zs, hcs, _, hl, hm, hz, _, hcell, hwz⟩
    · simp [Value.cells] at hcs
      obtain ⟨rfl, rfl, rfl⟩ := hcs
      exact ⟨[], rfl, Nat.le_refl _, Rdw.nil⟩
    · simp [Value.cells] at hcs
      obtain ⟨rfl, rfl, rfl⟩ := hcs
      exact ⟨zs.take len0, by simp at hz ⊢; omega, by simp at hz ⊢; omega, Rdw.of_row hl hm (by simpa using hz) hcell hwz⟩
  subst hl0
  clear hA0 hval0
  refine (walk W a0 cap0 z0 hc0 w0).mono fun e W' ⟨he, bel⟩ => ?_
  subst he
  exact ⟨_, rfl, _, _, _, [], _, [], hW', trodAll_mk1 (shut_bool Try.underlying4 _), (trodAll_cons_mk (Below.trod laidOut (by kernel_rfl) (of_decide_eq_true (by kernel_rfl)) k0 bel lt0) trodAll_mk0), rfl, bel.frame _, fun h => by cases h⟩

theorem over : Rows.fnValidPackingTwiceRow.holds Try.pinned (OpenSpec.ofChange Rows.fnValidPackingTwiceSpec) :=
  OpenClaim.holds_of_wide 4 Try.f4 rfl rfl rfl rfl rfl rfl rfl ⟨rfl, rfl, rfl, rfl, rfl⟩ rfl rfl rfl rfl rfl (by kernel_rfl) Try.func4 (by kernel_rfl)
    (of_decide_eq_true (by kernel_rfl)) (by unfold Func.isWrapper; first | (rw [if_pos (by decide +kernel)]; kernel_rfl) | (rw [if_neg (by decide +kernel)]; exact ⟨rfl, rfl⟩))
    (fun os started H enc _ => lifted os started H enc)

theorem proved : Rows.FnValidPackingTwiceSaid := over
end Go.Proofs.Ytgieijogopcjnaa.fnValidPackingTwice
