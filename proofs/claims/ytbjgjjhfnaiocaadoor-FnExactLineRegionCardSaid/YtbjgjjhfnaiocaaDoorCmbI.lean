/- Contract of CombineRegions in the program. -/
import Derived.Test.YtbjgjjhfnaiocaaDoorCmbS
import Derived.Test.YtbjgjjhfnaiocaaDoorChk
import Derived.Shelf.Abstract
namespace Go.Proofs.YtbjgjjhfnaiocaaDoor
open Go.RowKit Go.Shelf
set_option linter.unusedSimpArgs false
set_option linter.unusedVariables false
set_option maxRecDepth 20000

/-- The function of a kind's rule. -/
def kfn (k : Int) : Nat := if k = 0 then 62 else if k = 1 then 63 else if k = 2 then 64 else 65
set_option maxHeartbeats 4000000 in
theorem rl1_enters : ∀ args w, (callFunc 62 args).run Tryd.prog w = .ok (.enter 62 args) w := enters_of Tryd.func62 (by kernel_rfl) rfl
set_option maxHeartbeats 4000000 in
theorem rl2_enters : ∀ args w, (callFunc 63 args).run Tryd.prog w = .ok (.enter 63 args) w := enters_of Tryd.func63 (by kernel_rfl) rfl
set_option maxHeartbeats 4000000 in
theorem rl3_enters : ∀ args w, (callFunc 64 args).run Tryd.prog w = .ok (.enter 64 args) w := enters_of Tryd.func64 (by kernel_rfl) rfl
set_option maxHeartbeats 4000000 in
theorem rl4_enters : ∀ args w, (callFunc 65 args).run Tryd.prog w = .ok (.enter 65 args) w := enters_of Tryd.func65 (by kernel_rfl) rfl
set_option maxHeartbeats 4000000 in
theorem rl1_any (a b : Bool) (w : World) : Calls Tryd.prog 62 #[.bool a, .bool b] w fun e w' => e = .returned (.bool (krule 0 a b)) ∧ w' = w := by
  cases a <;> cases b
  all_goals
    go_enter Tryd.func62, Tryd.ntmps62
    go_wp2
    go_ret
    exact ⟨by simp [krule], rfl⟩
set_option maxHeartbeats 4000000 in
theorem rl2_any (a b : Bool) (w : World) : Calls Tryd.prog 63 #[.bool a, .bool b] w fun e w' => e = .returned (.bool (krule 1 a b)) ∧ w' = w := by
  cases a <;> cases b
  all_goals
    go_enter Tryd.func63, Tryd.ntmps63
    go_wp2
    go_ret
    exact ⟨by simp [krule], rfl⟩
set_option maxHeartbeats 4000000 in
theorem rl3_any (a b : Bool) (w : World) : Calls Tryd.prog 64 #[.bool a, .bool b] w fun e w' => e = .returned (.bool (krule 2 a b)) ∧ w' = w := by
  cases a <;> cases b
  all_goals
    go_enter Tryd.func64, Tryd.ntmps64
    go_wp2
    go_ret
    exact ⟨by simp [krule], rfl⟩
set_option maxHeartbeats 4000000 in
theorem rl4_any (a b : Bool) (w : World) : Calls Tryd.prog 65 #[.bool a, .bool b] w fun e w' => e = .returned (.bool (krule 3 a b)) ∧ w' = w := by
  cases a <;> cases b
  all_goals
    go_enter Tryd.func65, Tryd.ntmps65
    go_wp2
    go_ret
    exact ⟨by simp [krule], rfl⟩
theorem kfn_any (k : Int) (hk : 0 ≤ k ∧ k ≤ 3) : (∀ args w, (callFunc (kfn k) args).run Tryd.prog w = .ok (.enter (kfn k) args) w) ∧ ∀ (a b : Bool) (w : World), Calls Tryd.prog (kfn k) #[.bool a, .bool b] w fun e w' => e = .returned (.bool (krule k a b)) ∧ w' = w := by
  rcases (show k = 0 ∨ k = 1 ∨ k = 2 ∨ k = 3 by omega) with e | e | e | e <;> subst e
  · exact ⟨rl1_enters, rl1_any⟩
  · exact ⟨rl2_enters, rl2_any⟩
  · exact ⟨rl3_enters, rl3_any⟩
  · exact ⟨rl4_enters, rl4_any⟩
set_option maxHeartbeats 4000000 in
theorem ruleOf_yes (k : Int) (hk : 0 ≤ k ∧ k ≤ 3) (w : World) : Calls Tryd.prog 57 #[.int .i64 k] w fun e w' => e = .returned (.tuple #[.func (.func (kfn k)) #[] #[], .bool true]) ∧ w' = w := by
  rcases (show k = 0 ∨ k = 1 ∨ k = 2 ∨ k = 3 by omega) with e | e | e | e <;> subst e
  all_goals
    go_enter Tryd.func57, Tryd.ntmps57
    go_wp2
    go_ret2
    exact ⟨by simp [kfn], rfl⟩
set_option maxHeartbeats 4000000 in
theorem ruleOf_no (k : Int) (hk : ¬ (0 ≤ k ∧ k ≤ 3)) (w : World) : Calls Tryd.prog 57 #[.int .i64 k] w fun e w' => e = .returned (.tuple #[.nilFunc, .bool false]) ∧ w' = w := by
  have h0 : (k == 0) = false := beq_eq_false_iff_ne.2 (by omega)
  have h1 : (k == 1) = false := beq_eq_false_iff_ne.2 (by omega)
  have h2 : (k == 2) = false := beq_eq_false_iff_ne.2 (by omega)
  have h3 : (k == 3) = false := beq_eq_false_iff_ne.2 (by omega)
  clear hk
  go_enter Tryd.func57, Tryd.ntmps57
  go_wp2
  go_ret2
  exact ⟨rfl, rfl⟩
/-- Numbers that a call appends to, the rest of memory kept. -/
def MkSt (u : World) (base : Nat) (w' : World) (l : Value) (xs : List Int) : Prop := Own w' base l xs ∧ Below base u w'
theorem MkSt.call {u w w' : World} {base : Nat} {l : Value} {xs : List Int} (h : MkSt u base w l xs) (hb : Below w.heap.size w w') (hB : base ≤ w.heap.size) : MkSt u base w' l xs := ⟨h.1.below hb (Nat.le_refl _), h.2.trans (hb.mono hB)⟩
theorem rds_two (w : World) (a b : Int) : Rds .i64 (w.alloc (.cells #[.int .i64 a, .int .i64 b] 3)) (w.heap.size + 1) (some ⟨w.heap.size, 0, none⟩) [a, b] := .inr ⟨_, _, rfl, by omega, fun j hj => by
  rw [cell_of_row _ _ _ _ _ _ (heap_alloc_new w _)]
  rcases (show j = 0 ∨ j = 1 by simp at hj; omega) with e | e <;> subst e <;> rfl⟩
theorem infoM_int : (Tryd.prog.info? 3).map (fun i => (i.zero, i.size, i.bytes)) = some (some (.int .i64 0), 1, 8) := by kernel_rfl
set_option maxHeartbeats 8000000 in
theorem marksOf_any (A : Option Addr) (c n : Nat) (xs : List Int) (w : World) (hx : xs.length = 3 * n) (h : Rds .i64 w w.heap.size A xs) (hr : reg xs n) (hn : n ≤ 2000000) :
    Calls Tryd.prog 60 #[.slice A n c] w fun e w' => ∃ v, e = .returned v ∧ Own w' w.heap.size v (mkL xs n) ∧ Below w.heap.size w w' := by
  have Hh := Lib.hid h
  have HX := Lib.hid hx
  have HR := Lib.hid hr
  obtain ⟨i, hi, hz, hsz, hb⟩ := info_parts infoM_int
  have Hi := Lib.hid hi
  have Hz := Lib.hid hz
  have Hs := Lib.hid hsz
  have Hb := Lib.hid hb
  have H2 : Hid (2 * (n : Int) = ((2 * n : Nat) : Int)) := Lib.hid (by omega)
  clear h hx hr hi hz hsz hb
  go_enter Tryd.func60, Tryd.ntmps60
  go_wp2_with (refine wpList_make_own _ rfl (.const (.int .i64 0)) (.tmp 8) 67 rfl w.heap.size 3 i _ 1 Tryd.underlying67 Hi.out Hz.out Hs.out .i64 .i64 _ (2 * n) rfl rfl H2.out (by rw [Hb.out]; omega) (by unfold maxLen; omega) (Nat.le_refl _) ?_; intro w1 hO1 hG1)
  have HI0 : Hid (MkSt w w.heap.size w1 (.slice (some ⟨w.heap.size, 0, none⟩) 0 (2 * n)) (mkL xs 0)) := Lib.hid ⟨by unfold Own; simpa [mkL] using hO1, ⟨hG1.os, hG1.tape, hG1.output, hG1.size, fun i hi => hG1.block i hi (by simp)⟩⟩
  clear hO1 hG1 Hi Hz Hs Hb H2
  go_loopw [3, 12] (fun v i wr => ∃ k : Nat, k ≤ n ∧ i = .int .i64 k ∧ Hid (MkSt w w.heap.size wr v (mkL xs k))) (fun _ i _ => n - (intOf i).toNat)
  case atStart => exact ⟨0, Nat.zero_le _, rfl, HI0⟩
  case round =>
    clear HI0
    obtain ⟨k, hk, rfl, hI⟩ := hrel
    by_cases hlt : k < n
    · obtain ⟨t0, t1, t2⟩ := trio hlt HX.out
      obtain ⟨b, off, rfl, hb, hc⟩ := Hh.out.cells_ t0
      have hc0 := (hI.out.2.cell (p := ⟨b, off + k * 3, none⟩) hb).trans (hc _ t0)
      have hc1 := (hI.out.2.cell (p := ⟨b, off + k * 3 + 1, none⟩) hb).trans (hc _ t1)
      have hc2 := (hI.out.2.cell (p := ⟨b, off + k * 3 + 2, none⟩) hb).trans (hc _ t2)
      obtain ⟨⟨a0, a1⟩, ⟨b0, b1⟩, d0, d1⟩ := bnds HR.out hlt
      have HM : Hid (mkL xs (k + 1) = mkL xs k ++ [gY xs k * 17 + gF xs k, gY xs k * 17 + gT xs k]) := Lib.hid rfl
      unfold gY at HM a0 a1
      unfold gF at HM b0 b1 d0
      unfold gT at HM d0 d1
      clear hc
      generalize xs.getD (k * 3) 0 = y at *
      generalize xs.getD (k * 3 + 1) 0 = f at *
      generalize xs.getD (k * 3 + 2) 0 = t at *
      obtain ⟨A1, c1, rfl, _⟩ := hI.out.1.slice
      have hkl := mkL_len xs k
      obtain ⟨m, hm⟩ : ∃ m, m = (mkL xs k).length := ⟨_, rfl⟩
      have hsz : w.heap.size ≤ wr.heap.size := hI.out.2.size
      have hbw : b < wr.heap.size := by omega
      have HO := Lib.hid ((hI.out.1.alloc (.cells #[.int .i64 y, .int .i64 f, .int .i64 t] 35)).alloc (.cells #[.int .i64 (y * 17 + f), .int .i64 (y * 17 + t)] 3))
      have HLt := Lib.hid (fun g (hg : (Value.slice A1 (mkL xs k).length c1).ownBlock = some g) => World.ownsRow.lt hI.out.1 g hg)
      have HA := Lib.hid ((hI.out.2.alloc hsz (.cells #[.int .i64 y, .int .i64 f, .int .i64 t] 35)).alloc (by simp; omega) (.cells #[.int .i64 (y * 17 + f), .int .i64 (y * 17 + t)] 3))
      have HQ := Lib.hid (rds_two (wr.alloc (.cells #[.int .i64 y, .int .i64 f, .int .i64 t] 35)) (y * 17 + f) (y * 17 + t))
      have hws : (wr.alloc (.cells #[.int .i64 y, .int .i64 f, .int .i64 t] 35)).heap.size = wr.heap.size + 1 := by simp
      rw [hws] at HQ
      have hbl : (mkL xs k).length ≤ 5000000 := by omega
      clear hI hkl hm m hws
      go_wp2_with (at_builtin; refine wpList_app rfl (.tmp 16) (.tmp 29) rfl w.heap.size _ _ rfl HO.out (some ⟨wr.heap.size + 1, 0, none⟩) 2 2 _ [y * 17 + f, y * 17 + t] rfl rfl HQ.out (by simp; omega) (by simp; omega) ?_; intro v3 w3 hO3 hG3)
      have HN : Hid (MkSt w w.heap.size w3 v3 (mkL xs (k + 1))) := Lib.hid ⟨by rw [HM.out]; exact hO3, HA.out.grown hG3 (by have := HA.out.size; simp; omega) (fun g hg => (HLt.out g hg).1)⟩
      clear hO3 hG3 HO HQ HA HLt HM hc0 hc1 hc2
      go_wp2
      go_roundw
      case rel => exact ⟨k + 1, by omega, by go_num, HN⟩
      case measure => simp [intOf]; omega
    · have hk' : k = n := by omega
      have hO := hI.out.1
      have HB := Lib.hid hI.out.2
      rw [hk'] at hO
      obtain ⟨A1, c1, rfl, _⟩ := hO.slice
      have HO := Lib.hid hO
      clear hI hO hk'
      go_wp2
      go_ret
      exact ⟨_, rfl, HO.out, HB.out⟩
set_option maxHeartbeats 4000000 in
theorem markAt_any (A : Option Addr) (c n i : Nat) (xs : List Int) (r : Int) (w : World) (hn : n = xs.length) (h : Rds .i64 w w.heap.size A xs) (hi : i ≤ n) (hr : (i = n → r = 272) ∧ (i < n → xs.getD i 0 = r)) :
    Calls Tryd.prog 67 #[.slice A n c, .int .i64 (i : Int)] w fun e w' => e = .returned (.int .i64 r) ∧ w' = w := by
  by_cases e : i = n
  · obtain rfl := hr.1 e
    have e2 : ((i : Int) == (n : Int)) = true := by rw [e]; simp
    clear e hr h hn
    go_enter Tryd.func67, Tryd.ntmps67
    go_wp2
    go_ret
    exact ⟨rfl, rfl⟩
  · have hr2 := hr.2 (by omega)
    have e2 : ((i : Int) == (n : Int)) = false := beq_eq_false_iff_ne.2 (by omega)
    obtain ⟨b, off, rfl, hb, hc⟩ := h.cells_ (j := i) (by omega)
    have c0 := hc i (by omega)
    rw [hr2] at c0
    have hlt : i < n := by omega
    have hltI : (i : Int) < (n : Int) := by omega
    clear hr hr2 h hc e hn
    go_enter Tryd.func67, Tryd.ntmps67
    go_wp2
    go_ret
    exact ⟨rfl, rfl⟩
end Go.Proofs.YtbjgjjhfnaiocaaDoor
