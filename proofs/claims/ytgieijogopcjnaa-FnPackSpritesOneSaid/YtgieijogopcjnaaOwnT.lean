/- Rows of structs of C numbers that a call made: read, appended to, marked, held. -/
import Derived.Test.YtgieijogopcjnaaLists
namespace Go.Proofs.Ytgieijogopcjnaa
open Go.RowKit
set_option linter.unusedSimpArgs false
set_option linter.unusedVariables false
set_option maxRecDepth 20000

/-- v owns its row of n structs of C numbers, from block base on: the numbers xs. -/
def OwnT (E : TypeId) (C : Nat) (w : World) (base : Nat) (v : Value) (n : Nat) (xs : List Int) : Prop := w.ownsRow base E C v n (xs.map (.int .i64))
section
variable {E : TypeId} {C : Nat} {w w' : World} {base : Nat} {v : Value} {n : Nat} {xs : List Int}
theorem OwnT.len (h : OwnT E C w base v n xs) : xs.length = n * C := by simpa using h.1
theorem OwnT.slice (h : OwnT E C w base v n xs) : ∃ A c, v = .slice A n c ∧ n ≤ c := by
  rcases h.2 with ⟨rfl, rfl⟩ | ⟨g, cap, cur, rfl, _, _, hnc, _⟩
  · exact ⟨none, 0, rfl, Nat.le_refl _⟩
  · exact ⟨_, cap, rfl, hnc⟩
theorem OwnT.form (h : OwnT E C w base v n xs) (hn : 0 < n) : ∃ g cap, v = .slice (some ⟨g, 0, none⟩) n cap ∧ base ≤ g ∧ g < w.heap.size := by
  rcases h.2 with ⟨_, rfl⟩ | ⟨g, cap, cur, rfl, hbg, hg, hnc, _⟩
  · omega
  · refine ⟨g, cap, rfl, hbg, ?_⟩
    rcases Nat.lt_or_ge g w.heap.size with h' | h'
    · exact h'
    · rw [Array.getElem?_eq_none h'] at hg; cases hg
theorem OwnT.rds {A : Option Addr} {m c : Nat} (h : OwnT E C w base (.slice A m c) n xs) : Rds .i64 w w.heap.size A xs := by
  have hl := h.len
  rcases h.2 with ⟨h0, rfl⟩ | ⟨g, cap, cur, hv, hbg, hg, hnc, hcm, hcs, ht⟩
  · exact .inl (List.eq_nil_of_length_eq_zero (by omega))
  · simp only [Value.slice.injEq] at hv
    obtain ⟨rfl, rfl, rfl⟩ := hv
    refine .inr ⟨g, 0, rfl, ?_, fun j hj => ?_⟩
    · rcases Nat.lt_or_ge g w.heap.size with h' | h'
      · exact h'
      · rw [Array.getElem?_eq_none h'] at hg; cases hg
    · rw [Nat.zero_add, World.ownsRow.cellAt h j (by omega)]
      simp [List.getElem?_eq_getElem hj]
theorem OwnT.kept {row : Option Nat} (h : OwnT E C w base v n xs) (hg : w.grownBy w' row) (hne : v.ownBlock = none ∨ v.ownBlock ≠ row) : OwnT E C w' base v n xs := World.ownsRow.kept h hg hne
theorem OwnT.below {B : Nat} (h : OwnT E C w base v n xs) (hb : Below B w w') (hB : w.heap.size ≤ B) : OwnT E C w' base v n xs :=
  h.kept (row := none) ⟨hb.os, hb.tape, hb.output, hb.size, fun i hi _ => hb.block i (by omega)⟩ (by
    rcases h.2 with ⟨rfl, _⟩ | ⟨g, cap, cur, rfl, _⟩
    · exact .inl rfl
    · exact .inr (by simp [Value.ownBlock]))
theorem OwnT.lt (h : OwnT E C w base v n xs) : ∀ k, v.ownBlock = some k → base ≤ k ∧ k < w.heap.size := World.ownsRow.lt h
theorem OwnT.alloc (h : OwnT E C w base v n xs) (o : Obj) : OwnT E C (w.alloc o) base v n xs := World.ownsRow.alloc h o
theorem OwnT.base_le {b : Nat} (h : OwnT E C w base v n xs) (hb : b ≤ base) : OwnT E C w b v n xs := by
  refine ⟨h.1, ?_⟩
  rcases h.2 with h2 | ⟨g, cap, cur, hv, hbg, r⟩
  · exact .inl h2
  · exact .inr ⟨g, cap, cur, hv, by omega, r⟩
theorem OwnT.nil (E : TypeId) (C : Nat) (w : World) (base : Nat) : OwnT E C w base (.slice none 0 0) 0 [] := World.ownsRow_nil w base E C
theorem OwnT.none (E : TypeId) (C : Nat) (w : World) : OwnT E C (w.alloc (.cells #[] E)) w.heap.size (.slice (some ⟨w.heap.size, 0, .none⟩) 0 0) 0 [] := World.ownsRow_made w #[] 0 (Nat.le_refl _) (Nat.zero_le _) (by simp)
theorem OwnT.put {g cap : Nat} (h : OwnT E C w base (.slice (some ⟨g, 0, .none⟩) n cap) n xs) (j : Nat) (y : Int) :
    OwnT E C (w.setCell ⟨g, j, .none⟩ (.int .i64 y)) base (.slice (some ⟨g, 0, .none⟩) n cap) n (xs.set j y) ∧ w.grownBy (w.setCell ⟨g, j, .none⟩ (.int .i64 y)) (some g) := by
  have := World.ownsRow.stored h j (.int .i64 y)
  exact ⟨by unfold OwnT; rw [List.map_set]; exact this.1, this.2⟩
theorem OwnT.cell {g cap : Nat} (h : OwnT E C w base (.slice (some ⟨g, 0, .none⟩) n cap) n xs) {j : Nat} (hj : j < xs.length) : w.cell? ⟨g, j, .none⟩ = some (.int .i64 (xs.getD j 0)) := by
  rw [World.ownsRow.cellAt h j (by have := h.len; omega)]
  simp [List.getElem?_eq_getElem hj]
theorem OwnT.frozen {g cap : Nat} (h : OwnT E C w base (.slice (some ⟨g, 0, .none⟩) n cap) n xs) (j : Nat) : w.frozen? ⟨g, j, .none⟩ = false := World.ownsRow.frozenAt h j
end
theorem infoT_Box : (Try.prog.info? 29).map (fun i => (i.zero, i.size, i.bytes)) = some (some (.agg #[.int .i64 0, .int .i64 0, .int .i64 0, .int .i64 0]), 4, 32) := by kernel_rfl
theorem wpList_appBox {w : World} {ops : Array Oper} {rest : List Oper} {o : Oper} {a : Act} {Q : Exit → Act → World → Prop} (hgd : o.guard = none) (s x : Operand)
    (ho : o.op = .call { callee := .builtin .append, args := #[s, x], argTypes := #[23, 23] })
    (base : Nat) (v : Value) (n : Nat) (xs : List Int) (hs : a.eval s = v) (hown : OwnT 29 4 w base v n xs)
    (b m c : Nat) (ys : List Int) (hx : a.eval x = .slice (some ⟨b, 0, .none⟩) m c) (hm : ys.length = m * 4) (hr : ∀ j, j < ys.length → w.cell? ⟨b, j, .none⟩ = some (.int .i64 (ys.getD j 0))) (hl : n + m ≤ 1000000) (hbase : base ≤ w.heap.size)
    (h : ∀ v' w', OwnT 29 4 w' base v' (n + m) (xs ++ ys) → w.grownBy w' v.ownBlock → wpList Try.prog ops Q rest (a.put o.dst v') w') : wpList Try.prog ops Q (o :: rest) a w := by
  obtain ⟨i, hi, hz, hsz, hb⟩ := info_parts infoT_Box
  refine wpList_append_own w hgd s x 23 ho base 29 i (.agg #[.int .i64 0, .int .i64 0, .int .i64 0, .int .i64 0]) 4 32 Try.underlying23 hi hz hsz hb rfl (by omega) v n (xs.map (.int .i64)) hs hown ⟨b, 0, .none⟩ m c (ys.map (.int .i64)) hx (by simpa using hm) ?_ (ints_oneCell _ _)
    (by unfold maxLen; omega) (by omega) hbase ?_
  · intro j u hu
    have hj : j < ys.length := by
      rcases Nat.lt_or_ge j ys.length with h | h
      · exact h
      · simp [List.getElem?_eq_none h] at hu
    have e : (⟨b, 0, .none⟩ : Addr).add j = ⟨b, j, .none⟩ := (add_spot rfl j).trans (by simp)
    rw [e, hr j hj]
    simp [hj] at hu ⊢
    exact hu
  · intro v' w' ho' hg _
    exact h v' w' (by unfold OwnT; simpa using ho') hg
def MarkedTBox (base : Nat) (v : Value) (n : Nat) (k : Int) (w : World) (e : Ending) (w' : World) : Prop :=
  e = .returned (.int .i64 (k + (n * 4 : Nat))) ∧ OwnT 29 4 w' base v n (marks k (n * 4)) ∧ w.grownBy w' v.ownBlock ∧ w'.heap.size = w.heap.size
set_option maxHeartbeats 4000000 in
theorem markBoxS_any (v : Value) (base n : Nat) (xs : List Int) (k : Int) (w : World) (h : OwnT 29 4 w base v n xs) (hl : n ≤ 2000000) (hk0 : 0 ≤ k) (hk1 : k ≤ 100000000) :
    Calls Try.prog 19 #[v, .int .i64 k] w (MarkedTBox base v n k w) := by
  by_cases h0 : n = 0
  · subst h0
    have hx : xs = [] := List.eq_nil_of_length_eq_zero (by have := h.len; omega)
    subst hx
    obtain ⟨A, c, rfl, _⟩ := h.slice
    have Hh := Lib.hid h
    clear h
    go_enter Try.func19, Try.ntmps19
    go_wp2
    go_loop [1, 5] (fun kk i => kk = .int .i64 k ∧ i = .int .i64 0) (fun _ _ => 0)
    case atStart => exact ⟨rfl, rfl⟩
    case round =>
      obtain ⟨rfl, rfl⟩ := hrel
      go_wp2
      go_ret
      exact ⟨by simp, by simpa [marks] using Hh.out, World.grownBy.refl _ _, rfl⟩
  · obtain ⟨g, cap, rfl, hbg, hgl⟩ := h.form (by omega)
    have HL := Lib.hid h.len
    have Hh := Lib.hid h
    clear h
    go_enter Try.func19, Try.ntmps19
    go_wp2
    go_loopw [1, 5] (fun kk i wr => ∃ j : Nat, j ≤ n ∧ i = .int .i64 j ∧ kk = .int .i64 (k + 4 * j) ∧ Hid (OwnT 29 4 wr base (.slice (some ⟨g, 0, none⟩) n cap) n (marks k (j * 4) ++ xs.drop (j * 4)) ∧ w.grownBy wr (some g) ∧ wr.heap.size = w.heap.size)) (fun _ i _ => n - (intOf i).toNat)
    case atStart => exact ⟨0, Nat.zero_le _, rfl, by simp, Lib.hid ⟨by simpa [marks] using Hh.out, World.grownBy.refl _ _, rfl⟩⟩
    case round =>
      obtain ⟨j, hj, rfl, rfl, hI⟩ := hrel
      by_cases hlt : j < n
      · have l0 : j * 4 < xs.length := by have := HL.out; omega
        have l1 : j * 4 + 1 < xs.length := by have := HL.out; omega
        have l2 : j * 4 + 2 < xs.length := by have := HL.out; omega
        have l3 : j * 4 + 3 < xs.length := by have := HL.out; omega
        have hl : (marks k (j * 4) ++ xs.drop (j * 4)).length = xs.length := by simp [marks]; omega
        have hp0 := OwnT.put hI.out.1 (j * 4) (k + ((j * 4 : Nat) : Int))
        rw [marks_set k (j * 4) xs l0] at hp0
        have hp1 := OwnT.put hp0.1 (j * 4 + 1) (k + ((j * 4 + 1 : Nat) : Int))
        rw [marks_set k (j * 4 + 1) xs l1] at hp1
        have hp2 := OwnT.put hp1.1 (j * 4 + 2) (k + ((j * 4 + 2 : Nat) : Int))
        rw [marks_set k (j * 4 + 2) xs l2] at hp2
        have hp3 := OwnT.put hp2.1 (j * 4 + 3) (k + ((j * 4 + 3 : Nat) : Int))
        rw [marks_set k (j * 4 + 3) xs l3] at hp3
        have c0 := hI.out.1.cell (j := j * 4) (by omega)
        have f0 := hI.out.1.frozen (j * 4)
        have c1 := hI.out.1.cell (j := j * 4 + 1) (by omega)
        have f1 := hI.out.1.frozen (j * 4 + 1)
        have c2 := hI.out.1.cell (j := j * 4 + 2) (by omega)
        have f2 := hI.out.1.frozen (j * 4 + 2)
        have c3 := hI.out.1.cell (j := j * 4 + 3) (by omega)
        have f3 := hI.out.1.frozen (j * 4 + 3)
        have HG := Lib.hid (gtrans (gtrans (gtrans (gtrans hI.out.2.1 hp0.2) hp1.2) hp2.2) hp3.2)
        have e0 : k + ((j * 4 : Nat) : Int) = k + 4 * (j : Int) := by push_cast; omega
        have e1 : k + ((j * 4 + 1 : Nat) : Int) = k + 4 * (j : Int) + 1 := by push_cast; omega
        have e2 : k + ((j * 4 + 2 : Nat) : Int) = k + 4 * (j : Int) + 1 + 1 := by push_cast; omega
        have e3 : k + ((j * 4 + 3 : Nat) : Int) = k + 4 * (j : Int) + 1 + 1 + 1 := by push_cast; omega
        rw [e0, e1, e2, e3] at hp3 HG
        have HP := Lib.hid hp3.1
        have HS := Lib.hid hI.out.2.2
        clear hI hl e0 hp0 l0 e1 hp1 l1 e2 hp2 l2 e3 hp3 l3
        generalize (List.getD (marks k (j * 4) ++ xs.drop (j * 4)) (j * 4) 0) = y0 at *
        generalize (List.getD (marks k (j * 4) ++ xs.drop (j * 4)) (j * 4 + 1) 0) = y1 at *
        generalize (List.getD (marks k (j * 4) ++ xs.drop (j * 4)) (j * 4 + 2) 0) = y2 at *
        generalize (List.getD (marks k (j * 4) ++ xs.drop (j * 4)) (j * 4 + 3) 0) = y3 at *
        go_wp2
        go_roundw
        case rel => exact ⟨j + 1, by omega, by go_num, by go_num, Lib.hid ⟨by rw [show (j + 1) * 4 = j * 4 + 3 + 1 by omega]; exact HP.out, HG.out, by simpa [World.setCell] using HS.out⟩⟩
        case measure => simp [intOf]; omega
      · have hj' : j = n := by omega
        have HO := Lib.hid hI.out
        have HE : Hid (k + 4 * (j : Int) = k + ((n * 4 : Nat) : Int)) := Lib.hid (by rw [hj']; push_cast; omega)
        have HJ := Lib.hid hj'
        clear hI hj'
        go_wp2
        go_ret
        refine ⟨ret_int HE.out, ?_, HO.out.2.1, HO.out.2.2⟩
        have h1 := HO.out.1
        rw [HJ.out, List.drop_of_length_le (by have := HL.out; omega), List.append_nil] at h1
        exact h1
set_option maxHeartbeats 4000000 in
theorem heldBoxS_any (A : Option Addr) (n c B : Nat) (k : Int) (w : World) (h : Rds .i64 w B A (marks k (n * 4))) (hl : n ≤ 2000000) (hk0 : 0 ≤ k) (hk1 : k ≤ 100000000) :
    Calls Try.prog 20 #[.slice A n c, .int .i64 k] w fun e w' => e = .returned (.int .i64 (k + (n * 4 : Nat))) ∧ w = w' := by
  have Hh := Lib.hid h
  clear h
  go_enter Try.func20, Try.ntmps20
  go_wp2
  go_loop [1, 5] (fun kk i => ∃ j : Nat, j ≤ n ∧ i = .int .i64 j ∧ kk = .int .i64 (k + 4 * j)) (fun _ i => n - (intOf i).toNat)
  case atStart => exact ⟨0, Nat.zero_le _, rfl, by simp⟩
  case round =>
    obtain ⟨j, hj, rfl, rfl⟩ := hrel
    by_cases hlt : j < n
    · obtain ⟨b, off, rfl, _, hc⟩ := Hh.out.cells_ (j := j * 4) (by rw [marks_len]; omega)
      have c0 : w.cell? ⟨b, off + j * 4, none⟩ = some (.int .i64 (k + 4 * (j : Int))) := (hc (j * 4) (by rw [marks_len]; omega)).trans (by rw [marks_get _ _ _ (by omega)]; congr 2; push_cast; omega)
      have c1 : w.cell? ⟨b, off + j * 4 + 1, none⟩ = some (.int .i64 (k + 4 * (j : Int) + 1)) := (hc (j * 4 + 1) (by rw [marks_len]; omega)).trans (by rw [marks_get _ _ _ (by omega)]; congr 2; push_cast; omega)
      have c2 : w.cell? ⟨b, off + j * 4 + 2, none⟩ = some (.int .i64 (k + 4 * (j : Int) + 2)) := (hc (j * 4 + 2) (by rw [marks_len]; omega)).trans (by rw [marks_get _ _ _ (by omega)]; congr 2; push_cast; omega)
      have c3 : w.cell? ⟨b, off + j * 4 + 3, none⟩ = some (.int .i64 (k + 4 * (j : Int) + 3)) := (hc (j * 4 + 3) (by rw [marks_len]; omega)).trans (by rw [marks_get _ _ _ (by omega)]; congr 2; push_cast; omega)
      clear hc
      go_wp2
      go_round
      case rel => exact ⟨j + 1, by omega, by go_num, by go_num⟩
      case measure => simp [intOf]; omega
    · have hj' : j = n := by omega
      have HE : Hid (k + 4 * (j : Int) = k + ((n * 4 : Nat) : Int)) := Lib.hid (by rw [hj']; push_cast; omega)
      clear hj'
      go_wp2
      go_ret
      exact ⟨ret_int HE.out, rfl⟩
end Go.Proofs.Ytgieijogopcjnaa
