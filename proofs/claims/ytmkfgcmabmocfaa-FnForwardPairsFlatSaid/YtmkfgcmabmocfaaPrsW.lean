/- Facts of pairs that the laws need. -/
import Derived.Test.YtmkfgcmabmocfaaPrsJ
import Derived.Test.YtmkfgcmabmocfaaPrsT
import Derived.Test.YtmkfgcmabmocfaaDrawPrs
namespace Go.Proofs.Ytmkfgcmabmocfaa
open Go.RowKit Go.Shelf
set_option linter.unusedSimpArgs false
set_option linter.unusedVariables false

/-- What a law over lists knows. -/
def Rws (w wr : World) (R : List (Option Addr × List Int)) : Prop := Below w.heap.size w wr ∧ ∀ r ∈ R, Rds .i64 wr wr.heap.size r.1 r.2
theorem Rws.start {w wr : World} {A : Option Addr} {xs : List Int} (hb : Below w.heap.size w wr) (hr : Rds .i64 wr wr.heap.size A xs) : Rws w wr [(A, xs)] := ⟨hb, fun r hm => by rw [List.mem_singleton] at hm; subst hm; exact hr⟩
theorem Rws.call {w wr u : World} {R : List (Option Addr × List Int)} (h : Rws w wr R) (hb : Below wr.heap.size wr u) : Rws w u R := ⟨h.1.trans (hb.mono h.1.size), fun r hm => ((h.2 r hm).below hb).more hb.size⟩
theorem Rws.add {w wr u : World} {R : List (Option Addr × List Int)} {A : Option Addr} {n c : Nat} {xs : List Int} (h : Rws w wr R) (hO : Own u wr.heap.size (.slice A n c) xs) (hb : Below wr.heap.size wr u) : Rws w u ((A, xs) :: R) :=
  ⟨(h.call hb).1, fun r hm => by
    rcases List.mem_cons.1 hm with rfl | hm
    · exact hO.rds.2
    · exact (h.call hb).2 r hm⟩
theorem Rws.drewN {w wr : World} {R : List (Option Addr × List Int)} (h : Rws w wr R) (n : Nat) : Rws w (wr.drewN n) R := ⟨⟨h.1.os, h.1.tape, h.1.output, h.1.size, h.1.block⟩, h.2⟩
theorem Rws.rds {w wr : World} {R : List (Option Addr × List Int)} (h : Rws w wr R) {A : Option Addr} {xs : List Int} (hm : (A, xs) ∈ R) : Rds .i64 wr wr.heap.size A xs := h.2 _ hm
theorem lEq_same (A A' : Option Addr) (c c' : Nat) (q : List Int) (w : World) (hx : Rds .i64 w w.heap.size A q) (hy : Rds .i64 w w.heap.size A' q) (hl : q.length ≤ 2000000) :
    Calls Try.prog 17 #[.slice A q.length c, .slice A' q.length c'] w fun e w' => e = .returned (.bool true) ∧ ∃ n, w' = w.drewN n :=
  (lEqualInts_any A A' c c' q q _ _ w hx hy (by omega) (by omega)).mono fun e w' ⟨he, n, hw⟩ => ⟨by rw [he]; simp, n, hw⟩
/-- The contracts that a law uses. -/
def FwC (f : FuncId) (xs ys : List Int) : Prop := ∀ (A : Option Addr) (c : Nat) (w : World), Rds .i64 w w.heap.size A xs → Calls Try.prog f #[.slice A xs.length c] w (Made ys w)
def BkC (f : FuncId) (xs : List Int) (b : Bool) (ys : List Int) : Prop := ∀ (A : Option Addr) (c : Nat) (w : World), Rds .i64 w w.heap.size A xs → Calls Try.prog f #[.slice A xs.length c] w fun e w' => ∃ v, e = .returned (.tuple #[v, .bool b]) ∧ Own w' w.heap.size v ys ∧ Below w.heap.size w w'
theorem fw_law (xs : List Int) (hx : xs.length ≤ 100) : ∃ ys : List Int, ys.length ≤ 100 ∧ Hid (FwC 16 xs ys) ∧ Hid (FwC 18 xs ys) ∧
    (ys.length = 0 ∨ (ys.length ≠ 0 ∧ ys.length = xs.length ∧ Hid (prOk xs = true) ∧ Hid (BkC 19 ys true xs))) := by
  refine ⟨fwA xs, ?_, Lib.hid (fun A c w hr => i_ForwardPairs A c xs w hr (by omega)), Lib.hid (fun A c w hr => s_ForwardPairs A c xs w hr (by omega)), ?_⟩
  · unfold fwA
    cases prOk xs
    · simp
    · show (fwL xs).length ≤ 100; rw [fwL_len]; exact hx
  · cases hp : prOk xs
    · left; unfold fwA; rw [hp]; rfl
    · have e : fwA xs = fwL xs := by unfold fwA; rw [hp]; rfl
      rw [e, fwL_len]
      by_cases h0 : xs.length = 0
      · exact .inl h0
      · refine .inr ⟨h0, rfl, Lib.hid rfl, Lib.hid (fun A c w hr => ?_)⟩
        have := i_BackPairs A c (fwL xs) w hr (by rw [fwL_len]; omega)
        rw [bkOk_fw hp, bk_fw] at this
        exact this
theorem bk_law (xs : List Int) (hx : xs.length ≤ 100) : ∃ (ys : List Int) (b : Bool), ys.length ≤ 100 ∧ Hid (BkC 19 xs b ys) ∧ Hid (BkC 21 xs b ys) ∧ (b = false ∨ (b = true ∧ Hid (FwC 16 ys xs))) := by
  refine ⟨cond (bkOk xs) (bkL xs) [], bkOk xs, ?_, Lib.hid (fun A c w hr => i_BackPairs A c xs w hr (by omega)), Lib.hid (fun A c w hr => s_BackPairs A c xs w hr (by omega)), ?_⟩
  · cases bkOk xs
    · simp
    · show (bkL xs).length ≤ 100; rw [bkL_len]; exact hx
  · cases hb : bkOk xs
    · exact .inl rfl
    · refine .inr ⟨rfl, Lib.hid (fun A c w hr => ?_)⟩
      have := i_ForwardPairs A c (bkL xs) w hr (by rw [bkL_len]; omega)
      have e : fwA (bkL xs) = xs := by unfold fwA; rw [bkOk_pr hb]; exact fw_bk xs
      rw [e] at this
      exact this
theorem flat_law (x : Int) (xs : List Int) (n : Nat) (hp : prOk xs = true) (hn : xs.length = n) (hx : x = xs.getD 0 0) (hn0 : n ≠ 0) : ∃ zs : List Int, zs.length = n ∧ Hid (FwC 16 (List.replicate n x) zs) ∧ ∀ p, p < n → zs.getD p 0 = if p < (n + 1) / 2 then x else 0 := by
  have hpp := prOk_parts hp
  have hx2 := allB_get hpp.2 (j := 0) (by omega)
  have hp2 : prOk (List.replicate n x) = true := by
    unfold prOk
    rw [Bool.and_eq_true]
    refine ⟨decide_eq_true (by rw [List.length_replicate]; omega), decide_eq_true (fun y hy => ?_)⟩
    rw [List.eq_of_mem_replicate hy, hx]
    exact hx2
  refine ⟨fwL (List.replicate n x), by rw [fwL_len, List.length_replicate], Lib.hid (fun A c w hr => ?_), fun p h => fw_flat x n p h⟩
  have := i_ForwardPairs A c (List.replicate n x) w hr (by rw [List.length_replicate]; omega)
  have e : fwA (List.replicate n x) = fwL (List.replicate n x) := by unfold fwA; rw [hp2]; rfl
  rw [e] at this
  exact this
end Go.Proofs.Ytmkfgcmabmocfaa
