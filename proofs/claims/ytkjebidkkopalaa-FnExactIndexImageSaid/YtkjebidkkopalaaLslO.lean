/- A slice of slices of numbers, as an argument, reads as lists. -/
import Derived.Deep.Slices
import Derived.ChangeSame
import Derived.Test.YtkjebidkkopalaaRows
import Derived.Test.YtkjebidkkopalaaLsl
namespace Go.Proofs.Ytkjebidkkopalaa
open Go.ChangeShapes Go.WideShapes Go.Deep Go.RowKit
set_option linter.unusedSimpArgs false
set_option linter.unusedVariables false

theorem lists_of {P : Nat → List Int → Prop} : ∀ N : Nat, (∀ i, i < N → ∃ n, P i n) → ∃ zs : List (List Int), zs.length = N ∧ ∀ i, i < N → P i (zs.getD i [])
  | 0, _ => ⟨[], rfl, fun i hi => by omega⟩
  | N + 1, h => by
    obtain ⟨zs, hl, hz⟩ := lists_of N (fun i hi => h i (by omega))
    obtain ⟨n, hn⟩ := h N (by omega)
    refine ⟨zs ++ [n], by simp [hl], fun i hi => ?_⟩
    by_cases e : i = N
    · subst e
      have : (zs ++ [n]).getD i [] = n := by simp [List.getD_eq_getElem?_getD, List.getElem?_append_right (show zs.length ≤ i by omega), hl]
      rw [this]; exact hn
    · have hi' : i < N := by omega
      have : (zs ++ [n]).getD i [] = zs.getD i [] := by simp [List.getD_eq_getElem?_getD, List.getElem?_append_left (show i < zs.length by omega)]
      rw [this]; exact hz i hi'
section
variable {H : Type} {enc : TypeId × Value → H} {P : Program} {w : World} {base : Nat} {held : Bool}
theorem open_lists {t e T : TypeId} {fuel : Nat} {cs : List Value} {x : DataW H × List MemPlace} (ht : P.underlying t = some (.slice e)) (he : P.underlying e = some (.slice T)) (hT : P.underlying T = some (.int .i64)) (hC : P.cellsOf e = 1) (hT1 : P.cellsOf T = 1)
    (h : DataW.trod enc P w base (fun _ => true) held fuel t cs = some x) :
    ∃ (A : Option Addr) (cap : Nat) (zs : List (List Int)), cs = [.slice A zs.length cap] ∧ zs.length ≤ cap ∧ zs.length ≤ maxLen ∧ Rdss w w.heap.size A zs ∧ ∀ i, i < zs.length → (zs.getD i []).length ≤ maxLen := by
  rcases open_slice1 ht hC h with ⟨hcs, _⟩ | ⟨a, len, cap, m, n, V, D, Pl, hcs, hb, hl, hm, hmm, _, hi⟩
  · exact ⟨none, 0, [], hcs, Nat.le_refl _, Nat.zero_le _, .inl rfl, fun i hi => by simp at hi⟩
  have hlm : len ≤ m := by rw [hmm]; exact hl
  have cell : ∀ i, i < len → ∃ zs : List Int, zs.length ≤ maxLen ∧ ∃ (Ai : Option Addr) (ci : Nat), zs.length ≤ ci ∧ w.cell? (a.add i) = some (.slice Ai zs.length ci) ∧ Rds .i64 w w.heap.size Ai zs := by
    intro i hil
    obtain ⟨hc, htr⟩ := hi i (by omega)
    rcases open_ints he hT hT1 htr with ⟨hv, _⟩ | ⟨x, l, c, zs, hv, _, hl2, hm2, hz, _, hcell, hwz⟩
    · have hv' : V i = .slice none 0 0 := by simpa using hv
      exact ⟨[], Nat.zero_le _, none, 0, Nat.le_refl _, by rw [hc, hv']; rfl, .inl rfl⟩
    · have hv' : V i = .slice (some x) l c := by simpa using hv
      have hz' : zs.length = c := by simpa using hz
      have hzl : (zs.take l).length = l := by simp; omega
      exact ⟨zs.take l, by rw [hzl]; omega, some x, c, by rw [hzl]; exact hl2, by rw [hc, hv', hzl], (Rdw.of_row hl2 hm2 hz' hcell hwz).1⟩
  obtain ⟨zs, hzl, hzz⟩ := lists_of len cell
  subst hzl
  refine ⟨some a, cap, zs, hcs, hl, by omega, ?_, fun i hi => (hzz i hi).1⟩
  by_cases h0 : zs.length = 0
  · exact .inl (List.eq_nil_of_length_eq_zero h0)
  · obtain ⟨_, A0, c0, _, k0, _⟩ := hzz 0 (by omega)
    have hs : a.spot = none := by simpa [Addr.add] using World.cell?_spot k0
    have hbk := World.block_lt_of_cell? w _ k0
    rw [add_spot hs] at hbk
    refine .inr ⟨a.block, a.off, ?_, hbk, fun j hj => ?_⟩
    · cases a; simp at hs; subst hs; rfl
    · obtain ⟨_, Ai, ci, k1, k2, k3⟩ := hzz j hj
      rw [add_spot hs] at k2
      exact ⟨Ai, ci, k1, k2, k3⟩
end
theorem GS.argSS {W0 w : World} {L : List Rg} {Bs : List Bxg} (h : GS W0 w L Bs) {A : Option Addr} {xss : List (List Int)} (hr : Rdss W0 W0.heap.size A xss) : Rdss w w.heap.size A xss := (hr.below h.1).more h.1.size
end Go.Proofs.Ytkjebidkkopalaa
