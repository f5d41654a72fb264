/- A slice of structs of three numbers, as an argument, reads as a flat list of numbers. -/
import Derived.Deep.Slices
import Derived.ChangeSame
import Derived.Test.YtgieijogopcjnaaRows
import Derived.Test.YtgieijogopcjnaaLists
namespace Go.Proofs.Ytgieijogopcjnaa
open Go.ChangeShapes Go.WideShapes Go.Deep Go.RowKit
set_option linter.unusedSimpArgs false
set_option linter.unusedVariables false

theorem list_of {P : Nat → Int → Prop} : ∀ N : Nat, (∀ i, i < N → ∃ n, P i n) → ∃ zs : List Int, zs.length = N ∧ ∀ i, i < N → P i (zs.getD i 0)
  | 0, _ => ⟨[], rfl, fun i hi => by omega⟩
  | N + 1, h => by
    obtain ⟨zs, hl, hz⟩ := list_of N (fun i hi => h i (by omega))
    obtain ⟨n, hn⟩ := h N (by omega)
    refine ⟨zs ++ [n], by simp [hl], fun i hi => ?_⟩
    by_cases e : i = N
    · subst e
      have : (zs ++ [n]).getD i 0 = n := by simp [List.getD_eq_getElem?_getD, List.getElem?_append_right (show zs.length ≤ i by omega), hl]
      rw [this]; exact hn
    · have hi' : i < N := by omega
      have : (zs ++ [n]).getD i 0 = zs.getD i 0 := by simp [List.getD_eq_getElem?_getD, List.getElem?_append_left (show i < zs.length by omega)]
      rw [this]; exact hz i hi'
section
variable {H : Type} {enc : TypeId × Value → H} {P : Program} {w : World} {base : Nat} {spare : Nat → Bool} {held : Bool}
theorem open_flat {t e T : TypeId} {fs : Array Field} {C : Nat} {fuel : Nat} {cs : List Value} {x : DataW H × List MemPlace} (ht : P.underlying t = some (.slice e)) (he : P.underlying e = some (.struct fs)) (hT : P.underlying T = some (.int .i64))
    (h0 : 0 < C) (hsz : fs.size = C) (hC : P.cellsOf e = C) (hT1 : P.cellsOf T = 1) (hf : ∀ (j : Nat) (f : Field), fs[j]? = some f → f.offset = j ∧ f.type = T) (h : DataW.trod enc P w base spare held fuel t cs = some x) :
    ∃ (A : Option Addr) (len cap : Nat) (zs : List Int), cs = [.slice A len cap] ∧ zs.length = C * len ∧ len ≤ cap ∧ cap ≤ maxLen ∧ Rds .i64 w w.heap.size A zs ∧ ∀ n ∈ zs, (Lit.int .i64 n).wf = true := by
  rcases open_slice ht h with ⟨hcs, _⟩ | ⟨a, len, cap, m, n, D, Pl, hcs, hb, hl, hm, hmm, _, hi⟩
  · exact ⟨none, 0, 0, [], hcs, by simp, Nat.le_refl _, Nat.zero_le _, .inl rfl, by simp⟩
  have hlm : len ≤ m := by subst hmm; split <;> omega
  have cell : ∀ k, k < C * len → ∃ z : Int, w.cell? (a.add k) = some (.int .i64 z) ∧ (Lit.int .i64 z).wf = true := by
    intro k hk
    have hq : k / C < len := Nat.div_lt_of_lt_mul hk
    obtain ⟨cs', hc, ht'⟩ := hi (k / C) (by omega)
    rw [hC] at hc
    obtain ⟨_, hcl, hat⟩ := World.cells?_some hc
    obtain ⟨xs, n', _, hx, _, hlen, hg⟩ := DataW.trod_struct he ht'
    have hj : k % C < C := Nat.mod_lt _ h0
    have hjf : k % C < fs.size := by omega
    have hff := hf (k % C) fs[k % C] (Array.getElem?_eq_getElem hjf)
    have h1 := hg (k % C) fs[k % C] (Array.getElem?_eq_getElem hjf)
    rw [hff.1, hff.2, hT1] at h1
    have hdt : (cs'.drop (k % C)).take 1 = [cs'[k % C]'(by omega)] := by
      rw [List.drop_eq_getElem_cons (by omega)]; rfl
    rw [hdt] at h1
    have hxs : xs[k % C]? = some (xs[k % C]'(by omega)) := List.getElem?_eq_getElem (by omega)
    rw [hxs] at h1
    obtain ⟨z, hz, _, hwf⟩ := DataW.trod_int hT h1
    have hc' := hat (k % C) hj
    rw [List.getElem?_eq_getElem (by omega)] at hc'
    have hzz : cs'[k % C]'(by omega) = .int .i64 z := by simpa using hz
    rw [hzz, add_add, Nat.mul_comm, Nat.div_add_mod] at hc'
    exact ⟨z, hc', hwf⟩
  obtain ⟨zs, hzl, hzz⟩ := list_of (C * len) cell
  refine ⟨some a, len, cap, zs, hcs, hzl, hl, hm, ?_, ?_⟩
  · by_cases hlen0 : C * len = 0
    · exact .inl (List.eq_nil_of_length_eq_zero (by omega))
    · have c0 := (hzz 0 (by omega)).1
      have hs : a.spot = none := by simpa [Addr.add] using World.cell?_spot c0
      have hbk := World.block_lt_of_cell? w _ c0
      rw [add_spot hs] at hbk
      refine .inr ⟨a.block, a.off, ?_, hbk, fun j hj => ?_⟩
      · cases a; simp at hs; subst hs; rfl
      · have := (hzz j (by omega)).1
        rwa [add_spot hs] at this
  · intro n hn
    obtain ⟨i, hi', rfl⟩ := List.mem_iff_getElem.1 hn
    have := (hzz i (by omega)).2
    simpa [List.getD_eq_getElem?_getD, hi'] using this
end
end Go.Proofs.Ytgieijogopcjnaa
