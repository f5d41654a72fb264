/- A slice of images, as an argument, reads as images. -/
import Derived.Deep.Slices
import Derived.ChangeSame
import Derived.Test.YtfeldhhbnhdodaaRows
import Derived.Test.YtfeldhhbnhdodaaIml
namespace Go.Proofs.Ytfeldhhbnhdodaa
open Go.ChangeShapes Go.WideShapes Go.Deep Go.RowKit
set_option linter.unusedSimpArgs false
set_option linter.unusedVariables false

theorem images_of {P : Nat → Imv → Prop} : ∀ N : Nat, (∀ i, i < N → ∃ n, P i n) → ∃ zs : List Imv, zs.length = N ∧ ∀ i, i < N → P i (imv zs i)
  | 0, _ => ⟨[], rfl, fun i hi => by omega⟩
  | N + 1, h => by
    obtain ⟨zs, hl, hz⟩ := images_of N (fun i hi => h i (by omega))
    obtain ⟨n, hn⟩ := h N (by omega)
    refine ⟨zs ++ [n], by simp [hl], fun i hi => ?_⟩
    by_cases e : i = N
    · subst e
      have : imv (zs ++ [n]) i = n := by unfold imv; simp [List.getD_eq_getElem?_getD, List.getElem?_append_right (show zs.length ≤ i by omega), hl]
      rw [this]; exact hn
    · have hi' : i < N := by omega
      have : imv (zs ++ [n]) i = imv zs i := by unfold imv; simp [List.getD_eq_getElem?_getD, List.getElem?_append_left (show i < zs.length by omega)]
      rw [this]; exact hz i hi'
section
variable {H : Type} {enc : TypeId × Value → H} {P : Program} {w : World} {base : Nat} {held : Bool}
theorem open_images {t e T L : TypeId} {fs : Array Field} {fuel : Nat} {cs : List Value} {x : DataW H × List MemPlace} (ht : P.underlying t = some (.slice e)) (he : P.underlying e = some (.struct fs)) (hT : P.underlying T = some (.int .i64)) (hL : P.underlying L = some (.slice T))
    (hsz : fs.size = 4) (hC : P.cellsOf e = 4) (hT1 : P.cellsOf T = 1) (hL1 : P.cellsOf L = 1) (hf : ∀ (j : Nat) (f : Field), fs[j]? = some f → f.offset = j ∧ f.type = if j < 3 then T else L) (h : DataW.trod enc P w base (fun _ => true) held fuel t cs = some x) :
    ∃ (A : Option Addr) (cap : Nat) (ms : List Imv), cs = [.slice A ms.length cap] ∧ ms.length ≤ cap ∧ ms.length ≤ maxLen ∧ Rdim w w.heap.size A ms ∧ ∀ i, i < ms.length → (imv ms i).ds.length ≤ maxLen := by
  rcases open_slice ht h with ⟨hcs, _⟩ | ⟨a, len, cap, m, n, D, Pl, hcs, hb, hl, hm, hmm, _, hi⟩
  · exact ⟨none, 0, [], hcs, Nat.le_refl _, Nat.zero_le _, .inl rfl, fun i hi => by simp at hi⟩
  have hlm : len ≤ m := by rw [hmm]; simpa using hl
  have cell : ∀ i, i < len → ∃ v : Imv, v.ds.length ≤ maxLen ∧ ∃ (Ai : Option Addr) (ci : Nat), v.ds.length ≤ ci ∧ w.cell? (a.add (i * 4)) = some (.int .i64 v.X) ∧ w.cell? (a.add (i * 4 + 1)) = some (.int .i64 v.Y) ∧ w.cell? (a.add (i * 4 + 2)) = some (.int .i64 v.Z) ∧
      w.cell? (a.add (i * 4 + 3)) = some (.slice Ai v.ds.length ci) ∧ Rds .i64 w w.heap.size Ai v.ds := by
    intro i hil
    obtain ⟨cs', hc, ht'⟩ := hi i (by omega)
    rw [hC] at hc
    obtain ⟨_, hcl, hat⟩ := World.cells?_some hc
    obtain ⟨xs, n', _, hx, _, hlen, hg⟩ := DataW.trod_struct he ht'
    have one : ∀ j, j < 4 → ∃ y, w.cell? (a.add (i * 4 + j)) = some y ∧ ∃ z, DataW.trod enc P w base (fun _ => true) held n' (if j < 3 then T else L) [y] = some z := by
      intro j hj
      have hjf : j < fs.size := by omega
      have hff := hf j fs[j] (Array.getElem?_eq_getElem hjf)
      have h1 := hg j fs[j] (Array.getElem?_eq_getElem hjf)
      have hc1 : P.cellsOf (if j < 3 then T else L) = 1 := by split <;> assumption
      rw [hff.1, hff.2, hc1] at h1
      have hdt : (cs'.drop j).take 1 = [cs'[j]'(by omega)] := by
        rw [List.drop_eq_getElem_cons (by omega)]; rfl
      rw [hdt, show xs[j]? = some (xs[j]'(by omega)) from List.getElem?_eq_getElem (by omega)] at h1
      have hc' := hat j hj
      rw [List.getElem?_eq_getElem (by omega), add_add] at hc'
      exact ⟨_, hc', _, h1⟩
    obtain ⟨y0, c0, z0, t0⟩ := one 0 (by omega)
    obtain ⟨y1, c1, z1, t1⟩ := one 1 (by omega)
    obtain ⟨y2, c2, z2, t2⟩ := one 2 (by omega)
    obtain ⟨y3, c3, z3, t3⟩ := one 3 (by omega)
    obtain ⟨X, hX, _, _⟩ := DataW.trod_int hT t0
    obtain ⟨Y, hY, _, _⟩ := DataW.trod_int hT t1
    obtain ⟨Z, hZ, _, _⟩ := DataW.trod_int hT t2
    have hX : y0 = .int .i64 X := by simpa using hX
    have hY : y1 = .int .i64 Y := by simpa using hY
    have hZ : y2 = .int .i64 Z := by simpa using hZ
    subst hX hY hZ
    rcases open_ints hL hT hT1 t3 with ⟨hv, _⟩ | ⟨x, l, c, zs, hv, _, hl2, hm2, hz, _, hcell, hwz⟩
    · have hv' : y3 = .slice none 0 0 := by simpa using hv
      subst hv'
      exact ⟨⟨X, Y, Z, []⟩, Nat.zero_le _, none, 0, Nat.le_refl _, c0, c1, c2, c3, .inl rfl⟩
    · have hv' : y3 = .slice (some x) l c := by simpa using hv
      subst hv'
      have hz' : zs.length = c := by simpa using hz
      have hzl : (zs.take l).length = l := by simp; omega
      exact ⟨⟨X, Y, Z, zs.take l⟩, by show (zs.take l).length ≤ _; rw [hzl]; omega, some x, c, by show (zs.take l).length ≤ _; rw [hzl]; exact hl2, c0, c1, c2, by show w.cell? _ = some (Value.slice (some x) (zs.take l).length c); rw [hzl]; exact c3, (Rdw.of_row hl2 hm2 hz' hcell hwz).1⟩
  obtain ⟨ms, hml, hmz⟩ := images_of len cell
  subst hml
  refine ⟨some a, cap, ms, hcs, hl, by omega, ?_, fun i hi => (hmz i hi).1⟩
  by_cases h0 : ms.length = 0
  · exact .inl (List.eq_nil_of_length_eq_zero h0)
  · obtain ⟨_, A0, q0, _, k0, _⟩ := hmz 0 (by omega)
    have hs : a.spot = none := by simpa [Addr.add] using World.cell?_spot k0
    have hbk := World.block_lt_of_cell? w _ k0
    rw [add_spot hs] at hbk
    refine .inr ⟨a.block, a.off, ?_, hbk, fun j hj => ?_⟩
    · cases a; simp at hs; subst hs; rfl
    · obtain ⟨_, Ai, ci, k1, x0, x1, x2, x3, k3⟩ := hmz j hj
      rw [add_spot hs] at x0 x1 x2 x3
      exact ⟨Ai, ci, k1, x0, x1, x2, x3, k3⟩
end
theorem GS.argIM {W0 w : World} {L : List Rg} {Bs : List Bxg} (h : GS W0 w L Bs) {A : Option Addr} {ms : List Imv} (hr : Rdim W0 W0.heap.size A ms) : Rdim w w.heap.size A ms := (hr.below h.1).more h.1.size
end Go.Proofs.Ytfeldhhbnhdodaa
