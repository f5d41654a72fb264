/- Marking a pixel that lies in a box of a color, and the state of an exact law behind it. -/
import Derived.Test.YtpgicdnbdjdceaaImgS
import Derived.Test.YtpgicdnbdjdceaaPixI
namespace Go.Proofs.Ytpgicdnbdjdceaa
open Go.RowKit Go.Shelf
set_option linter.unusedSimpArgs false
set_option linter.unusedVariables false

theorem own_ne_box {w : World} {g : Nat} {T : TypeId} {cs : Array Value} {base : Nat} {v : Value} {xs : List Int} (h : Bx w g T cs) (hne : T ≠ 3) (hO : Own w base v xs) : v.ownBlock ≠ some g := by
  intro e
  rcases hO.2 with ⟨rfl, _⟩ | ⟨g', cap, cur, rfl, _, hh, _⟩
  · simp [Value.ownBlock] at e
  · have : g' = g := by simpa [Value.ownBlock] using e
    subst this
    unfold Bx at h
    rw [hh] at h
    injection h with h
    injection h with _ ht
    exact hne ht.symm
/-- A box's cells are new; nothing else is. -/
theorem ISt.setb {W0 w w' : World} {L : List Rw} {Bs1 Bs2 : List Bxs} {g : Nat} {T : TypeId} {cs cs' : Array Value} (h : ISt W0 w L (Bs1 ++ ⟨g, T, cs⟩ :: Bs2)) (hW : W0.heap.size ≤ g) (hne : ∀ b ∈ Bs1 ++ Bs2, b.g ≠ g) (hX : Bx w' g T cs') (hG : w.grownBy w' (some g)) :
    ISt W0 w' L (Bs1 ++ ⟨g, T, cs'⟩ :: Bs2) := by
  have hb := h.2 ⟨g, T, cs⟩ (by simp)
  refine ⟨⟨h.1.1.grown hG h.1.1.size (fun k hk => by injection hk with hk; omega), fun t ht => ?_, h.1.2.2⟩, fun b hm => ?_⟩
  · have ht' := h.1.2.1 t ht
    refine ⟨⟨ht'.1.1.keep fun k hk => hG.block k (ht'.1.1.lt k hk).2 (fun e => own_ne_box hb.1 hb.2 ht'.1.1 (by rw [hk]; exact e)), ht'.1.2⟩, ht'.2.1, Nat.le_trans ht'.2.2 hG.size⟩
  · have hcase : b = ⟨g, T, cs'⟩ ∨ b ∈ Bs1 ++ Bs2 := by
      rcases List.mem_append.1 hm with h1 | h1
      · exact .inr (List.mem_append.2 (.inl h1))
      · rcases List.mem_cons.1 h1 with h2 | h2
        · exact .inl h2
        · exact .inr (List.mem_append.2 (.inr h2))
    rcases hcase with rfl | hm'
    · exact ⟨hX, hb.2⟩
    · have hold : b ∈ Bs1 ++ ⟨g, T, cs⟩ :: Bs2 := by
        rcases List.mem_append.1 hm' with h1 | h1
        · exact List.mem_append.2 (.inl h1)
        · exact List.mem_append.2 (.inr (List.mem_cons.2 (.inr h1)))
      have hb' := h.2 b hold
      exact ⟨hb'.1.kept hG (by simpa using hne b hm'), hb'.2⟩
/-- A box that the call made. -/
theorem ISt.addb {W0 w w' : World} {L : List Rw} {Bs : List Bxs} {g : Nat} {T : TypeId} {cs : Array Value} (h : ISt W0 w L Bs) (hb : Below w.heap.size w w') (hX : Bx w' g T cs) (hT : T ≠ 3) : ISt W0 w' L (⟨g, T, cs⟩ :: Bs) :=
  ⟨(h.call hb).1, fun b hm => by
    rcases List.mem_cons.1 hm with rfl | hm
    · exact ⟨hX, hT⟩
    · exact (h.call hb).2 b hm⟩
theorem ISt.bx {W0 w : World} {L : List Rw} {Bs : List Bxs} (h : ISt W0 w L Bs) {g : Nat} {T : TypeId} {cs : Array Value} (hm : ⟨g, T, cs⟩ ∈ Bs) : Bx w g T cs := (h.2 _ hm).1
set_option maxHeartbeats 2000000 in
theorem markC_any (g p : Nat) (hp : p ≤ 4) (T : TypeId) (cs : Array Value) (hcs : cs.size = 4) (k : Int) (w : World) (hB : Bx w g T cs) (hk0 : 0 ≤ k) (hk1 : k ≤ 100000000) :
    Calls Try.prog 41 #[.slice (some ⟨g, 0, none⟩) p p, .int .i64 k] w fun e w' => e = .returned (.int .i64 (k + p)) ∧ w.grownBy w' (some g) ∧ ∃ cs', Bx w' g T cs' ∧ cs'.size = 4 ∧ ∀ i, i < p → cs'[i]? = some (.int .i64 (k + i)) := by
  have HB := Lib.hid hB
  have Hcs := Lib.hid hcs
  clear hB hcs
  go_enter Try.func41, Try.ntmps41
  go_wp2
  go_loopw [1, 5] (fun kk i wr => ∃ (j : Nat) (ds : Array Value), j ≤ p ∧ i = .int .i64 j ∧ kk = .int .i64 (k + j) ∧ Hid (Bx wr g T ds ∧ ds.size = 4 ∧ (∀ i, i < j → ds[i]? = some (.int .i64 (k + i))) ∧ w.grownBy wr (some g))) (fun _ i _ => p - (intOf i).toNat)
  case atStart => exact ⟨0, cs, Nat.zero_le _, rfl, by simp, Lib.hid ⟨HB.out, Hcs.out, fun i hi => by omega, World.grownBy.refl _ _⟩⟩
  case round =>
    obtain ⟨j, ds, hj, rfl, rfl, hI⟩ := hrel
    obtain ⟨hX, hds, hm, hG⟩ := hI.out
    by_cases hlt : j < p
    · have hj4 : j < ds.size := by omega
      have hcw : wr.cell? ⟨g, j, none⟩ = some ds[j] := by rw [cell_of_row wr g j _ _ _ hX]; simp [hj4]
      have hfw : wr.frozen? ⟨g, j, none⟩ = false := frozen_of_row wr g j _ _ hX
      have hset := heap_setCell_same wr g j _ T (.int .i64 (k + j)) hX
      have HN : Hid (Bx (wr.setCell ⟨g, j, none⟩ (.int .i64 (k + j))) g T (ds.setIfInBounds j (.int .i64 (k + j))) ∧ (ds.setIfInBounds j (.int .i64 (k + j))).size = 4 ∧ (∀ i, i < j + 1 → (ds.setIfInBounds j (.int .i64 (k + j)))[i]? = some (.int .i64 (k + i))) ∧ w.grownBy (wr.setCell ⟨g, j, none⟩ (.int .i64 (k + j))) (some g)) := Lib.hid ⟨hset, by simp [hds], fun i hi => by
        rw [Array.getElem?_setIfInBounds]
        by_cases e : j = i
        · subst e; simp [hj4]
        · rw [if_neg e]; exact hm i (by omega), gtrans hG ⟨rfl, rfl, rfl, by simp [World.setCell], fun q _ hq => heap_setCell_other wr ⟨g, j, none⟩ q _ (fun e => hq (by simp [e]))⟩⟩
      clear hX hds hm hG hI hset
      generalize ds[j] = y at *
      go_wp2
      go_roundw
      case rel => exact ⟨j + 1, _, by omega, by go_num, by go_num, HN⟩
      case measure => simp [intOf]; omega
    · have hj' : j = p := by omega
      have HE : Hid (w.grownBy wr (some g) ∧ ∃ cs', Bx wr g T cs' ∧ cs'.size = 4 ∧ ∀ i, i < p → cs'[i]? = some (.int .i64 (k + i))) := Lib.hid ⟨hG, ds, hX, hds, fun i hi => hm i (by omega)⟩
      clear hX hds hm hG hI
      go_wp2
      go_ret
      subst hj'
      exact ⟨rfl, HE.out.1, HE.out.2⟩
theorem marks_rds {w : World} {g p : Nat} {T : TypeId} {cs : Array Value} {k : Int} (hX : Bx w g T cs) (hm : ∀ i, i < p → cs[i]? = some (.int .i64 (k + i))) : Rds .i64 w w.heap.size (some ⟨g, 0, none⟩) (marks k p) := by
  refine .inr ⟨g, 0, rfl, hX.lt, fun j hj => ?_⟩
  rw [marks_len] at hj
  rw [Nat.zero_add, cell_of_row w g j _ _ _ hX, hm j hj, marks_get k p j hj]
end Go.Proofs.Ytpgicdnbdjdceaa
