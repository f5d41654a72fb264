/- A map of the call's own whose keys are colors: which colors it has. -/
import Derived.Test.YtjcohmljpokgcaaMpc
namespace Go.Proofs.Ytjcohmljpokgcaa
open Go.RowKit Go.WideMaps Go.WideElems Go.Maps
set_option linter.unusedSimpArgs false
set_option linter.unusedVariables false

theorem plainElem_bool_inv {H : Type} {P : Program} {e : TypeId} (he : P.underlying e = some .bool) {v : Value} {z : DataW H × List MemPlace} (h : plainElem P e v = some z) : ∃ a, v = .bool a ∧ z = (.lit (.bool a), []) := by
  unfold plainElem at h
  rw [he] at h
  cases v <;> simp at h
  subst h
  exact ⟨_, rfl, rfl⟩
/-- Block b is a map of at most n colors: true for the pixels of L, nothing for others. -/
def MpB (w : World) (b n P : Nat) (L : List (List Int)) : Prop :=
  ∃ D : DataW Unit, IsMap D ∧ w.ownsMap Try.prog 62 (plainElem Try.prog 4) b n D ∧ ∀ ys : List Int, ys.length = P → allB 0 255 ys = true → (ys ∉ L → ∀ z, D.atKey (ckl ys) z = z) ∧ (ys ∈ L → ∀ z, D.atKey (ckl ys) z = .lit (.bool true))
theorem MpB.made (w : World) (P : Nat) : MpB (w.alloc (.map #[] 0)) w.heap.size 0 P [] :=
  ⟨.map [], isMap_empty, World.ownsMap_made w Try.prog 62 _, fun ys _ _ => ⟨fun _ z => atKey_of_not_has (by simp [has_eq]) z, fun h => by simp at h⟩⟩
theorem MpB.kept {w w' : World} {b n P : Nat} {L : List (List Int)} (h : MpB w b n P L) (hk : w'.heap[b]? = w.heap[b]?) : MpB w' b n P L := by
  obtain ⟨D, h1, ⟨es, clock, hb, r⟩, h3⟩ := h
  exact ⟨D, h1, ⟨es, clock, hk.trans hb, r⟩, h3⟩
theorem MpB.mono {w : World} {b n P : Nat} {L : List (List Int)} (h : MpB w b n P L) {m : Nat} (hm : n ≤ m) : MpB w b m P L := by
  obtain ⟨D, h1, h2, h3⟩ := h
  exact ⟨D, h1, h2.mono hm, h3⟩
theorem MpB.lt {w : World} {b n P : Nat} {L : List (List Int)} (h : MpB w b n P L) : b < w.heap.size := by
  obtain ⟨D, h1, h2, h3⟩ := h
  exact h2.lt
theorem MpB.below {w w' : World} {b n P : Nat} {L : List (List Int)} (h : MpB w b n P L) (hB : Below w.heap.size w w') : MpB w' b n P L := h.kept (hB.block b h.lt)
theorem mpb_zero (w : World) : (zeroValue 4).run Try.prog w = .ok (.bool false) w := by kernel_rfl
/-- 'm[k]'. -/
theorem MpB.get {w : World} {b n P : Nat} {L : List (List Int)} (h : MpB w b n P L) {ys : List Int} (hl : ys.length = P) (hy : allB 0 255 ys = true) :
    (Instr.lookup 78 (.map (some b)) (colV (fun p => ys.getD p 0)) false).run Try.prog w = .ok (.bool (decide (ys ∈ L))) w := by
  obtain ⟨D, h1, ⟨es, clock, hb, F, hs, rfl⟩, h3⟩ := h
  have h4 := h3 ys hl hy
  rcases fit_look false colKeyed Try.underlying78 (mpb_zero w) hb F (keyOf_col hy) with ⟨hrun, _, hat⟩ | ⟨e0, y, _, _, hrun, hR, hat, _⟩
  · by_cases hm : ys ∈ L
    · have a1 := (hat .nil).symm.trans (h4.2 hm .nil)
      simp at a1
    · rw [hrun, decide_eq_false hm]; rfl
  · obtain ⟨c, hv, hz⟩ := plainElem_bool_inv Try.underlying4 hR
    by_cases hm : ys ∈ L
    · have a1 := (hat .nil).symm.trans (h4.2 hm .nil)
      rw [hz] at a1
      simp at a1
      rw [hrun, hv, a1, decide_eq_true hm]
      rfl
    · have a1 := (hat (.lit (.int .i64 0))).symm.trans (h4.1 hm _)
      rw [hz] at a1
      simp at a1
/-- 'm[k] = true'. -/
theorem MpB.store {w : World} {b n P : Nat} {L : List (List Int)} (hP : P ≤ 4) (h : MpB w b n P L) {ys : List Int} (hl : ys.length = P) (hy : allB 0 255 ys = true) (hn : n < maxLen) :
    ∃ w', (Instr.mapUpdate 78 (.map (some b)) (colV (fun p => ys.getD p 0)) (.bool true)).run Try.prog w = .ok () w' ∧ MpB w' b (n + 1) P (L ++ [ys]) ∧ w.grownBy w' (some b) := by
  obtain ⟨D, h1, h2, h3⟩ := h
  obtain ⟨w', hrun, ho, hg⟩ := h2.update colKeyed Try.underlying78 hn (keyOf_col hy) (plainElem_bool Try.underlying4 true)
  refine ⟨w', hrun, ⟨D.put (ckl ys) (.lit (.bool true)), h1.put _ _, ho, fun zs hz hzb => ?_⟩, hg⟩
  by_cases e : ckl zs = ckl ys
  · have := ckl_inj hP hz hl hzb hy e
    subst this
    exact ⟨fun hn => absurd (by simp) hn, fun _ z => atKey_put_same h1 (colKeyed.key (keyOf_col hy)) _ z⟩
  · have hne : zs ≠ ys := fun h => e (by rw [h])
    have h4 := h3 zs hz hzb
    refine ⟨fun hn z => (atKey_put_other e _ z).trans (h4.1 (fun h => hn (by simp [h])) z), fun hm z => (atKey_put_other e _ z).trans (h4.2 ?_ z)⟩
    rcases List.mem_append.1 hm with h | h
    · exact h
    · simp at h; exact absurd h hne
end Go.Proofs.Ytjcohmljpokgcaa
