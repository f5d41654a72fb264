/- PaletteOf of the model: its answer owns its memory. -/
import Derived.Test.YtjcohmljpokgcaaPalS
import Derived.Test.YtjcohmljpokgcaaLsg
namespace Go.Proofs.Ytjcohmljpokgcaa
open Go.RowKit
set_option linter.unusedSimpArgs false
set_option linter.unusedVariables false
set_option maxRecDepth 20000

theorem GS.tailR {W0 w : World} {t : Rg} {L : List Rg} {Bs : List Bxg} (h : GS W0 w (t :: L) Bs) : GS W0 w L Bs :=
  ⟨h.1, fun s hs => h.2.1 s (by simp [hs]), (List.pairwise_cons.1 h.2.2.1).2, fun b hm => ⟨(h.2.2.2.1 b hm).1, (h.2.2.2.1 b hm).2.1, fun s hs => (h.2.2.2.1 b hm).2.2 s (by simp [hs])⟩, h.2.2.2.2⟩
/-- What PaletteOf answers. -/
def palOk (W H P : Int) (xs : List Int) : Bool := vim W H P xs && decide ((acL P.toNat xs (W.toNat * H.toNat)).length ≤ 16)
def palL (W H P : Int) (xs : List Int) : List (List Int) := cond (palOk W H P xs) (acL P.toNat xs (W.toNat * H.toNat)) []
def PalM (W H P : Int) (xs : List Int) (w : World) (e : Ending) (w' : World) : Prop :=
  ∃ M A c, e = .returned (.tuple #[.slice A (palL W H P xs).length c, .bool (palOk W H P xs)]) ∧ (palL W H P xs).length ≤ c ∧ LsM M A c (palL W H P xs) ∧ GS w w' M []
theorem PalM.mk {W H P : Int} {xs : List Int} {w w' : World} {v : Value} {yss : List (List Int)} {ok : Bool} (h : LsG w w' v yss [] 0) (h1 : palL W H P xs = yss) (h2 : palOk W H P xs = ok) : PalM W H P xs w (.returned (.tuple #[v, .bool ok])) w' := by
  obtain ⟨M, A, c, rfl, hc, hM, hG, _⟩ := h
  unfold PalM
  rw [h1, h2]
  exact ⟨M, A, c, rfl, hc, hM, hG⟩
theorem LsG.below' {W0 w : World} {Bs : List Bxg} (hB : Below W0.heap.size W0 w) : LsG W0 w (.slice .none 0 0) [] [] 0 := LsG.nil ⟨hB, by simp, .nil, by simp, .nil⟩ (Nat.zero_le _)
theorem LsG.from {W0 w w' : World} {v : Value} {xss : List (List Int)} (hB : Below W0.heap.size W0 w) (h : LsG w w' v xss [] 0) : LsG W0 w' v xss [] 0 := by
  obtain ⟨M, A, c, h1, h2, h3, h4, h5⟩ := h
  have hs := hB.size
  exact ⟨M, A, c, h1, h2, h3, ⟨hB.trans (h4.1.mono hs), fun t ht => ⟨(h4.2.1 t ht).1, by have := (h4.2.1 t ht).2.1; omega, (h4.2.1 t ht).2.2⟩, h4.2.2.1, by simp, .nil⟩, h5⟩
end Go.Proofs.Ytjcohmljpokgcaa
