/- Contract of paste in the model, the part in any block but the image's. -/
import Derived.Test.YtklleaojhoklaaaPasteS
namespace Go.Proofs.Ytklleaojhoklaaa
open Go.RowKit Go.Shelf
set_option linter.unusedSimpArgs false
set_option linter.unusedVariables false

theorem Rds.growOff {k : IntKind} {w w' : World} {B g : Nat} {A : Option Addr} {xs : List Int} (h : Rds k w B A xs) (hG : w.grownBy w' (some g)) (hB : B ≤ w.heap.size) (hA : ∀ a : Addr, A = some a → a.block ≠ g) : Rds k w' B A xs := by
  rcases h with h | ⟨b, off, rfl, hb, hc⟩
  · exact .inl h
  · exact .inr ⟨b, off, rfl, hb, fun j hj => (World.cell?_of_block (hG.block b (by omega) (fun e => by injection e with e; exact hA _ rfl e))).trans (hc j hj)⟩
end Go.Proofs.Ytklleaojhoklaaa
