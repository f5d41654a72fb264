/- Valid images as functions of the place, and a box at a known place. -/
import Derived.Test.YtfeldhhbnhdodaaLSt
namespace Go.Proofs.Ytfeldhhbnhdodaa
open Go.RowKit Go.Shelf
set_option linter.unusedSimpArgs false
set_option linter.unusedVariables false

theorem LSt.box2 {W0 w : World} {R : List (Option Addr × List Int)} {Bs : List Bxs} (h : LSt W0 w R Bs) (T : TypeId) (cs : Array Value) (g : Nat) (hg : g = w.heap.size) : LSt W0 (w.alloc (.cells cs T)) R (⟨g, T, cs⟩ :: Bs) := by
  subst hg; exact h.box T cs
/-- An image's numbers are bytes, its shape is valid. -/
def okJ (W H P : Nat) (F : Nat → Nat → Nat → Int) : Prop := (1 ≤ W ∧ W ≤ 16) ∧ (1 ≤ H ∧ H ≤ 16) ∧ (1 ≤ P ∧ P ≤ 4) ∧ ∀ x y p, x < W → y < H → p < P → 0 ≤ F x y p ∧ F x y p ≤ 255
section
variable {W H P : Nat} {F : Nat → Nat → Nat → Int}
theorem okJ.vim (h : okJ W H P F) : vim W H P (img W H P F) = true := vim_img h.1.1 h.1.2 h.2.1.1 h.2.1.2 h.2.2.1.1 h.2.2.1.2 h.2.2.2
theorem okJ.bd (h : okJ W H P F) : (img W H P F).length ≤ 1024 := img_bd F h.1.2 h.2.1.2 h.2.2.1.2
theorem okJ.crop {X0 Y0 bw bh : Nat} (h : okJ W H P F) (h1 : 1 ≤ bw) (h2 : 1 ≤ bh) (hX : X0 + bw ≤ W) (hY : Y0 + bh ≤ H) : okJ bw bh P (fun x y => F (X0 + x) (Y0 + y)) :=
  ⟨⟨h1, by have := h.1.2; omega⟩, ⟨h2, by have := h.2.1.2; omega⟩, h.2.2.1, fun x y p hx hy hp => h.2.2.2 _ _ _ (by omega) (by omega) hp⟩
theorem vim_okJ {W H P : Int} {xs : List Int} (h : Go.Proofs.Ytfeldhhbnhdodaa.vim W H P xs = true) : ∃ (w h p : Nat) (F : Nat → Nat → Nat → Int), W = w ∧ H = h ∧ P = p ∧ xs = img w h p F ∧ okJ w h p F := by
  obtain ⟨W, H, P, rfl, rfl, rfl, hW1, hW, hH1, hH, hP1, hP, hln, hby⟩ := vim_nat h
  exact ⟨W, H, P, pxc W P xs, rfl, rfl, rfl, (img_self hln).symm, ⟨hW1, hW⟩, ⟨hH1, hH⟩, ⟨hP1, hP⟩, pxc_bytes hln hby⟩
end
end Go.Proofs.Ytfeldhhbnhdodaa
