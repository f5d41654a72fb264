/- Contracts of MirrorImage and TransposeImage in the program. -/
import Derived.Test.YtolifmgkkkclkaaGridE
import Derived.Test.YtolifmgkkkclkaaInvI
namespace Go.Proofs.Ytolifmgkkkclkaa
open Go.RowKit Go.Shelf
set_option linter.unusedSimpArgs false
set_option linter.unusedVariables false

theorem keep4 {W W' : World} {g : Nat} {B : Nat} {u0 u1 u2 u3 : Option Value} (hB : Below B W W') (hg : g < B) (c0 : W.cell? ⟨g, 0, none⟩ = u0) (c1 : W.cell? ⟨g, 1, none⟩ = u1) (c2 : W.cell? ⟨g, 2, none⟩ = u2) (c3 : W.cell? ⟨g, 3, none⟩ = u3) :
    W'.cell? ⟨g, 0, none⟩ = u0 ∧ W'.cell? ⟨g, 1, none⟩ = u1 ∧ W'.cell? ⟨g, 2, none⟩ = u2 ∧ W'.cell? ⟨g, 3, none⟩ = u3 :=
  ⟨(hB.cell (p := ⟨g, 0, none⟩) hg).trans c0, (hB.cell (p := ⟨g, 1, none⟩) hg).trans c1, (hB.cell (p := ⟨g, 2, none⟩) hg).trans c2, (hB.cell (p := ⟨g, 3, none⟩) hg).trans c3⟩
/-- A valid image in natural numbers. -/
theorem vim_nat {W H P : Int} {xs : List Int} (h : vim W H P xs = true) : ∃ w h p : Nat, W = w ∧ H = h ∧ P = p ∧ 1 ≤ w ∧ w ≤ 16 ∧ 1 ≤ h ∧ h ≤ 16 ∧ 1 ≤ p ∧ p ≤ 4 ∧ xs.length = w * h * p ∧ ∀ j, j < xs.length → 0 ≤ xs.getD j 0 ∧ xs.getD j 0 ≤ 255 := by
  have h' : (vsh W H P && (decide ((xs.length : Int) = W * H * P) && allB 0 255 xs)) = true := h
  simp only [Bool.and_eq_true, decide_eq_true_eq] at h'
  obtain ⟨hs, hl, hb⟩ := h'
  obtain ⟨hW, hH, hP, _⟩ := vsh_bd hs
  obtain ⟨w, rfl⟩ := Int.eq_ofNat_of_zero_le (show 0 ≤ W by omega)
  obtain ⟨hh, rfl⟩ := Int.eq_ofNat_of_zero_le (show 0 ≤ H by omega)
  obtain ⟨p, rfl⟩ := Int.eq_ofNat_of_zero_le (show 0 ≤ P by omega)
  refine ⟨w, hh, p, rfl, rfl, rfl, by omega, by omega, by omega, by omega, by omega, by omega, ?_, fun j hj => ?_⟩
  · rw [← Int.natCast_mul, ← Int.natCast_mul] at hl; exact Int.ofNat.inj hl
  · have := of_decide_eq_true hb (xs[j]) (List.getElem_mem hj)
    simpa [hj] using this
end Go.Proofs.Ytolifmgkkkclkaa
