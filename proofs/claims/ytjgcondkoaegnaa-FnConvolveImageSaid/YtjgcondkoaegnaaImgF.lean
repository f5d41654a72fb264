/- Facts of filled images that the laws need. -/
import Derived.Test.YtjgcondkoaegnaaImgL
import Derived.Test.YtjgcondkoaegnaaFillS
namespace Go.Proofs.Ytjgcondkoaegnaa
open Go.RowKit Go.Shelf
set_option linter.unusedSimpArgs false
set_option linter.unusedVariables false

theorem fillOk_nat {W H : Int} {q : List Int} (h : fillOk W H q = true) : ∃ w h : Nat, W = w ∧ H = h ∧ okI w h q.length (fun _ _ p => q.getD p 0) := by
  simp only [fillOk, Bool.and_eq_true] at h
  obtain ⟨hs, hb⟩ := h
  obtain ⟨hW, hH, hP, _⟩ := vsh_bd hs
  obtain ⟨w, rfl⟩ := Int.eq_ofNat_of_zero_le (show 0 ≤ W by omega)
  obtain ⟨hh, rfl⟩ := Int.eq_ofNat_of_zero_le (show 0 ≤ H by omega)
  refine ⟨w, hh, rfl, rfl, ⟨by omega, by omega⟩, ⟨by omega, by omega⟩, ⟨by omega, by omega⟩, fun x y p _ _ hp => ?_⟩
  have := of_decide_eq_true hb (q[p]) (List.getElem_mem hp)
  simpa [hp] using this
theorem iF_C (W H : Int) (q : List Int) (hq : q.length ≤ 2000) : FillC 19 W H q (cond (fillOk W H q) W 0) (cond (fillOk W H q) H 0) (cond (fillOk W H q) (q.length : Int) 0) (cond (fillOk W H q) (fillL W.toNat H.toNat q) []) :=
  fun A c w hr hc => (by first | exact i_FillImage W H A c q w hr (by omega) | exact s_FillImage W H A c q w hr (by omega) : Calls _ _ _ _ _).mono fun _ _ h => mif_sh h rfl rfl rfl rfl
theorem fillOk_of {w h : Nat} {q : List Int} (ok : okI w h q.length (fun _ _ p => q.getD p 0)) : fillOk w h q = true := by
  simp only [fillOk, Bool.and_eq_true]
  refine ⟨?_, allB_yes fun j hj => ok.2.2.2 0 0 j ok.1.1 ok.2.1.1 hj⟩
  simp only [vsh, Bool.and_eq_true, decide_eq_true_eq]
  have h1 := ok.1
  have h2 := ok.2.1
  have h3 := ok.2.2.1
  omega
theorem iF_I {w h : Nat} {q : List Int} (ok : okI w h q.length (fun _ _ p => q.getD p 0)) : FillC 19 w h q w h q.length (img w h q.length (fun _ _ p => q.getD p 0)) := by
  have hc := iF_C w h q (by have := ok.2.2.1; omega)
  rw [fillOk_of ok] at hc
  exact hc
end Go.Proofs.Ytjgcondkoaegnaa
