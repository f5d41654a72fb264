/- Filters that are the same. -/
import Derived.Test.YtfplmegpkhlhfaaFilterD
namespace Go.Proofs.Ytfplmegpkhlhfaa
open Go.RowKit
set_option linter.unusedSimpArgs false
set_option linter.unusedVariables false

theorem ext_getD {a b : List Int} (hl : a.length = b.length) (h : ∀ i, i < a.length → a.getD i 0 = b.getD i 0) : a = b := by
  refine List.ext_getElem hl fun i h1 h2 => ?_
  have := h i h1
  rwa [List.getD_eq_getElem?_getD, List.getD_eq_getElem?_getD, List.getElem?_eq_getElem h1, List.getElem?_eq_getElem h2] at this
theorem zeros_get (n i : Nat) : (List.replicate n (0 : Int)).getD i 0 = 0 := by
  rw [List.getD_eq_getElem?_getD, List.getElem?_replicate]
  split <;> rfl
theorem zeros_byt (n : Nat) : Byt (List.replicate n (0 : Int)) := fun j => by rw [zeros_get]; omega
theorem rok_rows {xs bs cs : List Int} {S : Nat} (hok : rok xs bs (S : Int) = true) (hc : cs.length = xs.length) (hb : Byt cs) : rok xs cs (S : Int) = true := by
  obtain ⟨h1, h2, h3, h4, h5⟩ := of_decide_eq_true hok
  exact decide_eq_true ⟨h1, hc, h3, h4, decide_eq_true (of_byt hb)⟩
theorem same_up {xs bs : List Int} {st : Int} (hok : rok xs bs st = true) : fil 2 xs xs st = List.replicate xs.length 0 := by
  obtain ⟨S, rfl, hS1, hS4, h64, hlen, hbx, hbb⟩ := rok_parts hok
  rw [fil_yes (by omega) (by omega) (rok_rows hok rfl hbx)]
  refine ext_getD (by rw [flt_len, List.length_replicate]) fun i hi => ?_
  rw [flt_len] at hi
  rw [flt_get _ _ _ _ _ _ hi, zeros_get]
  have e : gs 2 xs xs S i = xs.getD i 0 := by simp [gs, pred]
  rw [e, Int.sub_self]; rfl
theorem same_none {xs bs : List Int} {st : Int} (hok : rok xs bs st = true) : fil 0 xs bs st = xs := by
  obtain ⟨S, rfl, hS1, hS4, h64, hlen, hbx, hbb⟩ := rok_parts hok
  rw [fil_yes (by omega) (by omega) hok]
  refine ext_getD (by rw [flt_len]) fun i hi => ?_
  rw [flt_len] at hi
  rw [flt_get _ _ _ _ _ _ hi]
  have e : gs 0 xs bs S i = 0 := by simp [gs, pred]
  have := hbx i
  rw [e]; omega
theorem back_zeros (n s i : Nat) : back (List.replicate n 0) s i = 0 := by
  unfold back
  split
  · exact zeros_get _ _
  · rfl
theorem pae_left (l : Int) : pae l 0 0 = l := by
  unfold pae dist
  rw [if_pos]
  constructor <;> (split <;> split <;> omega)
theorem same_left {xs bs : List Int} {st : Int} (hok : rok xs bs st = true) : fil 4 xs (List.replicate xs.length 0) st = fil 1 xs bs st := by
  obtain ⟨S, rfl, hS1, hS4, h64, hlen, hbx, hbb⟩ := rok_parts hok
  rw [fil_yes (by omega) (by omega) (rok_rows hok (by simp) (zeros_byt _)), fil_yes (by omega) (by omega) hok]
  refine ext_getD (by rw [flt_len, flt_len]) fun i hi => ?_
  rw [flt_len] at hi
  rw [flt_get _ _ _ _ _ _ hi, flt_get _ _ _ _ _ _ hi]
  have e : gs 4 xs (List.replicate xs.length 0) S i = gs 1 xs bs S i := by
    unfold gs
    rw [zeros_get, back_zeros]
    simp only [pred]
    simp [pae_left]
  rw [e]
end Go.Proofs.Ytfplmegpkhlhfaa
