/- Plain mathematics of chapter 12: lumas and differences. -/
import Derived.Test.YtjgcondkoaegnaaLists
namespace Go.Proofs.Ytjgcondkoaegnaa
set_option linter.unusedSimpArgs false
set_option linter.unusedVariables false

/-- The luma and the differences of red, green and blue. -/
def lumY (r g b : Int) : Int := b + (r - b) / 2 + (g - (b + (r - b) / 2)) / 2
def lumG (r g b : Int) : Int := g - (b + (r - b) / 2)
/-- Red, green and blue of a luma and differences. -/
def rgbB (y o g : Int) : Int := y - g / 2 - o / 2
def rgbG (y g : Int) : Int := g + (y - g / 2)
theorem rgb_lum (r g b : Int) : rgbB (lumY r g b) (r - b) (lumG r g b) = b ∧ rgbG (lumY r g b) (lumG r g b) = g := by
  unfold rgbB rgbG lumY lumG; omega
theorem lum_rgb (y o g : Int) : lumY (o + rgbB y o g) (rgbG y g) (rgbB y o g) = y ∧ lumG (o + rgbB y o g) (rgbG y g) (rgbB y o g) = g := by
  unfold rgbB rgbG lumY lumG; omega
/-- The luma of a list. -/
def lum (xs : List Int) : List Int := if xs.length = 3 ∧ allB 0 255 xs = true then [lumY (xs.getD 0 0) (xs.getD 1 0) (xs.getD 2 0), xs.getD 0 0 - xs.getD 2 0, lumG (xs.getD 0 0) (xs.getD 1 0) (xs.getD 2 0)] else []
def unl (xs : List Int) : List Int := [xs.getD 1 0 + rgbB (xs.getD 0 0) (xs.getD 1 0) (xs.getD 2 0), rgbG (xs.getD 0 0) (xs.getD 2 0), rgbB (xs.getD 0 0) (xs.getD 1 0) (xs.getD 2 0)]
def frlOk (xs : List Int) : Bool := decide (xs.length = 3 ∧ allB (-255) 255 xs = true ∧ allB 0 255 (unl xs) = true)
def frl (xs : List Int) : List Int := if frlOk xs = true then unl xs else []
theorem allB_three {lo hi a b c : Int} : allB lo hi [a, b, c] = true ↔ (lo ≤ a ∧ a ≤ hi) ∧ (lo ≤ b ∧ b ≤ hi) ∧ (lo ≤ c ∧ c ≤ hi) := by simp [allB]
theorem lum_len (xs : List Int) : (lum xs).length ≤ 3 := by unfold lum; split <;> simp
theorem frl_len (xs : List Int) : (frl xs).length ≤ 3 := by unfold frl; split <;> simp [unl]
theorem three_of {xs : List Int} (h : xs.length = 3) : ∃ a b c, xs = [a, b, c] := by
  match xs, h with
  | [a, b, c], _ => exact ⟨a, b, c, rfl⟩
theorem lum_yes {a b c : Int} (h : allB 0 255 [a, b, c] = true) : lum [a, b, c] = [lumY a b c, a - c, lumG a b c] := by
  unfold lum; rw [if_pos ⟨rfl, h⟩]; rfl
theorem lum_no {xs : List Int} (h : xs.length ≠ 3 ∨ allB 0 255 xs = false) : lum xs = [] := by
  unfold lum; rw [if_neg]; rintro ⟨h1, h2⟩
  rcases h with h | h
  · exact h h1
  · rw [h2] at h; cases h
/-- Colors can be transformed back. -/
theorem lum_back {xs : List Int} (h : lum xs ≠ []) : frlOk (lum xs) = true ∧ frl (lum xs) = xs ∧ (lum xs).length = 3 ∧ 0 ≤ (lum xs).getD 0 0 ∧ (lum xs).getD 0 0 ≤ 255 ∧ xs.length = 3 := by
  by_cases hc : xs.length = 3 ∧ allB 0 255 xs = true
  · obtain ⟨hl, hb⟩ := hc
    obtain ⟨a, b, c, rfl⟩ := three_of hl
    have e := lum_yes hb
    obtain ⟨h1, h2⟩ := rgb_lum a b c
    obtain ⟨ha, hb', hc'⟩ := allB_three.1 hb
    have hu : unl (lum [a, b, c]) = [a, b, c] := by
      rw [e]
      simp only [unl, List.getD_cons_zero, List.getD_cons_succ, h1, h2]
      congr 1; omega
    have ho : frlOk (lum [a, b, c]) = true := by
      unfold frlOk
      rw [hu]
      refine decide_eq_true ⟨by rw [e]; rfl, ?_, hb⟩
      rw [e, allB_three]
      unfold lumY lumG
      omega
    refine ⟨ho, by unfold frl; rw [if_pos ho, hu], by rw [e]; rfl, ?_, ?_, rfl⟩
    · rw [e]; simp only [List.getD_cons_zero]; unfold lumY; omega
    · rw [e]; simp only [List.getD_cons_zero]; unfold lumY; omega
  · exact absurd (lum_no (by by_cases h1 : xs.length = 3; exact .inr (by cases h2 : allB 0 255 xs; rfl; exact absurd ⟨h1, h2⟩ hc); exact .inl h1)) h
theorem lum_first {x y z : Int} (h : lum [x, y, z] ≠ []) : 0 ≤ x ∧ x ≤ 255 := by
  cases hb : allB 0 255 [x, y, z]
  · exact absurd (lum_no (.inr hb)) h
  · exact (allB_three.1 hb).1
/-- Every pixel has one luma. -/
theorem frl_back {xs : List Int} (h : frlOk xs = true) : lum (frl xs) = xs := by
  obtain ⟨hl, hb, hu⟩ := of_decide_eq_true h
  obtain ⟨y, o, g, rfl⟩ := three_of hl
  obtain ⟨h1, h2⟩ := lum_rgb y o g
  unfold frl
  rw [if_pos h]
  have hu' : allB 0 255 [o + rgbB y o g, rgbG y g, rgbB y o g] = true := hu
  show lum [o + rgbB y o g, rgbG y g, rgbB y o g] = _
  rw [lum_yes hu', h1, h2]
  congr 2; omega
theorem frl_no {xs : List Int} (h : frlOk xs = false) : frl xs = [] := by unfold frl; rw [if_neg (by rw [h]; simp)]
/-- Gray has no differences. -/
theorem lum_gray (a : Int) (h0 : 0 ≤ a) (h1 : a ≤ 255) : lum [a, a, a] = [a, 0, 0] := by
  rw [lum_yes (allB_three.2 ⟨⟨h0, h1⟩, ⟨h0, h1⟩, ⟨h0, h1⟩⟩)]
  unfold lumY lumG
  congr 1
  · omega
  · congr 1
    · omega
    · congr 1; omega
end Go.Proofs.Ytjgcondkoaegnaa
