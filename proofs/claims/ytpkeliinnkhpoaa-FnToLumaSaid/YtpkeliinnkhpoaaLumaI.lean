/- Contract of FromLuma in the program. -/
import Derived.Test.YtpkeliinnkhpoaaLuma
namespace Go.Proofs.Ytpkeliinnkhpoaa
open Go.RowKit
set_option linter.unusedSimpArgs false
set_option linter.unusedVariables false

/-- What is known of the color of a luma. -/
def Back (y o g' r g b : Int) : Prop := frlOk [y, o, g'] = (allB 0 255 [r, g, b] && decide (lumY r g b = y ∧ r - b = o ∧ lumG r g b = g')) ∧ (frlOk [y, o, g'] = true → frl [y, o, g'] = [r, g, b])
def Colored (y o g' : Int) (w : World) (e : Ending) (w' : World) : Prop := ∃ r g b : Int, e = .returned (.agg #[.int .i64 r, .int .i64 g, .int .i64 b]) ∧ Below w.heap.size w w' ∧ Back y o g' r g b
theorem back_in {y o g' : Int} (h : allB (-255) 255 [y, o, g'] = true) : Back y o g' (o + rgbB y o g') (rgbG y g') (rgbB y o g') := by
  obtain ⟨e1, e2⟩ := frlOk_of h
  obtain ⟨l1, l2⟩ := lum_rgb y o g'
  refine ⟨?_, fun hh => e2 (e1 ▸ hh)⟩
  rw [e1, decide_eq_true ⟨l1, by omega, l2⟩, Bool.and_true]
theorem back_out {y o g' r g b : Int} (h : allB (-255) 255 [y, o, g'] = false) : Back y o g' r g b := by
  obtain ⟨e1, e2⟩ := frlOk_no (xs := [y, o, g']) (fun hh => by rw [h] at hh; cases hh.2)
  refine ⟨?_, fun hh => by rw [e1] at hh; cases hh⟩
  rw [e1]
  cases hb : allB 0 255 [r, g, b]
  · rfl
  · rw [Bool.true_and]
    refine (decide_eq_false ?_).symm
    rintro ⟨a1, a2, a3⟩
    obtain ⟨h0, h1, h2⟩ := allB_three.1 hb
    have : allB (-255) 255 [y, o, g'] = true := allB_three.2 (by unfold lumY lumG at *; omega)
    rw [h] at this; cases this
theorem iRgb_all (y o g : Int) (w : World) : Calls Try.prog 53 #[.agg #[.int .i64 y, .int .i64 o, .int .i64 g]] w (Colored y o g w) := by
  cases h : allB (-255) 255 [y, o, g]
  · exact (iRgb_free y o g w).mono fun e w' ⟨r, g2, b, he, hb⟩ => ⟨r, g2, b, he, hb, back_out h⟩
  · obtain ⟨b0, b1, b2⟩ := allB_three.1 h
    exact (iRgb_any y o g w b0 b1 b2).mono fun e w' ⟨he, hb⟩ => ⟨_, _, _, he, hb, back_in h⟩
theorem bx_three {w : World} {p : Nat} {T : TypeId} {a b c : Value} (h : w.heap[p]? = some (.cells #[a, b, c] T (0, 0))) : w.cell? ⟨p, 0, none⟩ = some a ∧ w.cell? ⟨p, 1, none⟩ = some b ∧ w.cell? ⟨p, 2, none⟩ = some c :=
  ⟨cell_of_row w p 0 _ _ _ h, cell_of_row w p 1 _ _ _ h, cell_of_row w p 2 _ _ _ h⟩
theorem areBytes_at (A : Option Addr) (c B : Nat) (x y z : Int) (v : Bool) (hv : allB 0 255 [x, y, z] = v) (w : World) (h : Rds .i64 w B A [x, y, z]) :
    Calls Try.prog 54 #[.slice A 3 c] w fun e w' => e = .returned (.bool v) ∧ w = w' := by
  rw [← hv]
  exact areBytes_any A c B [x, y, z] w h (by simp)
set_option maxHeartbeats 4000000 in
theorem i_FromLuma (A : Option Addr) (c : Nat) (xs : List Int) (w : World) (h : Rds .i64 w w.heap.size A xs) (hl : xs.length ≤ 2000000) :
    Calls Try.prog 23 #[.slice A xs.length c] w (Made2 (frl xs) (frlOk xs) w) := by
  by_cases h3 : xs.length = 3
  · obtain ⟨y, o, g', rfl⟩ := three_of h3
    obtain ⟨g, off, rfl, hg, c0, c1, c2⟩ := rds3 h
    have HH := Lib.hid h
    clear h h3
    have hn1 : ¬ g = w.heap.size := by omega
    have hn2 : ¬ w.heap.size = g := by omega
    go_enter Try.func23, Try.ntmps23
    go_wp2
    go_region_held3 (fun w' => w'.cell? ⟨g, off, none⟩ = some (.int .i64 y) ∧ w'.cell? ⟨g, off + 1, none⟩ = some (.int .i64 o) ∧ w'.cell? ⟨g, off + 2, none⟩ = some (.int .i64 g'))
      (first | exact ⟨c0, c1, c2⟩ | go_keep)
      (first | fail)
    generalize hw1 : (w.alloc (.cells #[.int .i64 y, .int .i64 o, .int .i64 g'] 52)).drew = w1
    have HX1 : Hid (w1.heap[w.heap.size]? = some (.cells #[.int .i64 y, .int .i64 o, .int .i64 g'] 52 (0, 0))) := Lib.hid (by rw [← hw1]; exact heap_alloc_new w _)
    have HB1 : Hid (Below w.heap.size w w1) := Lib.hid (by rw [← hw1]; exact ((Below.refl _ _).alloc (Nat.le_refl _) _).drew)
    have hz1 : w.heap.size + 1 ≤ w1.heap.size := by rw [← hw1]; simp
    have hz1' : w.heap.size < w1.heap.size := by omega
    clear hw1 c0 c1 c2
    obtain ⟨b0, b1, b2⟩ := bx_three HX1.out
    go_wp2_with fail
    refine (iRgb_all y o g' w1).mono ?_
    rintro e w2 ⟨r, gg, b, rfl, hB2, hBack⟩
    have HBack := Lib.hid hBack
    have hX2 : w2.heap[w.heap.size]? = some (.cells #[.int .i64 y, .int .i64 o, .int .i64 g'] 52 (0, 0)) := (hB2.block _ (by omega)).trans HX1.out
    have hz2 : w.heap.size < w2.heap.size := by have := hB2.size; omega
    have HB2 : Hid (Below w.heap.size w w2) := Lib.hid (HB1.out.trans (hB2.mono (by omega)))
    have HX2 := Lib.hid hX2
    clear hB2 hX2 b0 b1 b2 HX1 HB1 hBack
    go_wp2
    have hM := made3 (w := w) (W := w2.alloc (.cells #[.int .i64 r, .int .i64 gg, .int .i64 b] 54)) (a := r) (b := gg) (c := b) (HB2.out.alloc (by omega) _)
    generalize hw3 : (w2.alloc (.cells #[.int .i64 r, .int .i64 gg, .int .i64 b] 54)).alloc (.cells #[.int .i64 r, .int .i64 gg, .int .i64 b] 3) = w3 at *
    have hX3 : w3.heap[w.heap.size]? = some (.cells #[.int .i64 y, .int .i64 o, .int .i64 g'] 52 (0, 0)) := by rw [← hw3]; exact (Below.heap_alloc _ _ _ (by simp; omega)).trans ((Below.heap_alloc _ _ _ hz2).trans HX2.out)
    have hC3 : w3.heap[w2.heap.size]? = some (.cells #[.int .i64 r, .int .i64 gg, .int .i64 b] 54 (0, 0)) := by rw [← hw3]; exact (Below.heap_alloc _ _ _ (by simp)).trans (heap_alloc_new w2 _)
    have hz3 : w2.heap.size < w3.heap.size := by rw [← hw3]; simp; omega
    have hz3' : w.heap.size < w3.heap.size := by omega
    obtain ⟨l0, l1, l2⟩ := bx_three hX3
    obtain ⟨r0, r1, r2⟩ := bx_three hC3
    simp only [World.size_alloc] at hM
    have HM := Lib.hid hM
    clear hw3 hM hX3 hC3 HX2 HB2
    cases hb : allB 0 255 [r, gg, b]
    · have HF : Hid (frlOk [y, o, g'] = false) := Lib.hid (by rw [HBack.out.1, hb]; rfl)
      go_quiet ((go_at_call 54; exact Calls.quiet_of_same ((areBytes_at _ _ _ r gg b false hb _ (by exact HM.out.1.rds.2)).mono fun _ _ h => ⟨h.1, h.2.symm⟩)))
      go_wp2
      go_ret2
      exact Made2.no (frl_no HF.out) HF.out (below_dn HM.out.2 _)
    · obtain ⟨⟨q0, q0'⟩, ⟨q1, q1'⟩, ⟨q2, q2'⟩⟩ := allB_three.1 hb
      have HK : Hid (frlOk [y, o, g'] = ((lumY r gg b == y) && ((r - b == o) && (lumG r gg b == g')))) := Lib.hid (by rw [HBack.out.1, hb, Bool.true_and, Bool.eq_iff_iff]; simp [beq_iff_eq])
      cases k0 : (lumY r gg b == y) <;> cases k1 : (r - b == o) <;> cases k2 : (lumG r gg b == g')
      all_goals
        have HK2 := Lib.hid HK.out
        rw [k0, k1, k2] at HK2
        go_region_held3 (fun w' => (w'.cell? ⟨w.heap.size, 0, none⟩ = some (.int .i64 y) ∧ w'.cell? ⟨w.heap.size, 1, none⟩ = some (.int .i64 o) ∧ w'.cell? ⟨w.heap.size, 2, none⟩ = some (.int .i64 g')) ∧ w'.cell? ⟨w2.heap.size, 0, none⟩ = some (.int .i64 r) ∧ w'.cell? ⟨w2.heap.size, 1, none⟩ = some (.int .i64 gg) ∧ w'.cell? ⟨w2.heap.size, 2, none⟩ = some (.int .i64 b))
          (first | exact ⟨⟨l0, l1, l2⟩, r0, r1, r2⟩ | exact ⟨⟨d0, d1, d2⟩, d3, d4, d5⟩ | go_keep)
          (first | (go_at_call 54; refine (areBytes_at _ _ _ r gg b true hb _ (by exact HM.out.1.rds.2)).mono ?_; rintro e w' ⟨rfl, rfl⟩) | (go_at_call 51; refine (iLum_any r gg b _ ⟨q0, q0'⟩ ⟨q1, q1'⟩ ⟨q2, q2'⟩).mono ?_; rintro e w4 ⟨rfl, hB⟩; have d0 := (hB.cell (p := ⟨w.heap.size, 0, none⟩) (by exact hz3')).trans l0; have d1 := (hB.cell (p := ⟨w.heap.size, 1, none⟩) (by exact hz3')).trans l1; have d2 := (hB.cell (p := ⟨w.heap.size, 2, none⟩) (by exact hz3')).trans l2; have d3 := (hB.cell (p := ⟨w2.heap.size, 0, none⟩) (by exact hz3)).trans r0; have d4 := (hB.cell (p := ⟨w2.heap.size, 1, none⟩) (by exact hz3)).trans r1; have d5 := (hB.cell (p := ⟨w2.heap.size, 2, none⟩) (by exact hz3)).trans r2; have HB4 := Lib.hid hB; clear hB))
      all_goals
        have HB5 : Hid (Below w.heap.size w w4) := Lib.hid (HM.out.2.drew.trans (HB4.out.mono (show w.heap.size ≤ w3.heap.size by omega)))
        have HO5 : Hid (Own w4 w.heap.size (.slice (some ⟨w2.heap.size + 1, 0, none⟩) 3 3) [r, gg, b]) := Lib.hid (Own.below (w := w3.drew) (by exact HM.out.1) HB4.out (Nat.le_refl _))
        clear d0 d1 d2 d3 d4 d5 l0 l1 l2 r0 r1 r2
        go_wp2
        go_ret2
        first
        | exact Made2.no (frl_no HK2.out) HK2.out HB5.out
        | exact Made2.yes (HBack.out.2 HK2.out) HK2.out HO5.out HB5.out
  · obtain ⟨e1, e2⟩ := frlOk_no (xs := xs) (fun hh => h3 hh.1)
    have HL := Lib.hid e1
    have HF := Lib.hid e2
    have hq : ((xs.length : Int) == 3) = false := beq_eq_false_iff_ne.2 (by omega)
    have hq2 : ((xs.length : Int) != 3) = true := by simp; omega
    clear h e1 e2 h3
    go_enter Try.func23, Try.ntmps23
    go_wp2
    go_ret2
    exact Made2.no HF.out HL.out (Below.refl _ _)
end Go.Proofs.Ytpkeliinnkhpoaa
