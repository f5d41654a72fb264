/- Contracts of copying and inverting images. -/
import Derived.Test.YtjgcondkoaegnaaImgA
import Derived.Deep.RegionLaw
import Derived.Deep.RegionHeld3
import Derived.RegionTactic
import Derived.BigRegion
namespace Go.Proofs.Ytjgcondkoaegnaa
open Go.RowKit
set_option linter.unusedSimpArgs false
set_option linter.unusedVariables false

theorem box_cell {w : World} {g : Nat} {cs : Array Value} {t : TypeId} (h : w.heap[g]? = some (.cells cs t (0, 0))) (i : Nat) : w.cell? ⟨g, i, none⟩ = cs[i]? := cell_of_row w g i cs t _ h
theorem box_free {w : World} {g : Nat} {cs : Array Value} {t : TypeId} (h : w.heap[g]? = some (.cells cs t (0, 0))) (i : Nat) : w.frozen? ⟨g, i, none⟩ = false := frozen_of_row w g i cs t h
theorem box_get {a b c d : Value} : #[a, b, c, d][0]? = some a ∧ #[a, b, c, d][1]? = some b ∧ #[a, b, c, d][2]? = some c ∧ #[a, b, c, d][3]? = some d := ⟨rfl, rfl, rfl, rfl⟩
set_option maxHeartbeats 4000000 in
theorem sCopyImage_any (W H P : Int) (A : Option Addr) (c : Nat) (xs : List Int) (w : World) (hx : Rds .i64 w w.heap.size A xs) (hl : xs.length ≤ 2000000) :
    Calls Try.prog 26 #[.agg #[.int .i64 W, .int .i64 H, .int .i64 P, .slice A xs.length c]] w (MadeI W H P xs w) := by
  have Hx := Lib.hid ((((hx.alloc (Nat.le_refl _) (.cells #[.int .i64 W, .int .i64 H, .int .i64 P, .slice A xs.length c] 29)).alloc (by simp) (.cells #[.int .i64 0, .int .i64 0, .int .i64 0, .slice none 0 0] 29)).more (show w.heap.size ≤ ((w.alloc (.cells #[.int .i64 W, .int .i64 H, .int .i64 P, .slice A xs.length c] 29)).alloc (.cells #[.int .i64 0, .int .i64 0, .int .i64 0, .slice none 0 0] 29)).heap.size by simp <;> omega)))
  clear hx
  go_enter Try.func26, Try.ntmps26
  go_wp2
  generalize hw2 : (w.alloc (.cells #[.int .i64 W, .int .i64 H, .int .i64 P, .slice A xs.length c] 29)).alloc (.cells #[.int .i64 0, .int .i64 0, .int .i64 0, .slice none 0 0] 29) = w2
  have hsz : w2.heap.size = w.heap.size + 2 := by rw [← hw2]; simp
  have s0 : w2.cell? ⟨w.heap.size, 0, none⟩ = some (.int .i64 W) := by rw [← hw2]; simp
  have s1 : w2.cell? ⟨w.heap.size, 1, none⟩ = some (.int .i64 H) := by rw [← hw2]; simp
  have s2 : w2.cell? ⟨w.heap.size, 2, none⟩ = some (.int .i64 P) := by rw [← hw2]; simp
  have s3 : w2.cell? ⟨w.heap.size, 3, none⟩ = some (.slice A xs.length c) := by rw [← hw2]; simp
  have hR2 : Hid (w2.heap[w.heap.size + 1]? = some (.cells #[.int .i64 0, .int .i64 0, .int .i64 0, .slice none 0 0] 29 (0, 0))) := Lib.hid (by rw [← hw2]; simpa using heap_alloc_new (w.alloc (.cells #[.int .i64 W, .int .i64 H, .int .i64 P, .slice A xs.length c] 29)) _)
  have HB2 : Hid (Below w.heap.size w w2) := Lib.hid (by rw [← hw2]; exact ((Below.refl w.heap.size w).alloc (Nat.le_refl _) _).alloc (by simp) _)
  have HX2 : Hid (Rds .i64 w2 w2.heap.size A xs) := Lib.hid (by rw [← hw2]; exact Hx.out)
  have Hsz := Lib.hid hsz
  clear hw2 hsz Hx
  go_region_held3 (fun w' => w'.cell? ⟨w.heap.size, 0, none⟩ = some (.int .i64 W) ∧ w'.cell? ⟨w.heap.size, 1, none⟩ = some (.int .i64 H) ∧ w'.cell? ⟨w.heap.size, 2, none⟩ = some (.int .i64 P) ∧ w'.cell? ⟨w.heap.size, 3, none⟩ = some (.slice A xs.length c))
    (first | exact ⟨s0, s1, s2, s3⟩ | exact ⟨t0, t1, t2, t3⟩ | go_keep)
    (first | (go_at_call 61; refine (copyInts_any A c xs _ (by exact HX2.out) hl).mono ?_; rintro e w1 ⟨v, rfl, hO, hB⟩; obtain ⟨A1, c1, rfl, _⟩ := hO.slice; have hlt : w.heap.size < w2.heap.size := (by have := Hsz.out; omega); have t0 := (hB.cell (p := ⟨w.heap.size, 0, none⟩) hlt).trans s0; have t1 := (hB.cell (p := ⟨w.heap.size, 1, none⟩) hlt).trans s1; have t2 := (hB.cell (p := ⟨w.heap.size, 2, none⟩) hlt).trans s2; have t3 := (hB.cell (p := ⟨w.heap.size, 3, none⟩) hlt).trans s3; have hR1 : Hid (w1.heap[w.heap.size + 1]? = some (.cells #[.int .i64 0, .int .i64 0, .int .i64 0, .slice none 0 0] 29 (0, 0))) := Lib.hid ((hB.block _ (by have := Hsz.out; show _ < w2.heap.size; omega)).trans hR2.out); have g0 := box_cell hR1.out 0; have g1 := box_cell hR1.out 1; have g2 := box_cell hR1.out 2; have g3 := box_cell hR1.out 3; have f0 := box_free hR1.out 0; have f1 := box_free hR1.out 1; have f2 := box_free hR1.out 2; have f3 := box_free hR1.out 3; rw [box_get.1] at g0; rw [box_get.2.1] at g1; rw [box_get.2.2.1] at g2; rw [box_get.2.2.2] at g3; have HO := Lib.hid hO; have HB := Lib.hid hB; clear hO hB))
  have hle : w.heap.size + 2 ≤ w2.heap.size := by have := Hsz.out; omega
  have hO := HO.out.base_le (show w.heap.size + 2 ≤ _ from hle)
  have hB := HB2.out.drew.trans (HB.out.mono (show w.heap.size ≤ w2.drew.heap.size from (by show w.heap.size ≤ w2.heap.size; omega)))
  have HO3 := Lib.hid ((((hO.setB (p := ⟨w.heap.size + 1, 0, none⟩) (by simp) (.int .i64 W)).setB (p := ⟨w.heap.size + 1, 1, none⟩) (by simp) (.int .i64 H)).setB (p := ⟨w.heap.size + 1, 2, none⟩) (by simp) (.int .i64 P)).setB (p := ⟨w.heap.size + 1, 3, none⟩) (by simp) (.slice A1 xs.length c1) |>.base_le (by omega : w.heap.size ≤ w.heap.size + 2))
  have HB3 := Lib.hid ((((hB.setCell (p := ⟨w.heap.size + 1, 0, none⟩) (by simp) (.int .i64 W)).setCell (p := ⟨w.heap.size + 1, 1, none⟩) (by simp) (.int .i64 H)).setCell (p := ⟨w.heap.size + 1, 2, none⟩) (by simp) (.int .i64 P)).setCell (p := ⟨w.heap.size + 1, 3, none⟩) (by simp) (.slice A1 xs.length c1))
  clear hO hB HO HB
  go_wp2
  exact bodyPost_ret (v := .agg #[.int .i64 W, .int .i64 H, .int .i64 P, .slice A1 xs.length c1]) (by simp [results, Try.results26, go_sem, g0, g1, g2, g3]) rfl ⟨_, rfl, HO3.out, HB3.out⟩
end Go.Proofs.Ytjgcondkoaegnaa
