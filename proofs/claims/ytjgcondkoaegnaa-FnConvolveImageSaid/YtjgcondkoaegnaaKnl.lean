/- Kernels: copies, sizes, comparing, marking in exact laws. -/
import Derived.Test.YtjgcondkoaegnaaImgA
import Derived.Test.YtjgcondkoaegnaaSz
import Derived.Test.YtjgcondkoaegnaaGenP
namespace Go.Proofs.Ytjgcondkoaegnaa
open Go.RowKit
set_option linter.unusedSimpArgs false
set_option linter.unusedVariables false

/-- A call made a kernel whose weights are its own. -/
def MadeK (R : Int) (xs : List Int) (D : Int) (w : World) (e : Ending) (w' : World) : Prop := ∃ v, e = .returned (.agg #[.int .i64 R, v, .int .i64 D]) ∧ Own w' w.heap.size v xs ∧ Below w.heap.size w w'
set_option maxHeartbeats 2000000 in
theorem toKernel_any (R D : Int) (A : Option Addr) (c : Nat) (xs : List Int) (w : World) (h : Rds .i64 w w.heap.size A xs) (hl : xs.length ≤ 2000000) :
    Calls Try.prog 10 #[.agg #[.int .i64 R, .slice A xs.length c, .int .i64 D]] w (MadeK R xs D w) := by
  have Hh := Lib.hid h
  clear h
  go_enter Try.func10, Try.ntmps10
  go_wp2_with fail
  refine (toIntS_any A c xs _ (((Hh.out.alloc (Nat.le_refl _) _).alloc (by simp) _).alloc (by simp <;> omega) _ |>.more (by simp <;> omega)) hl).mono ?_
  rintro e w1 ⟨v, rfl, hO, hB⟩
  obtain ⟨A1, c1, rfl, _⟩ := hO.slice
  obtain ⟨hc, hf⟩ := bcell hB
  have hz : w.heap.size + 1 + 1 < w1.heap.size := by have := hB.size; simp at this; omega
  have HO := Lib.hid hO
  have HB := Lib.hid hB
  clear hO hB
  go_wp2
  have hbs : w.heap.size + 3 ≤ (((w.alloc (.cells #[.int .i64 R, .slice A xs.length c, .int .i64 D] 26)).alloc (.cells #[.int .i64 0, .slice none 0 0, .int .i64 0] 32)).alloc (.cells #[.int .i64 R, .slice none 0 0, .int .i64 0] 32)).heap.size := by simp
  have hO := HO.out.base_le hbs
  have hB := ((((Below.refl w.heap.size w).alloc (Nat.le_refl _) _).alloc (by simp) _).alloc (by simp <;> omega) _).trans (HB.out.mono (by simp <;> omega))
  refine bodyPost_ret (v := .agg #[.int .i64 R, .slice A1 xs.length c1, .int .i64 D]) (by simp [results, Try.results10, go_sem, hc, hz]) rfl ⟨_, rfl, ?_, ?_⟩
  · exact (((((hO.setB (by simp <;> omega) _).setB (by simp <;> omega) _).setB (by simp <;> omega) _).setB (by simp <;> omega) _).setB (by simp <;> omega) _).base_le (by omega)
  · exact ((((hB.setCell (by simp <;> omega) _).setCell (by simp <;> omega) _).setCell (by simp <;> omega) _).setCell (by simp <;> omega) _).setCell (by simp <;> omega) _
set_option maxHeartbeats 2000000 in
theorem szKernel_le (R D : Int) (A : Option Addr) (c n : Nat) (left : Int) (w : World) (h0 : 0 ≤ left) (h1 : left ≤ 1048576) (h : (n : Int) ≤ left) :
    Calls Try.prog 7 #[.agg #[.int .i64 R, .slice A n c, .int .i64 D], .int .i64 left] w fun e w' => e = .returned (.int .i64 (left - n)) ∧ Below w.heap.size w w' := by
  have HB := Lib.hid ((Below.refl w.heap.size w).alloc (Nat.le_refl _) (.cells #[.int .i64 R, .slice A n c, .int .i64 D] 26))
  go_enter Try.func7, Try.ntmps7
  go_wp2_with go_in
  go_ret
  exact ⟨rfl, HB.out⟩
set_option maxHeartbeats 2000000 in
theorem szKernel_gt (R D : Int) (A : Option Addr) (c n : Nat) (left : Int) (w : World) (h0 : 0 ≤ left) (h1 : left ≤ 1048576) (h : left < (n : Int)) (hm : n ≤ 9223372036854775807) :
    Calls Try.prog 7 #[.agg #[.int .i64 R, .slice A n c, .int .i64 D], .int .i64 left] w fun e w' => e = .returned (.int .i64 (-1)) ∧ Below w.heap.size w w' := by
  have HB := Lib.hid ((Below.refl w.heap.size w).alloc (Nat.le_refl _) (.cells #[.int .i64 R, .slice A n c, .int .i64 D] 26))
  go_enter Try.func7, Try.ntmps7
  go_wp2_with go_in
  go_ret
  exact ⟨rfl, HB.out⟩
set_option maxHeartbeats 2000000 in
theorem eqKernel_same (R D : Int) (A A' : Option Addr) (c c' n n' : Nat) (xs : List Int) (w : World) (hn : n = xs.length) (hn' : n' = xs.length) (hx : Rds .i64 w w.heap.size A xs) (hy : Rds .i64 w w.heap.size A' xs) (hl : xs.length ≤ 2000000) :
    Calls Try.prog 13 #[.agg #[.int .i64 R, .slice A n c, .int .i64 D], .agg #[.int .i64 R, .slice A' n' c', .int .i64 D]] w fun e w' => e = .returned (.bool true) ∧ Below w.heap.size w w' := by
  subst hn hn'
  have Hx := Lib.hid hx
  have Hy := Lib.hid hy
  clear hx hy
  go_enter Try.func13, Try.ntmps13
  go_wp2_with fail
  refine (eqIntS_any A A' c c' xs xs w.heap.size w.heap.size _ ((Hx.out.alloc (Nat.le_refl _) _).alloc (by simp) _) ((Hy.out.alloc (Nat.le_refl _) _).alloc (by simp) _) (by omega) (by omega)).mono ?_
  rintro e w' ⟨rfl, m, rfl⟩
  have HB : Hid (Below w.heap.size w _) := Lib.hid (below_dm (((Below.refl w.heap.size w).alloc (Nat.le_refl _) (.cells #[.int .i64 R, .slice A xs.length c, .int .i64 D] 32)).alloc (by simp) (.cells #[.int .i64 R, .slice A' xs.length c', .int .i64 D] 32)) m)
  go_wp2
  go_ret
  exact ⟨rfl, HB.out⟩
set_option maxHeartbeats 2000000 in
theorem markKernel_any (R D : Int) (v : Value) (base : Nat) (xs : List Int) (k : Int) (w : World) (h : Own w base v xs) (hl : xs.length ≤ 10000000) (hk0 : 0 ≤ k) (hk1 : k ≤ 100000000) :
    Calls Try.prog 15 #[.agg #[.int .i64 R, v, .int .i64 D], .int .i64 k] w fun e w' => e = .returned (.int .i64 (k + xs.length)) ∧ Own w' base v (marks k xs.length) ∧ w.grownBy w' v.ownBlock := by
  have Hh := Lib.hid h
  obtain ⟨A, c, rfl, _⟩ := h.slice
  clear h
  go_enter Try.func15, Try.ntmps15
  go_wp2_with fail
  refine (markIntS_any _ base xs k _ (Hh.out.alloc _) hl hk0 hk1).mono ?_
  rintro e w' ⟨rfl, hO, hG, hZ⟩
  have HG := Lib.hid (gtrans (World.grownBy_alloc w _ _) hG)
  have HO := Lib.hid hO
  clear hO hG hZ
  go_wp2
  go_ret
  exact ⟨rfl, HO.out, HG.out⟩
end Go.Proofs.Ytjgcondkoaegnaa
