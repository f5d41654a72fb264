/- Contract of the laws' equalImage, and words for the laws over a drawn image. -/
import Derived.Test.YtolifmgkkkclkaaImgS
import Derived.Test.YtolifmgkkkclkaaInvS
import Derived.Test.YtolifmgkkkclkaaGridF
namespace Go.Proofs.Ytolifmgkkkclkaa
open Go.RowKit
set_option linter.unusedSimpArgs false
set_option linter.unusedVariables false

theorem MadeIf.f {b : Bool} {W H P : Int} {xs : List Int} {w w' : World} {e : Ending} (hb : b = false) (h : MadeIf b W H P xs w e w') : MadeI 0 0 0 [] w e w' := by subst hb; exact h
theorem MadeIf.t {b : Bool} {W H P : Int} {xs : List Int} {w w' : World} {e : Ending} (hb : b = true) (h : MadeIf b W H P xs w e w') : MadeI W H P xs w e w' := by subst hb; exact h
set_option maxHeartbeats 4000000 in
theorem lEqImg_same (X Y Z : Int) (A A' : Option Addr) (c c' n n' : Nat) (xs : List Int) (w : World) (hn : n = xs.length) (hn' : n' = xs.length) (hx : Rds .i64 w w.heap.size A xs) (hy : Rds .i64 w w.heap.size A' xs) (hl : xs.length ≤ 2000000) :
    Calls Try.prog 12 #[.agg #[.int .i64 X, .int .i64 Y, .int .i64 Z, .slice A n c], .agg #[.int .i64 X, .int .i64 Y, .int .i64 Z, .slice A' n' c']] w fun e w' => e = .returned (.bool true) ∧ Below w.heap.size w w' := by
  subst hn hn'
  have Hx := Lib.hid hx
  have Hy := Lib.hid hy
  clear hx hy
  go_enter Try.func12, Try.ntmps12
  go_wp2_with fail
  refine (lEqualInts_any A A' c c' xs xs w.heap.size w.heap.size _ ((Hx.out.alloc (Nat.le_refl _) _).alloc (by simp) _) ((Hy.out.alloc (Nat.le_refl _) _).alloc (by simp) _) (by omega) (by omega)).mono ?_
  rintro e w' ⟨rfl, m, rfl⟩
  have HB : Hid (Below w.heap.size w _) := Lib.hid (below_dm (((Below.refl w.heap.size w).alloc (Nat.le_refl _) (.cells #[.int .i64 X, .int .i64 Y, .int .i64 Z, .slice A xs.length c] 25)).alloc (by simp) (.cells #[.int .i64 X, .int .i64 Y, .int .i64 Z, .slice A' xs.length c'] 25)) m)
  go_wp2
  go_ret
  exact ⟨by simp, HB.out⟩
theorem inv_inv (xs : List Int) : inv (inv xs) = xs := by
  unfold inv
  rw [List.map_map]
  conv => rhs; rw [← List.map_id xs]
  apply List.map_congr_left
  intro x _
  show 255 - (255 - x) = x
  omega
theorem vim_inv {W H P : Int} {xs : List Int} (h : vim W H P xs = true) : vim W H P (inv xs) = true := by
  have h' : (vsh W H P && (decide ((xs.length : Int) = W * H * P) && allB 0 255 xs)) = true := h
  simp only [Bool.and_eq_true, decide_eq_true_eq] at h'
  obtain ⟨h1, h2, h3⟩ := h'
  show (vsh W H P && (decide (((inv xs).length : Int) = W * H * P) && allB 0 255 (inv xs))) = true
  simp only [Bool.and_eq_true, decide_eq_true_eq, inv_len]
  refine ⟨h1, h2, decide_eq_true ?_⟩
  intro y hy
  obtain ⟨x, hx, rfl⟩ := List.mem_map.1 hy
  have := of_decide_eq_true h3 x hx
  omega
end Go.Proofs.Ytolifmgkkkclkaa
