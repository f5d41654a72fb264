/- Contracts of InvertImage and MapImage in the program. -/
import Derived.Test.YtklleaojhoklaaaChg
import Derived.Test.YtklleaojhoklaaaGenP
import Derived.Shelf.Abstract
namespace Go.Proofs.Ytklleaojhoklaaa
open Go.RowKit Go.Shelf
set_option linter.unusedSimpArgs false
set_option linter.unusedVariables false
set_option maxRecDepth 20000

theorem bytes_of {W H P : Int} {xs : List Int} (hv : vim W H P xs = true) : ∀ j, j < xs.length → 0 ≤ xs.getD j 0 ∧ xs.getD j 0 ≤ 255 := fun j hj => by
  have hv' : vim W H P xs = (vsh W H P && (decide ((xs.length : Int) = W * H * P) && allB 0 255 xs)) := rfl
  rw [hv] at hv'
  have ha : allB 0 255 xs = true := by
    cases h : allB 0 255 xs
    · rw [h] at hv'; simp at hv'
    · rfl
  have := of_decide_eq_true ha (xs[j]) (List.getElem_mem hj)
  simpa [hj] using this
set_option maxHeartbeats 8000000 in
theorem i_Invert1 (x : Int) (h0 : 0 ≤ x) (h1 : x ≤ 255) (w : World) : Calls Try.prog 36 (#[.int .i64 x] ++ #[]) w fun e w' => e = .returned (.int .i64 (255 - x)) ∧ Below w.heap.size w w' := by
  show Calls Try.prog 36 #[.int .i64 x] w _
  go_enter Try.func36, Try.ntmps36
  go_wp2
  go_ret
  exact ⟨rfl, Below.refl _ _⟩
set_option maxHeartbeats 8000000 in
theorem i_Invert (W H P : Int) (A : Option Addr) (c : Nat) (xs : List Int) (w : World) (hx : Rds .i64 w w.heap.size A xs) (hl : xs.length ≤ 2000000) :
    Calls Try.prog 12 #[.agg #[.int .i64 W, .int .i64 H, .int .i64 P, .slice A xs.length c]] w (MadeIf (vim W H P xs) W H P (inv xs) w) := by
  have HX := Lib.hid hx
  clear hx
  have S0 := ((GS.start w).box' 25 #[.int .i64 W, .int .i64 H, .int .i64 P, .slice A xs.length c] w.heap.size (by simp)).box' 25 #[.int .i64 0, .int .i64 0, .int .i64 0, .slice none 0 0] (w.heap.size + 1) (by simp)
  go_enter Try.func12, Try.ntmps12
  go_wp2_with fail
  generalize (w.alloc (.cells #[.int .i64 W, .int .i64 H, .int .i64 P, .slice A xs.length c] 25)).alloc (.cells #[.int .i64 0, .int .i64 0, .int .i64 0, .slice none 0 0] 25) = u0 at *
  refine (iVimg_any W H P A c xs u0 (S0.arg HX.out) hl).mono ?_
  rintro e u1 ⟨rfl, hB⟩
  have S1 := S0.call hB
  clear hB S0
  cases hv : vim W H P xs
  · have Hv := Lib.hid hv
    obtain ⟨r0, r1, r2, r3⟩ := S1.b0_4
    have f0 := S1.f0 0
    have f1 := S1.f0 1
    have f2 := S1.f0 2
    have f3 := S1.f0 3
    have HE := Lib.hid (S1.e0_4 (.int .i64 0) (.int .i64 0) (.int .i64 0) (.slice none 0 0)).1
    clear S1 hv
    go_wp2
    exact bodyPost_ret (v := .agg #[.int .i64 0, .int .i64 0, .int .i64 0, .slice none 0 0]) (by simp [results, Try.results12, go_sem, r0, r1, r2, r3]) rfl (MadeIf.no Hv.out ⟨_, rfl, World.ownsRow_nil _ _ _ _, HE.out⟩)
  · have Hv := Lib.hid hv
    have HB := Lib.hid (bytes_of hv)
    obtain ⟨b0, b1, b2, b3⟩ := S1.b1_4
    have HS := Lib.hid S1
    clear S1 hv
    go_wp2_with fail
    refine (change_any W H P A c xs (fun n => 255 - n) 36 #[] u1 (HS.out.arg HX.out) hl (enters_of Try.func36 (by kernel_rfl) rfl) (fun j w' hj _ => i_Invert1 _ (HB.out j hj).1 (HB.out j hj).2 w')).mono ?_
    rintro e u2 ⟨v, rfl, hO, hB⟩
    obtain ⟨A7, c7, rfl, _⟩ := hO.slice
    rw [List.length_map] at hO ⊢
    have S2 := HS.out.add hO hB
    obtain ⟨r0, r1, r2, r3⟩ := S2.b0_4
    have f0 := S2.f0 0
    have f1 := S2.f0 1
    have f2 := S2.f0 2
    have f3 := S2.f0 3
    have HE := Lib.hid (S2.e0_4 (.int .i64 W) (.int .i64 H) (.int .i64 P) (.slice A7 xs.length c7))
    clear S2 HS hO hB b0 b1 b2 b3
    go_wp2
    exact bodyPost_ret (v := .agg #[.int .i64 W, .int .i64 H, .int .i64 P, .slice A7 xs.length c7]) (by simp [results, Try.results12, go_sem, r0, r1, r2, r3]) rfl (MadeIf.yes Hv.out ⟨_, rfl, HE.out.2 _ (List.Mem.head _), HE.out.1⟩)
end Go.Proofs.Ytklleaojhoklaaa
