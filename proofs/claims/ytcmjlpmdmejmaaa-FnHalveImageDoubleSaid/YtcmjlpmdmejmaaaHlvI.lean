/- Contract of HalveImage in the program. -/
import Derived.Test.YtcmjlpmdmejmaaaScaT
namespace Go.Proofs.Ytcmjlpmdmejmaaa
open Go.RowKit Go.Shelf
set_option linter.unusedSimpArgs false
set_option linter.unusedVariables false
set_option maxRecDepth 20000

def hvOk (W H P : Int) (xs : List Int) : Bool := vim W H P xs && (decide (W.tmod 2 = 0) && decide (H.tmod 2 = 0))
/-- The numbers of an image of half the size. -/
def hvL (W H P : Nat) (xs : List Int) : List Int := img (W / 2) (H / 2) P (hvF (px W P xs))
theorem hv_are {k l P : Nat} (xs : List Int) (hk : 1 ≤ k) (hl : 1 ≤ l) : areL (2 * k) (2 * l) P xs k l = hvL (2 * k) (2 * l) P xs := by
  unfold areL hvL
  rw [show 2 * k / 2 = k by omega, show 2 * l / 2 = l by omega]
  exact img_ext fun x y p hx hy hp => arF_half (px (2 * k) P xs) hk hl hx hy
set_option maxHeartbeats 8000000 in
theorem i_HalveImage (W H P : Int) (A : Option Addr) (c : Nat) (xs : List Int) (w : World) (hx : Rds .i64 w w.heap.size A xs) (hl : xs.length ≤ 2000000) (hlc : xs.length ≤ c) :
    Calls Try.prog 6 #[.agg #[.int .i64 W, .int .i64 H, .int .i64 P, .slice A xs.length c]] w (MadeIf (hvOk W H P xs) (W / 2) (H / 2) P (hvL W.toNat H.toNat P.toNat xs) w) := by
  have HX := Lib.hid hx
  clear hx
  have S0 : GS w ((w.alloc (.cells #[.int .i64 W, .int .i64 H, .int .i64 P, .slice A xs.length c] 25)).alloc (.cells #[.int .i64 0, .int .i64 0, .int .i64 0, .slice none 0 0] 25)) [] [⟨(w.heap.size + 1), 25, #[.int .i64 0, .int .i64 0, .int .i64 0, .slice none 0 0]⟩, ⟨w.heap.size, 25, #[.int .i64 W, .int .i64 H, .int .i64 P, .slice A xs.length c]⟩] := GS.box' (GS.box' (GS.start w) 25 #[.int .i64 W, .int .i64 H, .int .i64 P, .slice A xs.length c] w.heap.size (by simp)) 25 #[.int .i64 0, .int .i64 0, .int .i64 0, .slice none 0 0] (w.heap.size + 1) (by simp)
  have HV : Hid (hvOk W H P xs = (vim W H P xs && (decide (W.tmod 2 = 0) && decide (H.tmod 2 = 0)))) := Lib.hid rfl
  have d1 := S0.b1_4
  obtain ⟨d0, d1, d2, d3⟩ := d1
  have HS := Lib.hid S0
  have zero : ∀ {u : World}, Below (((w.alloc (.cells #[.int .i64 W, .int .i64 H, .int .i64 P, .slice A xs.length c] 25)).alloc (.cells #[.int .i64 0, .int .i64 0, .int .i64 0, .slice none 0 0] 25))).heap.size ((w.alloc (.cells #[.int .i64 W, .int .i64 H, .int .i64 P, .slice A xs.length c] 25)).alloc (.cells #[.int .i64 0, .int .i64 0, .int .i64 0, .slice none 0 0] 25)) u → True := fun _ => trivial
  clear S0 zero
  by_cases hW2 : W.tmod 2 = 0
  · by_cases hH2 : H.tmod 2 = 0
    · cases hv : vim W H P xs
      · have HF : Hid (hvOk W H P xs = false) := Lib.hid (by rw [HV.out, hv]; rfl)
        have HN : Hid (∀ a b, scOk W H P xs a b = false) := Lib.hid (fun a b => by unfold scOk; rw [hv]; rfl)
        clear hv
        go_enter Try.func6, Try.ntmps6
        go_wp2_with fail
        generalize (w.alloc (.cells #[.int .i64 W, .int .i64 H, .int .i64 P, .slice A xs.length c] 25)).alloc (.cells #[.int .i64 0, .int .i64 0, .int .i64 0, .slice none 0 0] 25) = u at *
        refine (i_ScaleArea W H P _ _ A c xs u (HS.out.arg HX.out) hl hlc).mono ?_
        rintro e u2 h
        rw [HN.out] at h
        obtain ⟨v2, rfl, hO2, hB2⟩ := h
        have S2 := HS.out.add hO2 hB2
        obtain ⟨A2, c2, rfl, _⟩ := hO2.slice
        obtain ⟨r0, r1, r2, r3⟩ := S2.b0_4
        have f0 := S2.f0 0
        have f1 := S2.f0 1
        have f2 := S2.f0 2
        have f3 := S2.f0 3
        have HE := Lib.hid (S2.e0_4 (.int .i64 0) (.int .i64 0) (.int .i64 0) (.slice A2 0 c2))
        clear S2 HS hO2 hB2 d0 d1 d2 d3
        go_wp2
        exact bodyPost_ret (v := .agg #[.int .i64 0, .int .i64 0, .int .i64 0, .slice A2 0 c2]) (by simp [results, Try.results6, go_sem, r0, r1, r2, r3]) rfl (MadeIf.no HF.out ⟨_, rfl, HE.out.2 _ (List.Mem.head _), HE.out.1⟩)
      · have HF : Hid (hvOk W H P xs = true) := Lib.hid (by rw [HV.out, hv, decide_eq_true hW2, decide_eq_true hH2]; rfl)
        obtain ⟨W, H, P, rfl, rfl, rfl, hW1, hW, hH1, hH, hP1, hP, hln, hby⟩ := vim_nat hv
        rw [Int.tmod_eq_emod_of_nonneg (by omega)] at hW2 hH2
        obtain ⟨k, hWd⟩ : ∃ k, W = 2 * k := ⟨W / 2, by omega⟩
        obtain ⟨l, hHd⟩ : ∃ l, H = 2 * l := ⟨H / 2, by omega⟩
        have hsc : scOk (W : Int) (H : Int) P xs (k : Int) (l : Int) = true := by
          unfold scOk vsh
          rw [hv, decide_eq_true (show (1 : Int) ≤ k ∧ (k : Int) ≤ 16 by omega), decide_eq_true (show (1 : Int) ≤ l ∧ (l : Int) ≤ 16 by omega), decide_eq_true (show (1 : Int) ≤ P ∧ (P : Int) ≤ 4 by omega)]; rfl
        have hArs : areL W H P xs k l = hvL W H P xs := by rw [hWd, hHd]; exact hv_are xs (by omega) (by omega)
        have t1 : (W : Int).tmod 2 = 0 := by rw [Int.tmod_eq_emod_of_nonneg (by omega)]; omega
        have t2 : (H : Int).tmod 2 = 0 := by rw [Int.tmod_eq_emod_of_nonneg (by omega)]; omega
        have t3 : (W : Int).tdiv 2 = (k : Int) := by rw [Int.tdiv_eq_ediv_of_nonneg (by omega)]; omega
        have t4 : (H : Int).tdiv 2 = (l : Int) := by rw [Int.tdiv_eq_ediv_of_nonneg (by omega)]; omega
        have t5 : (W : Int) / 2 = (k : Int) := by omega
        have t6 : (H : Int) / 2 = (l : Int) := by omega
        have t7 : (W : Int) % 2 = 0 := by omega
        have t8 : (H : Int) % 2 = 0 := by omega
        have hk8 : k ≤ 16 := by omega
        have hl8 : l ≤ 16 := by omega
        have k1 : IntKind.i64.wrap (k : Int) = (k : Int) := IntWalk.i64_in _ (by omega)
        have k2 : IntKind.i64.wrap (l : Int) = (l : Int) := IntWalk.i64_in _ (by omega)
        have HA := Lib.hid (fun u h => i_ScaleArea (W : Int) (H : Int) P (k : Int) (l : Int) A c xs u h hl hlc)
        have Hsc := Lib.hid hsc
        have HArs := Lib.hid hArs
        rw [t5, t6]
        clear hv hWd hHd hsc hArs hW2 hH2 hln hby
        go_enter Try.func6, Try.ntmps6
        go_wp2_with fail
        generalize (w.alloc (.cells #[.int .i64 (W : Int), .int .i64 (H : Int), .int .i64 (P : Int), .slice A xs.length c] 25)).alloc (.cells #[.int .i64 0, .int .i64 0, .int .i64 0, .slice none 0 0] 25) = u at *
        refine (HA.out u (HS.out.arg HX.out)).mono ?_
        rintro e u2 h
        rw [Hsc.out] at h
        obtain ⟨v2, rfl, hO2, hB2⟩ := h
        have hO2' : Own u2 u.heap.size v2 (hvL W H P xs) := by rw [← HArs.out]; exact hO2
        have S2 := HS.out.add hO2' hB2
        obtain ⟨A2, c2, rfl, _⟩ := hO2'.slice
        obtain ⟨r0, r1, r2, r3⟩ := S2.b0_4
        have f0 := S2.f0 0
        have f1 := S2.f0 1
        have f2 := S2.f0 2
        have f3 := S2.f0 3
        have HE := Lib.hid (S2.e0_4 (.int .i64 (k : Int)) (.int .i64 (l : Int)) (.int .i64 (P : Int)) (.slice A2 (hvL W H P xs).length c2))
        clear S2 HS hO2 hO2' hB2 d0 d1 d2 d3
        show _
        go_wp2
        exact bodyPost_ret (v := .agg #[.int .i64 (k : Int), .int .i64 (l : Int), .int .i64 (P : Int), .slice A2 (hvL W H P xs).length c2]) (by simp [results, Try.results6, go_sem, r0, r1, r2, r3]) rfl (MadeIf.yes HF.out ⟨_, rfl, HE.out.2 _ (List.Mem.head _), HE.out.1⟩)
    · have HF : Hid (hvOk W H P xs = false) := Lib.hid (by rw [HV.out, decide_eq_false hH2]; simp)
      go_enter Try.func6, Try.ntmps6
      obtain ⟨r0, r1, r2, r3⟩ := HS.out.b0_4
      have f0 := HS.out.f0 0
      have f1 := HS.out.f0 1
      have f2 := HS.out.f0 2
      have f3 := HS.out.f0 3
      have HE := Lib.hid (HS.out.e0_4 (.int .i64 0) (.int .i64 0) (.int .i64 0) (.slice none 0 0))
      have HB := Lib.hid HS.out.below
      clear HS
      go_wp2
      exact bodyPost_ret (v := .agg #[.int .i64 0, .int .i64 0, .int .i64 0, .slice none 0 0]) (by simp [results, Try.results6, go_sem, r0, r1, r2, r3]) rfl (MadeIf.no HF.out ⟨_, rfl, World.ownsRow_nil _ _ _ _, by first | exact HB.out | exact HE.out.1⟩)
  · have HF : Hid (hvOk W H P xs = false) := Lib.hid (by rw [HV.out, decide_eq_false hW2]; simp)
    go_enter Try.func6, Try.ntmps6
    obtain ⟨r0, r1, r2, r3⟩ := HS.out.b0_4
    have f0 := HS.out.f0 0
    have f1 := HS.out.f0 1
    have f2 := HS.out.f0 2
    have f3 := HS.out.f0 3
    have HE := Lib.hid (HS.out.e0_4 (.int .i64 0) (.int .i64 0) (.int .i64 0) (.slice none 0 0))
    have HB := Lib.hid HS.out.below
    clear HS
    go_wp2
    exact bodyPost_ret (v := .agg #[.int .i64 0, .int .i64 0, .int .i64 0, .slice none 0 0]) (by simp [results, Try.results6, go_sem, r0, r1, r2, r3]) rfl (MadeIf.no HF.out ⟨_, rfl, World.ownsRow_nil _ _ _ _, by first | exact HB.out | exact HE.out.1⟩)
end Go.Proofs.Ytcmjlpmdmejmaaa
