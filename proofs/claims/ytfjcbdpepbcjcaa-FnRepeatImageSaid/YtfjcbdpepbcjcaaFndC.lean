/- Contracts of canMatch and partPlaces in the program. -/
import Derived.Test.YtfjcbdpepbcjcaaFndS
import Derived.Test.YtfjcbdpepbcjcaaFndB
import Derived.Test.YtfjcbdpepbcjcaaPlc
namespace Go.Proofs.Ytfjcbdpepbcjcaa
open Go.RowKit Go.Shelf
set_option linter.unusedSimpArgs false
set_option linter.unusedVariables false
set_option maxRecDepth 20000

set_option maxHeartbeats 4000000 in
theorem iMatch_any (W H P W' H' P' : Int) (A A' : Option Addr) (c c' : Nat) (xs ps : List Int) (w : World) (hx : Rds .i64 w w.heap.size A xs) (hl : xs.length ≤ 2000000) (hy : Rds .i64 w w.heap.size A' ps) (hl' : ps.length ≤ 2000000) :
    Calls Try.prog 29 #[.agg #[.int .i64 W, .int .i64 H, .int .i64 P, .slice A xs.length c], .agg #[.int .i64 W', .int .i64 H', .int .i64 P', .slice A' ps.length c']] w fun e w' => e = .returned (.bool (fdB W H P xs W' H' P' ps)) ∧ Below w.heap.size w w' := by
  have HX := Lib.hid hx
  have HY := Lib.hid hy
  clear hx hy
  have S0 : GS w ((w.alloc (.cells #[.int .i64 W, .int .i64 H, .int .i64 P, .slice A xs.length c] 30)).alloc (.cells #[.int .i64 W', .int .i64 H', .int .i64 P', .slice A' ps.length c'] 30)) [] [⟨w.heap.size + 1, 30, #[.int .i64 W', .int .i64 H', .int .i64 P', .slice A' ps.length c']⟩, ⟨w.heap.size, 30, #[.int .i64 W, .int .i64 H, .int .i64 P, .slice A xs.length c]⟩] :=
    GS.box' (GS.box' (GS.start w) _ _ w.heap.size (by simp)) _ _ (w.heap.size + 1) (by simp)
  have HV : Hid (fdB W H P xs W' H' P' ps = (vim W H P xs && (vim W' H' P' ps && (decide (P = P') && (decide (W' ≤ W) && decide (H' ≤ H)))))) := Lib.hid rfl
  go_enter Try.func29, Try.ntmps29
  go_wp2_with fail
  generalize (w.alloc (.cells #[.int .i64 W, .int .i64 H, .int .i64 P, .slice A xs.length c] 30)).alloc (.cells #[.int .i64 W', .int .i64 H', .int .i64 P', .slice A' ps.length c'] 30) = u0 at *
  refine (iVimg_any W H P A c xs u0 (S0.arg HX.out) hl).mono ?_
  rintro e u1 ⟨rfl, hB⟩
  have S1 := Lib.hid (S0.call hB)
  clear hB S0
  cases hv : vim W H P xs
  · have HF : Hid (fdB W H P xs W' H' P' ps = false) := Lib.hid (by rw [HV.out, hv]; rfl)
    clear HV hv
    go_wp2
    go_ret
    exact ⟨ret_bool HF.out.symm, S1.out.below⟩
  have Hv := Lib.hid hv
  clear hv
  obtain ⟨p0, p1, p2, p3⟩ := S1.out.b0_4
  go_wp2_with fail
  clear p0 p1 p2 p3
  refine (iVimg_any W' H' P' A' c' ps u1 (S1.out.arg HY.out) hl').mono ?_
  rintro e u2 ⟨rfl, hB⟩
  have S2 := Lib.hid (S1.out.call hB)
  clear hB S1
  cases hv : vim W' H' P' ps
  · have HF : Hid (fdB W H P xs W' H' P' ps = false) := Lib.hid (by rw [HV.out, Hv.out, hv]; rfl)
    clear HV hv
    go_wp2
    go_ret
    exact ⟨ret_bool HF.out.symm, S2.out.below⟩
  have HF : Hid (fdB W H P xs W' H' P' ps = (decide (P = P') && (decide (W' ≤ W) && decide (H' ≤ H)))) := Lib.hid (by rw [HV.out, Hv.out, hv]; rfl)
  clear HV Hv hv
  obtain ⟨p0, p1, p2, p3⟩ := S2.out.b0_4
  obtain ⟨m0, m1, m2, m3⟩ := S2.out.b1_4
  by_cases hP : P = P'
  · subst hP
    by_cases hW : W' ≤ W
    · by_cases hH : H' ≤ H
      all_goals
        have HG := Lib.hid (show (decide (P = P) && (decide (W' ≤ W) && decide (H' ≤ H))) = decide (H' ≤ H) by simp [hW])
        have HK := Lib.hid hH
        go_wp2
        go_ret
        exact ⟨ret_bool (by rw [HF.out, HG.out] <;> first | exact (decide_eq_true HK.out).symm | exact (decide_eq_false HK.out).symm | simpa using HK.out | simp [HK.out]), S2.out.below⟩
    · have HG := Lib.hid (show (decide (P = P) && (decide (W' ≤ W) && decide (H' ≤ H))) = false by simp [hW])
      go_wp2
      go_ret
      exact ⟨ret_bool (by rw [HF.out, HG.out]), S2.out.below⟩
  · have HG := Lib.hid (show (decide (P = P') && (decide (W' ≤ W) && decide (H' ≤ H))) = false by simp [hP])
    go_wp2
    go_ret
    exact ⟨ret_bool (by rw [HF.out, HG.out]), S2.out.below⟩
set_option maxHeartbeats 4000000 in
theorem iParts_any (W H P PW PH P' : Nat) (hW : W ≤ 16) (hH : H ≤ 16) (hw : PW ≤ W) (hh : PH ≤ H) (v v' : Value) (w : World) :
    Calls Try.prog 31 #[.agg #[.int .i64 (W : Int), .int .i64 (H : Int), .int .i64 (P : Int), v], .agg #[.int .i64 (PW : Int), .int .i64 (PH : Int), .int .i64 (P' : Int), v']] w fun e w' => ∃ bp bw bh, e = .returned (.func (.func 78) #[] #[.pointer (some ⟨bp, 0, none⟩), .pointer (some ⟨bh, 0, none⟩), .pointer (some ⟨bw, 0, none⟩)]) ∧ w.heap.size ≤ bp ∧ w.heap.size ≤ bw ∧ w.heap.size ≤ bh ∧ PB bp bw bh 0 1 0 1 (W - PW + 1) (H - PH + 1) w' ∧ Below w.heap.size w w' := by
  have S0 := ((GS.start w).box' 30 #[.int .i64 (W : Int), .int .i64 (H : Int), .int .i64 (P : Int), v] w.heap.size (by simp)).box' 30 #[.int .i64 (PW : Int), .int .i64 (PH : Int), .int .i64 (P' : Int), v'] (w.heap.size + 1) (by simp)
  obtain ⟨u0, hu⟩ : ∃ u, u = (w.alloc (.cells #[.int .i64 (W : Int), .int .i64 (H : Int), .int .i64 (P : Int), v] 30)).alloc (.cells #[.int .i64 (PW : Int), .int .i64 (PH : Int), .int .i64 (P' : Int), v'] 30) := ⟨_, rfl⟩
  rw [← hu] at S0
  have S1 := Lib.hid (S0.box 86 #[.int .i64 0, .int .i64 1])
  have HU := Lib.hid hu
  obtain ⟨p0, p1, p2, p3⟩ := S0.b0_4
  obtain ⟨m0, m1, m2, m3⟩ := S0.b1_4
  have hpl := S0.l0
  have hml := S0.l1
  have hsz := S0.below.size
  clear hu S0
  have r1 : (W : Int) - (PW : Int) + 1 = ((W - PW + 1 : Nat) : Int) := by omega
  have r2 : (H : Int) - (PH : Int) + 1 = ((H - PH + 1 : Nat) : Int) := by omega
  have HR := Lib.hid (And.intro r1 r2)
  clear r1 r2
  go_enter Try.func31, Try.ntmps31
  go_wp2_with fail
  rw [HR.out.1, HR.out.2]
  (try rw [← HU.out])
  refine (places_any 0 1 0 1 (W - PW + 1) (H - PH + 1) (u0.alloc (.cells #[.int .i64 0, .int .i64 1] 86))).mono ?_
  rintro e u4 ⟨rfl, hP, hB⟩
  have HE := Lib.hid (S1.out.call hB).below
  have HPB := Lib.hid hP
  have hs1 := S1.out.below.size
  clear hP hB S1 p0 p1 p2 p3 m0 m1 m2 m3 hpl hml
  generalize u0.alloc (.cells #[.int .i64 0, .int .i64 1] 86) = u3 at *
  go_wp2
  go_ret
  exact ⟨_, _, _, rfl, by omega, by omega, by omega, HPB.out, HE.out⟩
end Go.Proofs.Ytfjcbdpepbcjcaa
