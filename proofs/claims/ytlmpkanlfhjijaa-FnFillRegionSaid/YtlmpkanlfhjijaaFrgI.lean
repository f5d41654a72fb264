/- Contract of FillRegion in the program. -/
import Derived.Test.YtlmpkanlfhjijaaFrgP
import Derived.Test.YtlmpkanlfhjijaaGap
namespace Go.Proofs.Ytlmpkanlfhjijaa
open Go.RowKit Go.Shelf
set_option linter.unusedSimpArgs false
set_option linter.unusedVariables false
set_option maxRecDepth 20000

set_option maxHeartbeats 16000000 in
theorem i_FillRegion (W H P : Int) (A A3 A' : Option Addr) (c n c3 c' : Nat) (xs rs q0 : List Int) (w : World) (hx : Rds .i64 w w.heap.size A xs) (hl : xs.length ≤ 2000000) (hlc : xs.length ≤ c) (hr : Rds .i64 w w.heap.size A3 rs) (hrl : rs.length = 3 * n) (hn : n ≤ 2000000) (hy : Rds .i64 w w.heap.size A' q0) (hl' : q0.length ≤ 2000000) :
    Calls Try.prog 27 #[.agg #[.int .i64 W, .int .i64 H, .int .i64 P, .slice A xs.length c], .slice A3 n c3, .slice A' q0.length c'] w (MadeIc (frgOk W H P xs rs n q0) W H P (frgL W.toNat H.toNat P.toNat xs q0 rs n) w) := by
  have HX := Lib.hid hx
  have HY := Lib.hid hy
  have HR := Lib.hid hr
  have HRL := Lib.hid hrl
  have HV : Hid (frgOk W H P xs rs n q0 = (vim W H P xs && (regB rs n && (decide ((q0.length : Int) = P) && allB 0 255 q0)))) := Lib.hid rfl
  clear hx hy hr hrl
  have S0 := ((GS.start w).box' 25 #[.int .i64 W, .int .i64 H, .int .i64 P, .slice A xs.length c] w.heap.size (by simp)).box' 25 #[.int .i64 0, .int .i64 0, .int .i64 0, .slice none 0 0] (w.heap.size + 1) (by simp)
  go_enter Try.func27, Try.ntmps27
  go_wp2_with fail
  generalize (w.alloc (.cells #[.int .i64 W, .int .i64 H, .int .i64 P, .slice A xs.length c] 25)).alloc (.cells #[.int .i64 0, .int .i64 0, .int .i64 0, .slice none 0 0] 25) = u0 at *
  refine (iVimg_any W H P A c xs u0 (S0.arg HX.out) hl).mono ?_
  rintro e u1 ⟨rfl, hB⟩
  have HS := Lib.hid (S0.call hB)
  clear hB S0
  cases hv : vim W H P xs
  · have HF : Hid (frgOk W H P xs rs n q0 = false) := Lib.hid (by rw [HV.out, hv]; rfl)
    obtain ⟨r0, r1, r2, r3⟩ := HS.out.b0_4
    have f0 := HS.out.f0 0
    have f1 := HS.out.f0 1
    have f2 := HS.out.f0 2
    have f3 := HS.out.f0 3
    have HE := Lib.hid (HS.out.e0_4 (.int .i64 0) (.int .i64 0) (.int .i64 0) (.slice none 0 0)).1
    clear HV hv HS
    go_wp2
    exact bodyPost_ret (v := .tuple #[.agg #[.int .i64 0, .int .i64 0, .int .i64 0, .slice none 0 0], .bool false]) (by simp [results, Try.results27, go_sem, r0, r1, r2, r3]) rfl ⟨_, by rw [HF.out]; rfl, by rw [HF.out]; exact World.ownsRow_nil _ _ _ _, HE.out⟩
  · have Hv := Lib.hid hv
    clear hv
    go_wp2_with fail
    refine (i_ValidRegion A3 n c3 u1.heap.size rs u1 HRL.out (HS.out.arg HR.out) (Nat.le_refl _) hn).mono ?_
    rintro e u2 ⟨rfl, hB⟩
    have HS2 := Lib.hid (HS.out.call hB)
    clear hB HS
    cases hg : regB rs n
    · have HF : Hid (frgOk W H P xs rs n q0 = false) := Lib.hid (by rw [HV.out, hg]; simp)
      obtain ⟨r0, r1, r2, r3⟩ := HS2.out.b0_4
      have f0 := HS2.out.f0 0
      have f1 := HS2.out.f0 1
      have f2 := HS2.out.f0 2
      have f3 := HS2.out.f0 3
      have HE := Lib.hid (HS2.out.e0_4 (.int .i64 0) (.int .i64 0) (.int .i64 0) (.slice none 0 0)).1
      clear HV hg HS2
      go_wp2
      exact bodyPost_ret (v := .tuple #[.agg #[.int .i64 0, .int .i64 0, .int .i64 0, .slice none 0 0], .bool false]) (by simp [results, Try.results27, go_sem, r0, r1, r2, r3]) rfl ⟨_, by rw [HF.out]; rfl, by rw [HF.out]; exact World.ownsRow_nil _ _ _ _, HE.out⟩
    · have HG := Lib.hid (regB_of hg)
      obtain ⟨b0, b1, b2, b3⟩ := HS2.out.b1_4
      clear hg
      go_wp2_with fail
      refine (iVpx2_any A' c' u2.heap.size q0 P u2 (HS2.out.arg HY.out) (by omega)).mono ?_
      rintro e u9 ⟨rfl, rfl⟩
      cases hq : (decide ((q0.length : Int) = P) && allB 0 255 q0)
      · have HF : Hid (frgOk W H P xs rs n q0 = false) := Lib.hid (by rw [HV.out, hq]; simp)
        obtain ⟨r0, r1, r2, r3⟩ := HS2.out.b0_4
        have f0 := HS2.out.f0 0
        have f1 := HS2.out.f0 1
        have f2 := HS2.out.f0 2
        have f3 := HS2.out.f0 3
        have HE := Lib.hid (HS2.out.e0_4 (.int .i64 0) (.int .i64 0) (.int .i64 0) (.slice none 0 0)).1
        clear HV hq HS2 b0 b1 b2 b3
        go_wp2
        exact bodyPost_ret (v := .tuple #[.agg #[.int .i64 0, .int .i64 0, .int .i64 0, .slice none 0 0], .bool false]) (by simp [results, Try.results27, go_sem, r0, r1, r2, r3]) rfl ⟨_, by rw [HF.out]; rfl, by rw [HF.out]; exact World.ownsRow_nil _ _ _ _, HE.out⟩
      · have HF : Hid (frgOk W H P xs rs n q0 = true) := Lib.hid (by rw [HV.out, Hv.out, regB_yes HG.out, hq]; rfl)
        have hqP : (q0.length : Int) = P := by rw [Bool.and_eq_true] at hq; exact of_decide_eq_true hq.1
        have hv := Hv.out
        clear HV Hv hq b0 b1 b2 b3
        obtain ⟨W, H, P, rfl, rfl, rfl, hW1, hW, hH1, hH, hP1, hP, hxl, _⟩ := vim_nat hv
        have HXL := Lib.hid hxl
        have HQL := Lib.hid (show q0.length = P by omega)
        have hq4 : q0.length ≤ 4 := by omega
        have HML : Hid (img W H P (pntF rs n (fun _ _ p => q0.getD p 0) (pxc W P xs)) = frgL W H P xs q0 rs n) := Lib.hid (by
          unfold frgL
          refine img_ext fun i j p hi hj hp => ?_
          have e1 : ∀ (W : Nat) (zs : List Int) (a b : Nat), pxc W P zs a b p = px W P zs a b p := fun W zs a b => pxl_get _ _ _ _ _ _ hp
          unfold pntF
          simp only [e1])
        clear hv hxl hqP
        obtain ⟨cq, hcq⟩ : ∃ cq : Nat → Int, cq = fun p => q0.getD p 0 := ⟨_, rfl⟩
        have HCo : Hid (∀ w' : World, Rds .i64 w' w'.heap.size A' q0 → Calls Try.prog 66 #[.slice A' q0.length c'] w' fun e w'' => e = .returned (colV cq) ∧ Below w'.heap.size w' w'') := Lib.hid (fun w' hr => by rw [hcq]; exact colorOf_any A' c' q0 w' hr hq4)
        have HCQ := Lib.hid (show (fun (_ _ : Nat) (p : Nat) => q0.getD p 0) = fun _ _ => cq from by rw [hcq])
        rw [HCQ.out] at HML
        clear hcq
        go_wp2_with fail
        refine (HCo.out _ (HS2.out.arg HY.out)).mono ?_
        rintro e u3 ⟨rfl, hB3⟩
        obtain ⟨pc, hpc⟩ : ∃ pc, pc = u3.heap.size := ⟨_, rfl⟩
        have HS3 := Lib.hid ((HS2.out.call hB3).box' 70 #[.int .i64 (cq 0), .int .i64 (cq 1), .int .i64 (cq 2), .int .i64 (cq 3)] pc hpc)
        clear hB3 HS2
        simp only [colV]
        go_upto_region 4 with fail
        rw [← hpc]
        generalize u3.alloc (.cells #[.int .i64 (cq 0), .int .i64 (cq 1), .int .i64 (cq 2), .int .i64 (cq 3)] 70) = u5 at *
        clear hpc
        obtain ⟨b0, b1, b2, b3⟩ := HS3.out.b2_4
        go_wp2_with fail
        refine (paintF_any W H P hW1 hW hH1 hH hP1 hP A A3 c n c3 xs rs HXL.out hlc u5 (HS3.out.arg HX.out) (HS3.out.arg HR.out) HRL.out hn HG.out (fun _ _ => cq) cq rfl pc (HS3.out.bx (List.Mem.head _))).mono ?_
        rintro e u4 ⟨v4, rfl, hO4, hB4⟩
        rw [HML.out] at hO4
        obtain ⟨A4, c4, rfl, hc4⟩ := hO4.slice
        have HS4 := Lib.hid (HS3.out.add hO4 hB4)
        obtain ⟨r0, r1, r2, r3⟩ := HS4.out.b1_4
        have f0 := HS4.out.f1 0
        have f1 := HS4.out.f1 1
        have f2 := HS4.out.f1 2
        have f3 := HS4.out.f1 3
        have HE := Lib.hid (HS4.out.e1_4 (.int .i64 (W : Int)) (.int .i64 (H : Int)) (.int .i64 (P : Int)) (.slice A4 (frgL W H P xs q0 rs n).length c4))
        clear hO4 hB4 HS4 HS3 b0 b1 b2 b3
        generalize (frgL W H P xs q0 rs n).length = nl at *
        go_wp2
        exact bodyPost_ret (v := .tuple #[.agg #[.int .i64 (W : Int), .int .i64 (H : Int), .int .i64 (P : Int), .slice A4 nl c4], .bool true]) (by simp [results, Try.results27, go_sem, r0, r1, r2, r3]) rfl ⟨_, by rw [HF.out]; rfl, by rw [HF.out]; exact HE.out.2 _ (List.Mem.head _), HE.out.1⟩
end Go.Proofs.Ytlmpkanlfhjijaa
