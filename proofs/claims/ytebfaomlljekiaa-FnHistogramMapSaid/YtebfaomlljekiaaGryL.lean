/- Contract of the test for gray images of the laws; what the law of moved counts needs. -/
import Derived.Test.YtebfaomlljekiaaImgMp
import Derived.Test.YtebfaomlljekiaaHisI
namespace Go.Proofs.Ytebfaomlljekiaa
open Go.RowKit Go.Shelf
set_option linter.unusedSimpArgs false
set_option linter.unusedVariables false
set_option maxRecDepth 20000

set_option maxHeartbeats 8000000 in
theorem lGray_any (W H P : Int) (A : Option Addr) (c : Nat) (xs : List Int) (w : World) (hx : Rds .i64 w w.heap.size A xs) (hl : xs.length ≤ 2000000) :
    Calls Try.prog 20 #[.agg #[.int .i64 W, .int .i64 H, .int .i64 P, .slice A xs.length c]] w fun e w' => e = .returned (.bool (vpl W H P xs)) ∧ Below w.heap.size w w' := by
  have HX := Lib.hid hx
  have HV : Hid (vpl W H P xs = (vim W H P xs && decide (P = 1))) := Lib.hid rfl
  clear hx
  have S0 := (GS.start w).box' 25 #[.int .i64 W, .int .i64 H, .int .i64 P, .slice A xs.length c] w.heap.size (by simp)
  go_enter Try.func20, Try.ntmps20
  go_wp2_with fail
  generalize (w.alloc (.cells #[.int .i64 W, .int .i64 H, .int .i64 P, .slice A xs.length c] 25)) = u0 at *
  refine (iVimg_any W H P A c xs u0 (S0.arg HX.out) hl).mono ?_
  rintro e u1 ⟨rfl, hB⟩
  have S1 := S0.call hB
  clear hB S0
  cases hv : vim W H P xs
  · have HF : Hid (vpl W H P xs = false) := Lib.hid (by rw [HV.out, hv]; rfl)
    clear HV hv
    go_wp2
    go_ret
    exact ⟨ret_bool HF.out.symm, S1.below⟩
  · have HF : Hid (vpl W H P xs = decide (P = 1)) := Lib.hid (by rw [HV.out, hv]; rfl)
    clear HV hv
    obtain ⟨b0, b1, b2, b3⟩ := S1.b0_4
    by_cases h1 : P = 1
    all_goals
      go_wp2
      go_ret
      exact ⟨ret_bool (by rw [HF.out]; (first | rfl | (simp [h1]; done))), S1.below⟩
theorem lEqInts_atN (A A' : Option Addr) (c c' n n' : Nat) (q : List Int) (w : World) (hn : n = q.length) (hn' : n' = q.length) (hx : Rds .i64 w w.heap.size A q) (hy : Rds .i64 w w.heap.size A' q) (hl : q.length ≤ 2000000) :
    Calls Try.prog 22 #[.slice A n c, .slice A' n' c'] w fun e w' => e = .returned (.bool true) ∧ Below w.heap.size w w' := by
  subst hn hn'
  exact lEqInts_same A A' c c' q w hx hy hl
def OkC (f : FuncId) (W H P : Int) (xs : List Int) (b : Bool) : Prop :=
  ∀ (A : Option Addr) (c : Nat) (w : World), Rds .i64 w w.heap.size A xs → xs.length ≤ c → Calls Try.prog f #[.agg #[.int .i64 W, .int .i64 H, .int .i64 P, .slice A xs.length c]] w fun e w' => e = .returned (.bool b) ∧ Below w.heap.size w w'
theorem OkC.use {f : FuncId} {W H P : Int} {xs : List Int} {b : Bool} (h : Hid (OkC f W H P xs b)) (A : Option Addr) (c : Nat) (w : World) (hr : Rds .i64 w w.heap.size A xs) (hc : xs.length ≤ c) : Calls Try.prog f #[.agg #[.int .i64 W, .int .i64 H, .int .i64 P, .slice A xs.length c]] w fun e w' => e = .returned (.bool b) ∧ Below w.heap.size w w' := h.out A c w hr hc
theorem hmp_law (W H P : Int) (xs ls : List Int) (hx : xs.length ≤ 256) (hl : ls.length ≤ 300) : ∃ (X Y Z : Int) (ys : List Int) (ok : Bool), ys.length ≤ 2000 ∧ Hid (MpC 16 W H P xs ls X Y Z ys ok) ∧ Hid (MpC 17 W H P xs ls X Y Z ys ok) ∧
    (ok = false ∨ (ok = true ∧ ((Hid (OkC 20 W H P xs false)) ∨ (Hid (OkC 20 W H P xs true) ∧ ls.length = 256 ∧ Hid (∀ y ∈ ls, 0 ≤ y ∧ y ≤ 255) ∧ ∃ cs : List Int, cs.length = 256 ∧ Hid (HiC 21 W H P xs cs) ∧ Hid (HiC 21 X Y Z ys (mvL ls cs 256)) ∧
      Hid (∀ k m, k ≤ 256 → m < 256 → 0 ≤ (mvL ls cs k).getD m 0 ∧ (mvL ls cs k).getD m 0 ≤ 1000) ∧ Hid (∀ k, 0 ≤ cs.getD k 0 ∧ cs.getD k 0 ≤ 1000))))) := by
  have h1 := iMp_C W H P xs ls (by omega) (by omega)
  have h2 := sMp_C W H P xs ls (by omega) (by omega)
  cases ho : mpOk W H P xs ls
  · rw [ho] at h1 h2
    exact ⟨_, _, _, _, _, by simp, Lib.hid h1, Lib.hid h2, .inl rfl⟩
  · rw [ho] at h1 h2
    obtain ⟨hv, h256, hb⟩ := mpOk_parts ho
    have hm := vim_mem hv
    have hg : OkC 20 W H P xs (vpl W H P xs) := fun A c w hr hc => lGray_any W H P A c xs w hr (by omega)
    refine ⟨W, H, P, mpL ls xs, true, by rw [mpL_len]; omega, Lib.hid h1, Lib.hid h2, .inr ⟨rfl, ?_⟩⟩
    cases hp : vpl W H P xs
    · rw [hp] at hg
      exact .inl (Lib.hid hg)
    · rw [hp] at hg
      have hP : P = 1 := by unfold vpl at hp; rw [Bool.and_eq_true] at hp; exact of_decide_eq_true hp.2
      have hv2 : vim W H P (mpL ls xs) = true := map_vim hv (fun x h => mpF_bd h256 hb (hm x h))
      have hp2 : vpl W H P (mpL ls xs) = true := by unfold vpl; rw [hv2, decide_eq_true hP]; rfl
      have h3 := iHi W H P xs (by omega)
      have h4 := iHi W H P (mpL ls xs) (by rw [mpL_len]; omega)
      have e3 : hisL W H P xs = hist xs := by unfold hisL; rw [hp]; rfl
      have e4 : hisL W H P (mpL ls xs) = hist (mpL ls xs) := by unfold hisL; rw [hp2]; rfl
      rw [e3] at h3
      rw [e4, ← mvL_all h256 hb hm] at h4
      exact .inr ⟨Lib.hid hg, h256, Lib.hid hb, hist xs, hist_len xs, Lib.hid h3, Lib.hid h4, Lib.hid (fun k m hk hm' => by have := mvL_bd h256 hb (fun x h => (hm x h).1) k hk m hm'; omega), Lib.hid (fun k => by have := hist_bd xs k; omega)⟩
end Go.Proofs.Ytebfaomlljekiaa
