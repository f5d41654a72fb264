/- Facts of scaled images that are transposed, and of halves of doubled images, that the laws need. -/
import Derived.Test.YtcmjlpmdmejmaaaImgAr
import Derived.Test.YtcmjlpmdmejmaaaImgL
import Derived.Test.YtcmjlpmdmejmaaaDrawHlv
namespace Go.Proofs.Ytcmjlpmdmejmaaa
open Go.RowKit Go.Shelf
set_option linter.unusedSimpArgs false
set_option linter.unusedVariables false

theorem sumN_comm (g : Nat → Nat → Int) (n : Nat) : ∀ m : Nat, sumN (fun i => sumN (fun j => g i j) n) m = sumN (fun j => sumN (fun i => g i j) m) n
  | 0 => by
    show (0 : Int) = sumN (fun _ => (0 : Int)) n
    rw [sumN_const, Int.mul_zero]
  | m + 1 => by
    show sumN (fun i => sumN (fun j => g i j) n) m + sumN (fun j => g m j) n = sumN (fun j => sumN (fun i => g i j) m + g m j) n
    rw [sumN_comm g n m, sumN_add]
theorem saF_swap (W H a b : Nat) (f : Nat → Nat → Int) (x y : Nat) : saF H W b a (fun x y => f y x) x y = saF W H a b f y x := by
  have e1 : saF H W b a (fun x y => f y x) x y = sumN (fun r => sumN (fun c => f r c * (ovn c H x b : Int) * (ovn r W y a : Int)) H) W := sumN_ext (fun r _ => by rw [sumN_mul]; rfl)
  have e2 : saF W H a b f y x = sumN (fun r => sumN (fun c => f c r * (ovn c W y a : Int) * (ovn r H x b : Int)) W) H := sumN_ext (fun r _ => by rw [sumN_mul]; rfl)
  rw [e1, e2, sumN_comm]
  exact sumN_ext (fun c _ => sumN_ext (fun r _ => by rw [Int.mul_assoc, Int.mul_assoc, Int.mul_comm (ovn c H x b : Int)]))
theorem arF_swap (W H a b : Nat) (F : Nat → Nat → Nat → Int) (x y p : Nat) : arF H W b a (fun x y => F y x) x y p = arF W H a b F y x p := by
  unfold arF
  rw [saF_swap W H a b (fun x y => F x y p) x y, Nat.mul_comm H W]
theorem trn_law (W H P a b : Int) (xs : List Int) (hx : xs.length ≤ 256) : ∃ (X Y Z : Int) (ys : List Int), ys.length ≤ 2000 ∧ Hid (ScC 10 a b W H P xs X Y Z ys) ∧ Hid (ScC 12 a b W H P xs X Y Z ys) ∧
    (X = 0 ∨ (X ≠ 0 ∧ ∃ ts us vs zs : List Int, ts.length ≤ 2000 ∧ us.length ≤ 2000 ∧ vs.length ≤ 2000 ∧ zs.length ≤ 2000 ∧ Hid (ImC0 13 W H P xs H W P ts) ∧ Hid (ScC 10 b a H W P ts b a P us) ∧ Hid (ImC0 13 X Y Z ys b a P us) ∧
      Hid (ScC 14 b a H W P ts b a P vs) ∧ Hid (ScC 14 a b W H P xs a b P zs) ∧ Hid (ImC0 13 a b P zs b a P vs))) := by
  have h1 := iS_sc W H P a b xs (by omega)
  have h2 := sS_sc W H P a b xs (by omega)
  cases ho : scOk W H P xs a b
  · rw [ho] at h1 h2
    exact ⟨_, _, _, _, by simp, Lib.hid h1, Lib.hid h2, .inl rfl⟩
  · rw [ho] at h1 h2
    have ho' := ho
    unfold scOk at ho'
    rw [Bool.and_eq_true] at ho'
    obtain ⟨W, H, P, F, rfl, rfl, rfl, rfl, ok⟩ := vim_okJ ho'.1
    obtain ⟨a, b, _, rfl, rfl, _, ha, hb, _⟩ := vsh_nat ho'.2
    have okt : okJ H W P (fun x y => F y x) := okI.trn (show okI W H P F from ok)
    have k1 := iR_I (show okI W H P F from ok)
    have k2 := iS_I okt hb ha
    have k3 := iR_I (show okI a b P _ from ok.sca ha hb)
    have k4 := iAr_I okt hb ha
    have k5 := iAr_I ok ha hb
    have k6 := iR_I (show okI a b P _ from ok.are ha hb)
    have e : img b a P (arF H W b a (fun x y => F y x)) = img b a P (fun x y => arF W H a b F y x) := img_ext fun x y p _ _ _ => arF_swap W H a b F x y p
    rw [e] at k4
    refine ⟨_, _, _, _, by have := (ok.sca ha hb).bd; omega, Lib.hid (iS_I ok ha hb), Lib.hid (sS_I ok ha hb), .inr ⟨by omega, img H W P (fun x y => F y x), img b a P (fun x y => F (y * W / a) (x * H / b)), img b a P (fun x y => arF W H a b F y x), img a b P (arF W H a b F), by have := okt.bd; omega, ?_, ?_, by have := (ok.are ha hb).bd; omega, Lib.hid k1, Lib.hid k2, Lib.hid k3, Lib.hid k4, Lib.hid k5, Lib.hid k6⟩⟩
    · have := (okI.trn (show okI a b P _ from ok.sca ha hb)).bd; omega
    · have := (okI.trn (show okI a b P _ from ok.are ha hb)).bd; omega
def VldC (W H P : Int) (xs : List Int) (v : Bool) : Prop := ∀ (A : Option Addr) (c : Nat) (w : World), Rds .i64 w w.heap.size A xs → Calls Try.prog 9 #[.agg #[.int .i64 W, .int .i64 H, .int .i64 P, .slice A xs.length c]] w fun e w' => e = .returned (.bool v) ∧ Below w.heap.size w w'
theorem VldC.use {W H P : Int} {xs : List Int} {v : Bool} (h : Hid (VldC W H P xs v)) (A : Option Addr) (c : Nat) (w : World) (hr : Rds .i64 w w.heap.size A xs) : Calls Try.prog 9 #[.agg #[.int .i64 W, .int .i64 H, .int .i64 P, .slice A xs.length c]] w fun e w' => e = .returned (.bool v) ∧ Below w.heap.size w w' := h.out A c w hr
theorem hvd_law (W H P : Int) (xs : List Int) (hx : xs.length ≤ 256) : ∃ (X Y Z : Int) (ys : List Int), ys.length ≤ 2000 ∧ Hid (ImC0 6 W H P xs X Y Z ys) ∧ Hid (ImC0 8 W H P xs X Y Z ys) ∧
    (Hid (VldC W H P xs false) ∨ (Hid (VldC W H P xs true) ∧ (1 ≤ W ∧ W ≤ 16) ∧ (1 ≤ H ∧ H ≤ 16) ∧ (16 < 2 * W ∨ (2 * W ≤ 16 ∧ 16 < 2 * H) ∨ (2 * W ≤ 16 ∧ 2 * H ≤ 16 ∧ ∃ zs : List Int, zs.length ≤ 2000 ∧ Hid (ScC 10 (2 * W) (2 * H) W H P xs (2 * W) (2 * H) P zs) ∧ Hid (ImC0 6 (2 * W) (2 * H) P zs W H P xs))))) := by
  have h1 := iHv_im W H P xs (by omega)
  have h2 := sHv_im W H P xs (by omega)
  have hbd : (cond (hvOk W H P xs) (hvL W.toNat H.toNat P.toNat xs) []).length ≤ 2000 := by
    cases h : hvOk W H P xs
    · simp
    · unfold hvOk at h
      rw [Bool.and_eq_true] at h
      obtain ⟨W, H, P, rfl, rfl, rfl, _, hW, _, hH, _, hP, _⟩ := vim_nat h.1
      have := img_bd (W := W / 2) (H := H / 2) (P := P) (hvF (px W P xs)) (by omega) (by omega) hP
      show (img (W / 2) (H / 2) P (hvF (px W P xs))).length ≤ 2000
      omega
  have hV : VldC W H P xs (vim W H P xs) := fun A c w hr => iVimg_any W H P A c xs w hr (by omega)
  refine ⟨_, _, _, _, hbd, Lib.hid h1, Lib.hid h2, ?_⟩
  cases hv : vim W H P xs
  · rw [hv] at hV; exact .inl (Lib.hid hV)
  · rw [hv] at hV
    refine .inr ⟨Lib.hid hV, ?_⟩
    obtain ⟨W, H, P, F, rfl, rfl, rfl, rfl, ok⟩ := vim_okJ hv
    refine ⟨by have := ok.1; omega, by have := ok.2.1; omega, ?_⟩
    by_cases g1 : 16 < 2 * (W : Int)
    · exact .inl g1
    · by_cases g2 : 16 < 2 * (H : Int)
      · exact .inr (.inl ⟨by omega, g2⟩)
      · have hw : 1 ≤ 2 * W ∧ 2 * W ≤ 16 := by have := ok.1; omega
        have hh : 1 ≤ 2 * H ∧ 2 * H ≤ 16 := by have := ok.2.1; omega
        have k1 := iS_I ok hw hh
        have okd := ok.sca hw hh
        have k2 := iHv_im ((2 * W : Nat) : Int) ((2 * H : Nat) : Int) P (img (2 * W) (2 * H) P (fun x y => F (x * W / (2 * W)) (y * H / (2 * H)))) (by have := okd.bd; omega)
        have ho : hvOk ((2 * W : Nat) : Int) ((2 * H : Nat) : Int) P (img (2 * W) (2 * H) P (fun x y => F (x * W / (2 * W)) (y * H / (2 * H)))) = true := by
          unfold hvOk
          rw [okd.vim, decide_eq_true (by rw [Int.tmod_eq_emod_of_nonneg (by omega)]; omega), decide_eq_true (by rw [Int.tmod_eq_emod_of_nonneg (by omega)]; omega)]; rfl
        rw [ho] at k2
        have k2' : ImC0 6 ((2 * W : Nat) : Int) ((2 * H : Nat) : Int) P (img (2 * W) (2 * H) P (fun x y => F (x * W / (2 * W)) (y * H / (2 * H)))) (((2 * W : Nat) : Int) / 2) (((2 * H : Nat) : Int) / 2) P (hvL (2 * W) (2 * H) P (img (2 * W) (2 * H) P (fun x y => F (x * W / (2 * W)) (y * H / (2 * H))))) := k2
        have e : hvL (2 * W) (2 * H) P (img (2 * W) (2 * H) P (fun x y => F (x * W / (2 * W)) (y * H / (2 * H)))) = img W H P F := by
          rw [← hv_are _ ok.1.1 ok.2.1.1, ← dbl_same F ok.1.1 ok.2.1.1]
          have e2 : areL (2 * W) (2 * H) P (img (2 * W) (2 * H) P (arF W H (2 * W) (2 * H) F)) W H = img W H P (arF (2 * W) (2 * H) W H (arF W H (2 * W) (2 * H) F)) :=
            img_ext fun x y p hx hy hp => arF_ext (F := px (2 * W) P (img (2 * W) (2 * H) P (arF W H (2 * W) (2 * H) F))) (fun c r hc hr => by rw [← img_pxc (H := 2 * H) hp]; exact img_pxc2' _ hc hr hp)
          rw [e2, dbl_half F ok.1.1 ok.2.1.1]
        rw [e, show ((2 * W : Nat) : Int) / 2 = (W : Int) by omega, show ((2 * H : Nat) : Int) / 2 = (H : Int) by omega] at k2'
        have e1 : 2 * (W : Int) = ((2 * W : Nat) : Int) := by omega
        have e2 : 2 * (H : Int) = ((2 * H : Nat) : Int) := by omega
        refine .inr (.inr ⟨by omega, by omega, img (2 * W) (2 * H) P (fun x y => F (x * W / (2 * W)) (y * H / (2 * H))), by have := okd.bd; omega, Lib.hid ?_, Lib.hid ?_⟩)
        · rw [e1, e2]; exact k1
        · rw [e1, e2]; exact k2'
end Go.Proofs.Ytcmjlpmdmejmaaa
