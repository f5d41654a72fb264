/- Facts of repeated images that the laws need. -/
import Derived.Test.YtmkfgcmabmocfaaRep
import Derived.Test.YtmkfgcmabmocfaaOkJ
import Derived.Test.YtmkfgcmabmocfaaImgSc
import Derived.Test.YtmkfgcmabmocfaaImgF
import Derived.Test.YtmkfgcmabmocfaaImgC
namespace Go.Proofs.Ytmkfgcmabmocfaa
open Go.RowKit Go.Shelf
set_option linter.unusedSimpArgs false
set_option linter.unusedVariables false

theorem iRp_sc (W H P a b : Int) (xs : List Int) (hx : xs.length ≤ 2000) : ScC 29 a b W H P xs (cond (scOk W H P xs a b) a 0) (cond (scOk W H P xs a b) b 0) (cond (scOk W H P xs a b) P 0) (cond (scOk W H P xs a b) (repL W.toNat H.toNat P.toNat xs a.toNat b.toNat) []) :=
  fun A c w hr hc => (by first | exact i_RepeatImage W H P a b A c xs w hr (by omega) hc | exact s_RepeatImage W H P a b A c xs w hr (by omega) hc : Calls _ _ _ _ _).mono fun _ _ h => ShI.of h
theorem iRp_I {W H P a b : Nat} {F : Nat → Nat → Nat → Int} (ok : okJ W H P F) (ha : 1 ≤ a ∧ a ≤ 16) (hb : 1 ≤ b ∧ b ≤ 16) : ScC 29 a b W H P (img W H P F) a b P (img a b P (fun x y => F (x % W) (y % H))) := by
  have hs : vsh a b P = true := by
    have h3 := ok.2.2.1
    unfold vsh
    rw [decide_eq_true (show (1 : Int) ≤ a ∧ (a : Int) ≤ 16 by omega), decide_eq_true (show (1 : Int) ≤ b ∧ (b : Int) ≤ 16 by omega), decide_eq_true (show (1 : Int) ≤ P ∧ (P : Int) ≤ 4 by omega)]; rfl
  have ho : scOk W H P (img W H P F) a b = true := by unfold scOk; rw [ok.vim, hs]; rfl
  have h := iRp_sc W H P a b (img W H P F) (by have := ok.bd; omega)
  rw [ho] at h
  have h' : ScC 29 a b W H P (img W H P F) a b P (repL W H P (img W H P F) a b) := h
  have e : repL W H P (img W H P F) a b = img a b P (fun x y => F (x % W) (y % H)) :=
    img_ext fun x y p hx hy hp => img_pxc2' F (Nat.mod_lt _ ok.1.1) (Nat.mod_lt _ ok.2.1.1) hp
  rwa [e] at h'
theorem sRp_sc (W H P a b : Int) (xs : List Int) (hx : xs.length ≤ 2000) : ScC 27 a b W H P xs (cond (scOk W H P xs a b) a 0) (cond (scOk W H P xs a b) b 0) (cond (scOk W H P xs a b) P 0) (cond (scOk W H P xs a b) (repL W.toNat H.toNat P.toNat xs a.toNat b.toNat) []) :=
  fun A c w hr hc => (by first | exact i_RepeatImage W H P a b A c xs w hr (by omega) hc | exact s_RepeatImage W H P a b A c xs w hr (by omega) hc : Calls _ _ _ _ _).mono fun _ _ h => ShI.of h
theorem sRp_I {W H P a b : Nat} {F : Nat → Nat → Nat → Int} (ok : okJ W H P F) (ha : 1 ≤ a ∧ a ≤ 16) (hb : 1 ≤ b ∧ b ≤ 16) : ScC 27 a b W H P (img W H P F) a b P (img a b P (fun x y => F (x % W) (y % H))) := by
  have hs : vsh a b P = true := by
    have h3 := ok.2.2.1
    unfold vsh
    rw [decide_eq_true (show (1 : Int) ≤ a ∧ (a : Int) ≤ 16 by omega), decide_eq_true (show (1 : Int) ≤ b ∧ (b : Int) ≤ 16 by omega), decide_eq_true (show (1 : Int) ≤ P ∧ (P : Int) ≤ 4 by omega)]; rfl
  have ho : scOk W H P (img W H P F) a b = true := by unfold scOk; rw [ok.vim, hs]; rfl
  have h := sRp_sc W H P a b (img W H P F) (by have := ok.bd; omega)
  rw [ho] at h
  have h' : ScC 27 a b W H P (img W H P F) a b P (repL W H P (img W H P F) a b) := h
  have e : repL W H P (img W H P F) a b = img a b P (fun x y => F (x % W) (y % H)) :=
    img_ext fun x y p hx hy hp => img_pxc2' F (Nat.mod_lt _ ok.1.1) (Nat.mod_lt _ ok.2.1.1) hp
  rwa [e] at h'
theorem okJ.rep {W H P a b : Nat} {F : Nat → Nat → Nat → Int} (ok : okJ W H P F) (ha : 1 ≤ a ∧ a ≤ 16) (hb : 1 ≤ b ∧ b ≤ 16) : okJ a b P (fun x y => F (x % W) (y % H)) :=
  ⟨ha, hb, ok.2.2.1, fun x y p hx hy hp => ok.2.2.2 _ _ _ (Nat.mod_lt _ ok.1.1) (Nat.mod_lt _ ok.2.1.1) hp⟩
theorem rep_law (W H P a b : Int) (xs : List Int) (hx : xs.length ≤ 256) : ∃ (X Y Z : Int) (ys : List Int), ys.length ≤ 2000 ∧ Hid (ScC 29 a b W H P xs X Y Z ys) ∧ Hid (ScC 27 a b W H P xs X Y Z ys) ∧
    (X = 0 ∨ (X ≠ 0 ∧ ∃ (os q zs : List Int), os.length ≤ 2000 ∧ q.length ≤ 2000 ∧ zs.length ≤ 2000 ∧ Hid (CrC 35 W H P xs 0 0 1 1 1 1 P os true) ∧ Hid (ScC 29 a b 1 1 P os a b P zs) ∧ Hid (PxC 37 W H P xs 0 0 q) ∧ Hid (FillC 36 a b q a b P zs))) := by
  have h1 := iRp_sc W H P a b xs (by omega)
  have h2 := sRp_sc W H P a b xs (by omega)
  cases ho : scOk W H P xs a b
  · rw [ho] at h1 h2
    exact ⟨_, _, _, _, by simp, Lib.hid h1, Lib.hid h2, .inl rfl⟩
  · rw [ho] at h1 h2
    have ho' := ho
    unfold scOk at ho'
    rw [Bool.and_eq_true] at ho'
    obtain ⟨W, H, P, F, rfl, rfl, rfl, rfl, ok⟩ := vim_okJ ho'.1
    obtain ⟨a, b, _, rfl, rfl, _, ha, hb, _⟩ := vsh_nat ho'.2
    have ok1 : okJ 1 1 P (fun x y => F (0 + x) (0 + y)) := ok.crop (by omega) (by omega) (by have := ok.1; omega) (by have := ok.2.1; omega)
    have c1 := iC_I (X0 := 0) (Y0 := 0) (bw := 1) (bh := 1) ok.1 ok.2.1 ok.2.2.1 ok.2.2.2 (by omega) (by omega) (by have := ok.1; omega) (by have := ok.2.1; omega)
    have r1 := iRp_I ok1 ha hb
    have p1 := iP_I (show okI W H P F from ok) 0 0 ok.1.1 ok.2.1.1
    have ql : ((List.range P).map (F 0 0)).length = P := by simp
    have okf : okI a b ((List.range P).map (F 0 0)).length (fun _ _ p => ((List.range P).map (F 0 0)).getD p 0) := by
      rw [ql]
      refine ⟨ha, hb, ok.2.2.1, fun x y p _ _ hp => ?_⟩
      have := ok.2.2.2 0 0 p ok.1.1 ok.2.1.1 hp
      simpa [hp] using this
    have f1 := iF_I okf
    have e : img a b P (fun x y => (fun x y => F (0 + x) (0 + y)) (x % 1) (y % 1)) = img a b P (fun _ _ p => ((List.range P).map (F 0 0)).getD p 0) := img_ext fun x y p hx hy hp => by
      show F (0 + x % 1) (0 + y % 1) p = _
      rw [show 0 + x % 1 = 0 by omega, show 0 + y % 1 = 0 by omega]
      simp [hp]
    rw [e] at r1
    rw [ql] at f1
    refine ⟨_, _, _, _, by have := (ok.rep ha hb).bd; omega, Lib.hid (iRp_I ok ha hb), Lib.hid (sRp_I ok ha hb), .inr ⟨by omega, _, _, _, by have := ok1.bd; omega, by rw [ql]; have := ok.2.2.1; omega, ?_, Lib.hid c1, Lib.hid r1, Lib.hid p1, Lib.hid f1⟩⟩
    have := (okf : okJ _ _ _ _).bd
    rw [ql] at this
    omega
end Go.Proofs.Ytmkfgcmabmocfaa
