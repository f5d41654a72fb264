/- Facts of scaled images that the laws need. -/
import Derived.Test.YtpajccpcdmaalaaOkJ
import Derived.Test.YtpajccpcdmaalaaScale
namespace Go.Proofs.Ytpajccpcdmaalaa
open Go.RowKit Go.Shelf
set_option linter.unusedSimpArgs false
set_option linter.unusedVariables false

def ScC (f : FuncId) (a b W H P : Int) (xs : List Int) (X Y Z : Int) (ys : List Int) : Prop :=
  ∀ (A : Option Addr) (c : Nat) (w : World), Rds .i64 w w.heap.size A xs → xs.length ≤ c → Calls Try.prog f #[.agg #[.int .i64 W, .int .i64 H, .int .i64 P, .slice A xs.length c], .int .i64 a, .int .i64 b] w (ShI X Y Z ys w)
theorem ScC.use {f : FuncId} {a b W H P : Int} {xs : List Int} {X Y Z : Int} {ys : List Int} (h : Hid (ScC f a b W H P xs X Y Z ys)) (A : Option Addr) (c : Nat) (w : World) (hr : Rds .i64 w w.heap.size A xs) (hc : xs.length ≤ c) : Calls Try.prog f #[.agg #[.int .i64 W, .int .i64 H, .int .i64 P, .slice A xs.length c], .int .i64 a, .int .i64 b] w (ShI X Y Z ys w) := h.out A c w hr hc
theorem iS_sc (W H P a b : Int) (xs : List Int) (hx : xs.length ≤ 2000) : ScC 32 a b W H P xs (cond (scOk W H P xs a b) a 0) (cond (scOk W H P xs a b) b 0) (cond (scOk W H P xs a b) P 0) (cond (scOk W H P xs a b) (scaL W.toNat H.toNat P.toNat xs a.toNat b.toNat) []) :=
  fun A c w hr hc => (by first | exact i_ScaleNearest W H P a b A c xs w hr (by omega) hc | exact s_ScaleNearest W H P a b A c xs w hr (by omega) hc : Calls _ _ _ _ _).mono fun _ _ h => ShI.of h
theorem iS_I {W H P a b : Nat} {F : Nat → Nat → Nat → Int} (ok : okJ W H P F) (ha : 1 ≤ a ∧ a ≤ 16) (hb : 1 ≤ b ∧ b ≤ 16) : ScC 32 a b W H P (img W H P F) a b P (img a b P (fun x y => F (x * W / a) (y * H / b))) := by
  have hs : vsh a b P = true := by
    have h3 := ok.2.2.1
    unfold vsh
    rw [decide_eq_true (show (1 : Int) ≤ a ∧ (a : Int) ≤ 16 by omega), decide_eq_true (show (1 : Int) ≤ b ∧ (b : Int) ≤ 16 by omega), decide_eq_true (show (1 : Int) ≤ P ∧ (P : Int) ≤ 4 by omega)]; rfl
  have ho : scOk W H P (img W H P F) a b = true := by unfold scOk; rw [ok.vim, hs]; rfl
  have h := iS_sc W H P a b (img W H P F) (by have := ok.bd; omega)
  rw [ho] at h
  have h' : ScC 32 a b W H P (img W H P F) a b P (scaL W H P (img W H P F) a b) := h
  have e : scaL W H P (img W H P F) a b = img a b P (fun x y => F (x * W / a) (y * H / b)) :=
    img_ext fun x y p hx hy hp => img_pxc2' F (sc_lt hx ok.1.1) (sc_lt hy ok.2.1.1) hp
  rwa [e] at h'
theorem sS_sc (W H P a b : Int) (xs : List Int) (hx : xs.length ≤ 2000) : ScC 33 a b W H P xs (cond (scOk W H P xs a b) a 0) (cond (scOk W H P xs a b) b 0) (cond (scOk W H P xs a b) P 0) (cond (scOk W H P xs a b) (scaL W.toNat H.toNat P.toNat xs a.toNat b.toNat) []) :=
  fun A c w hr hc => (by first | exact i_ScaleNearest W H P a b A c xs w hr (by omega) hc | exact s_ScaleNearest W H P a b A c xs w hr (by omega) hc : Calls _ _ _ _ _).mono fun _ _ h => ShI.of h
theorem sS_I {W H P a b : Nat} {F : Nat → Nat → Nat → Int} (ok : okJ W H P F) (ha : 1 ≤ a ∧ a ≤ 16) (hb : 1 ≤ b ∧ b ≤ 16) : ScC 33 a b W H P (img W H P F) a b P (img a b P (fun x y => F (x * W / a) (y * H / b))) := by
  have hs : vsh a b P = true := by
    have h3 := ok.2.2.1
    unfold vsh
    rw [decide_eq_true (show (1 : Int) ≤ a ∧ (a : Int) ≤ 16 by omega), decide_eq_true (show (1 : Int) ≤ b ∧ (b : Int) ≤ 16 by omega), decide_eq_true (show (1 : Int) ≤ P ∧ (P : Int) ≤ 4 by omega)]; rfl
  have ho : scOk W H P (img W H P F) a b = true := by unfold scOk; rw [ok.vim, hs]; rfl
  have h := sS_sc W H P a b (img W H P F) (by have := ok.bd; omega)
  rw [ho] at h
  have h' : ScC 33 a b W H P (img W H P F) a b P (scaL W H P (img W H P F) a b) := h
  have e : scaL W H P (img W H P F) a b = img a b P (fun x y => F (x * W / a) (y * H / b)) :=
    img_ext fun x y p hx hy hp => img_pxc2' F (sc_lt hx ok.1.1) (sc_lt hy ok.2.1.1) hp
  rwa [e] at h'
theorem okJ.sca {W H P a b : Nat} {F : Nat → Nat → Nat → Int} (ok : okJ W H P F) (ha : 1 ≤ a ∧ a ≤ 16) (hb : 1 ≤ b ∧ b ≤ 16) : okJ a b P (fun x y => F (x * W / a) (y * H / b)) :=
  ⟨ha, hb, ok.2.2.1, fun x y p hx hy hp => ok.2.2.2 _ _ _ (sc_lt hx ok.1.1) (sc_lt hy ok.2.1.1) hp⟩
theorem sca_law (W H P a b : Int) (xs : List Int) (hx : xs.length ≤ 256) : ∃ (X Y Z : Int) (ys : List Int), ys.length ≤ 2000 ∧ Hid (ScC 32 a b W H P xs X Y Z ys) ∧ Hid (ScC 33 a b W H P xs X Y Z ys) ∧
    (X = 0 ∨ (X ≠ 0 ∧ (1 ≤ W ∧ W ≤ 16) ∧ (1 ≤ H ∧ H ≤ 16) ∧ Hid (ScC 32 W H W H P xs W H P xs) ∧ (16 < 2 * W ∨ 16 < 2 * H ∨ (2 * W ≤ 16 ∧ 2 * H ≤ 16 ∧ ∃ (X2 Y2 Z2 : Int) (zs : List Int), zs.length ≤ 2000 ∧ Hid (ScC 32 (2 * W) (2 * H) W H P xs X2 Y2 Z2 zs) ∧ Hid (ScC 32 W H X2 Y2 Z2 zs W H P xs))))) := by
  have h1 := iS_sc W H P a b xs (by omega)
  have h2 := sS_sc W H P a b xs (by omega)
  cases ho : scOk W H P xs a b
  · rw [ho] at h1 h2
    exact ⟨_, _, _, _, by simp, Lib.hid h1, Lib.hid h2, .inl rfl⟩
  · rw [ho] at h1 h2
    have ho' := ho
    unfold scOk at ho'
    rw [Bool.and_eq_true] at ho'
    obtain ⟨W, H, P, F, rfl, rfl, rfl, rfl, ok⟩ := vim_okJ ho'.1
    obtain ⟨a, b, _, rfl, rfl, _, ha, hb, _⟩ := vsh_nat ho'.2
    refine ⟨_, _, _, _, by have := (ok.sca ha hb).bd; omega, Lib.hid (iS_I ok ha hb), Lib.hid (sS_I ok ha hb), .inr ⟨by omega, by have := ok.1; omega, by have := ok.2.1; omega, Lib.hid ?_, ?_⟩⟩
    · have h := iS_I ok ok.1 ok.2.1
      have e : img W H P (fun x y => F (x * W / W) (y * H / H)) = img W H P F := img_ext fun x y p hx hy hp => by
        show F (x * W / W) (y * H / H) p = F x y p
        rw [Nat.mul_div_cancel _ (by have := ok.1; omega), Nat.mul_div_cancel _ (by have := ok.2.1; omega)]
      rw [e] at h
      exact h
    · by_cases h1 : 16 < 2 * (W : Int)
      · exact .inl h1
      · by_cases h2 : 16 < 2 * (H : Int)
        · exact .inr (.inl h2)
        · have hw : 1 ≤ 2 * W ∧ 2 * W ≤ 16 := by have := ok.1; omega
          have hh : 1 ≤ 2 * H ∧ 2 * H ≤ 16 := by have := ok.2.1; omega
          refine .inr (.inr ⟨by omega, by omega, ((2 * W : Nat) : Int), ((2 * H : Nat) : Int), (P : Int), img (2 * W) (2 * H) P (fun x y => F (x * W / (2 * W)) (y * H / (2 * H))), by have := (ok.sca hw hh).bd; omega, Lib.hid ?_, Lib.hid ?_⟩)
          · have h := iS_I ok hw hh
            have e1 : 2 * (W : Int) = ((2 * W : Nat) : Int) := by omega
            have e2 : 2 * (H : Int) = ((2 * H : Nat) : Int) := by omega
            rw [e1, e2]
            exact h
          · have h := iS_I (ok.sca hw hh) ok.1 ok.2.1
            have e : img W H P (fun x y => (fun x y => F (x * W / (2 * W)) (y * H / (2 * H))) (x * (2 * W) / W) (y * (2 * H) / H)) = img W H P F := img_ext fun x y p hx hy hp => by
              show F (x * (2 * W) / W * W / (2 * W)) (y * (2 * H) / H * H / (2 * H)) p = F x y p
              have g : ∀ x W : Nat, 1 ≤ W → x * (2 * W) / W * W / (2 * W) = x := fun x W hW => by
                rw [show x * (2 * W) = 2 * x * W by rw [Nat.mul_left_comm, Nat.mul_assoc], Nat.mul_div_cancel _ (by omega), show 2 * x * W = x * (2 * W) by rw [Nat.mul_left_comm, Nat.mul_assoc], Nat.mul_div_cancel _ (by omega)]
              rw [g x W ok.1.1, g y H ok.2.1.1]
            rw [e] at h
            exact h
end Go.Proofs.Ytpajccpcdmaalaa
