/- Facts of scaled images that the laws need. -/
import Derived.Test.YtcmjlpmdmejmaaaOkJ
import Derived.Test.YtcmjlpmdmejmaaaScale
namespace Go.Proofs.Ytcmjlpmdmejmaaa
open Go.RowKit Go.Shelf
set_option linter.unusedSimpArgs false
set_option linter.unusedVariables false

def ScC (f : FuncId) (a b W H P : Int) (xs : List Int) (X Y Z : Int) (ys : List Int) : Prop :=
  ∀ (A : Option Addr) (c : Nat) (w : World), Rds .i64 w w.heap.size A xs → xs.length ≤ c → Calls Try.prog f #[.agg #[.int .i64 W, .int .i64 H, .int .i64 P, .slice A xs.length c], .int .i64 a, .int .i64 b] w (ShI X Y Z ys w)
theorem ScC.use {f : FuncId} {a b W H P : Int} {xs : List Int} {X Y Z : Int} {ys : List Int} (h : Hid (ScC f a b W H P xs X Y Z ys)) (A : Option Addr) (c : Nat) (w : World) (hr : Rds .i64 w w.heap.size A xs) (hc : xs.length ≤ c) : Calls Try.prog f #[.agg #[.int .i64 W, .int .i64 H, .int .i64 P, .slice A xs.length c], .int .i64 a, .int .i64 b] w (ShI X Y Z ys w) := h.out A c w hr hc
theorem iS_sc (W H P a b : Int) (xs : List Int) (hx : xs.length ≤ 2000) : ScC 10 a b W H P xs (cond (scOk W H P xs a b) a 0) (cond (scOk W H P xs a b) b 0) (cond (scOk W H P xs a b) P 0) (cond (scOk W H P xs a b) (scaL W.toNat H.toNat P.toNat xs a.toNat b.toNat) []) :=
  fun A c w hr hc => (by first | exact i_ScaleNearest W H P a b A c xs w hr (by omega) hc | exact s_ScaleNearest W H P a b A c xs w hr (by omega) hc : Calls _ _ _ _ _).mono fun _ _ h => ShI.of h
theorem iS_I {W H P a b : Nat} {F : Nat → Nat → Nat → Int} (ok : okJ W H P F) (ha : 1 ≤ a ∧ a ≤ 16) (hb : 1 ≤ b ∧ b ≤ 16) : ScC 10 a b W H P (img W H P F) a b P (img a b P (fun x y => F (x * W / a) (y * H / b))) := by
  have hs : vsh a b P = true := by
    have h3 := ok.2.2.1
    unfold vsh
    rw [decide_eq_true (show (1 : Int) ≤ a ∧ (a : Int) ≤ 16 by omega), decide_eq_true (show (1 : Int) ≤ b ∧ (b : Int) ≤ 16 by omega), decide_eq_true (show (1 : Int) ≤ P ∧ (P : Int) ≤ 4 by omega)]; rfl
  have ho : scOk W H P (img W H P F) a b = true := by unfold scOk; rw [ok.vim, hs]; rfl
  have h := iS_sc W H P a b (img W H P F) (by have := ok.bd; omega)
  rw [ho] at h
  have h' : ScC 10 a b W H P (img W H P F) a b P (scaL W H P (img W H P F) a b) := h
  have e : scaL W H P (img W H P F) a b = img a b P (fun x y => F (x * W / a) (y * H / b)) :=
    img_ext fun x y p hx hy hp => img_pxc2' F (sc_lt hx ok.1.1) (sc_lt hy ok.2.1.1) hp
  rwa [e] at h'
theorem sS_sc (W H P a b : Int) (xs : List Int) (hx : xs.length ≤ 2000) : ScC 12 a b W H P xs (cond (scOk W H P xs a b) a 0) (cond (scOk W H P xs a b) b 0) (cond (scOk W H P xs a b) P 0) (cond (scOk W H P xs a b) (scaL W.toNat H.toNat P.toNat xs a.toNat b.toNat) []) :=
  fun A c w hr hc => (by first | exact i_ScaleNearest W H P a b A c xs w hr (by omega) hc | exact s_ScaleNearest W H P a b A c xs w hr (by omega) hc : Calls _ _ _ _ _).mono fun _ _ h => ShI.of h
theorem sS_I {W H P a b : Nat} {F : Nat → Nat → Nat → Int} (ok : okJ W H P F) (ha : 1 ≤ a ∧ a ≤ 16) (hb : 1 ≤ b ∧ b ≤ 16) : ScC 12 a b W H P (img W H P F) a b P (img a b P (fun x y => F (x * W / a) (y * H / b))) := by
  have hs : vsh a b P = true := by
    have h3 := ok.2.2.1
    unfold vsh
    rw [decide_eq_true (show (1 : Int) ≤ a ∧ (a : Int) ≤ 16 by omega), decide_eq_true (show (1 : Int) ≤ b ∧ (b : Int) ≤ 16 by omega), decide_eq_true (show (1 : Int) ≤ P ∧ (P : Int) ≤ 4 by omega)]; rfl
  have ho : scOk W H P (img W H P F) a b = true := by unfold scOk; rw [ok.vim, hs]; rfl
  have h := sS_sc W H P a b (img W H P F) (by have := ok.bd; omega)
  rw [ho] at h
  have h' : ScC 12 a b W H P (img W H P F) a b P (scaL W H P (img W H P F) a b) := h
  have e : scaL W H P (img W H P F) a b = img a b P (fun x y => F (x * W / a) (y * H / b)) :=
    img_ext fun x y p hx hy hp => img_pxc2' F (sc_lt hx ok.1.1) (sc_lt hy ok.2.1.1) hp
  rwa [e] at h'
theorem okJ.sca {W H P a b : Nat} {F : Nat → Nat → Nat → Int} (ok : okJ W H P F) (ha : 1 ≤ a ∧ a ≤ 16) (hb : 1 ≤ b ∧ b ≤ 16) : okJ a b P (fun x y => F (x * W / a) (y * H / b)) :=
  ⟨ha, hb, ok.2.2.1, fun x y p hx hy hp => ok.2.2.2 _ _ _ (sc_lt hx ok.1.1) (sc_lt hy ok.2.1.1) hp⟩
end Go.Proofs.Ytcmjlpmdmejmaaa
