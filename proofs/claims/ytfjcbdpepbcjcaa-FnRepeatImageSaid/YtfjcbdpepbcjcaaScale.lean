/- Contracts of ScaleNearest, in the model and in the program. -/
import Derived.Test.YtfjcbdpepbcjcaaGenP
import Derived.Test.YtfjcbdpepbcjcaaGridF
import Derived.Test.YtfjcbdpepbcjcaaSpecP
import Derived.Test.YtfjcbdpepbcjcaaSpecM
import Derived.Deep.RegionHeld3
namespace Go.Proofs.Ytfjcbdpepbcjcaa
open Go.RowKit Go.Shelf
set_option linter.unusedSimpArgs false
set_option linter.unusedVariables false
set_option maxRecDepth 20000

def scOk (W H P : Int) (xs : List Int) (w h : Int) : Bool := vim W H P xs && vsh w h P
/-- The numbers of a scaled image. -/
def scaL (W H P : Nat) (xs : List Int) (w h : Nat) : List Int := img w h P (fun x y => pxc W P xs (x * W / w) (y * H / h))
theorem vsh_nat {W H P : Int} (h : vsh W H P = true) : ∃ w h p : Nat, W = w ∧ H = h ∧ P = p ∧ (1 ≤ w ∧ w ≤ 16) ∧ (1 ≤ h ∧ h ≤ 16) ∧ 1 ≤ p ∧ p ≤ 4 := by
  obtain ⟨h1, h2, h3, _⟩ := vsh_bd h
  exact ⟨W.toNat, H.toNat, P.toNat, by omega, by omega, by omega, by omega, by omega, by omega⟩
theorem sc_lt {x W w : Nat} (hx : x < w) (hW : 1 ≤ W) : x * W / w < W := by
  rw [Nat.div_lt_iff_lt_mul (by omega)]
  rw [Nat.mul_comm W w]
  exact Nat.mul_lt_mul_of_pos_right hx (by omega)
theorem sc_bd {x W : Nat} (hx : x ≤ 16) (hW : W ≤ 16) : x * W ≤ 256 := by have := Nat.mul_le_mul hx hW; omega
set_option maxHeartbeats 8000000 in
theorem iSc_any (W H P a b : Int) (A : Option Addr) (c : Nat) (xs : List Int) (w : World) (hx : Rds .i64 w w.heap.size A xs) (hl : xs.length ≤ 2000000) :
    Calls Try.prog 49 #[.agg #[.int .i64 W, .int .i64 H, .int .i64 P, .slice A xs.length c], .int .i64 a, .int .i64 b] w fun e w' => e = .returned (.bool (scOk W H P xs a b)) ∧ Below w.heap.size w w' := by
  have HX := Lib.hid hx
  clear hx
  have S0 := (GS.start w).box 30 #[.int .i64 W, .int .i64 H, .int .i64 P, .slice A xs.length c]
  have HV : Hid (scOk W H P xs a b = (vim W H P xs && vsh a b P)) := Lib.hid rfl
  go_enter Try.func49, Try.ntmps49
  go_wp2_with fail
  generalize w.alloc (.cells #[.int .i64 W, .int .i64 H, .int .i64 P, .slice A xs.length c] 30) = u0 at *
  refine (iVimg_any W H P A c xs u0 (S0.arg HX.out) hl).mono ?_
  rintro e u1 ⟨rfl, hB⟩
  have S1 := S0.call hB
  clear hB S0
  cases hv : vim W H P xs
  · have HF : Hid (scOk W H P xs a b = false) := Lib.hid (by rw [HV.out, hv]; rfl)
    clear HV hv
    go_wp2
    go_ret
    exact ⟨ret_bool HF.out.symm, S1.below⟩
  · have HF : Hid (scOk W H P xs a b = vsh a b P) := Lib.hid (by rw [HV.out, hv]; rfl)
    clear HV hv
    obtain ⟨d0, d1, d2, d3⟩ := S1.b0_4
    go_wp2_with fail
    refine (iShape_any a b P u1).mono ?_
    rintro e u2 ⟨rfl, rfl⟩
    have HS := Lib.hid S1.below
    clear S1 d0 d1 d2 d3
    cases hR : vsh a b P
    all_goals
      have HR := Lib.hid hR
      clear hR
      go_wp2
      go_ret
      exact ⟨ret_bool (by rw [HF.out, HR.out]), HS.out⟩
theorem pixelAt_of (W H P : Nat) (hW : W ≤ 16) (hH : H ≤ 16) (hP : 1 ≤ P) (hP4 : P ≤ 4) (A : Option Addr) (c : Nat) (xs : List Int) (hl : xs.length = W * H * P) (hlc : xs.length ≤ c) (x y : Nat) (hx : x < W) (hy : y < H) (X Y : Int) (hX : X = (x : Int)) (hY : Y = (y : Int)) (w : World) (hr : Rds .i64 w w.heap.size A xs) :
    Calls Try.prog 56 #[.agg #[.int .i64 (W : Int), .int .i64 (H : Int), .int .i64 (P : Int), .slice A xs.length c], .int .i64 X, .int .i64 Y] w (Made (pxl W P xs x y) w) := by
  subst hX hY
  exact pixelAt_any W H P hW hH hP hP4 A c xs hl hlc x y hx hy w hr
end Go.Proofs.Ytfjcbdpepbcjcaa
