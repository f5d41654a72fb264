/- Mathematics of the laws of convolved images: one weight, equal pixels, turns. -/
import Derived.Test.YtjgcondkoaegnaaCvlM
import Derived.Test.YtjgcondkoaegnaaPix
namespace Go.Proofs.Ytjgcondkoaegnaa
set_option linter.unusedSimpArgs false
set_option linter.unusedVariables false

theorem cvS_congr {f g : Nat → Nat → Int} {W H R : Nat} {ks : List Int} (hW : 1 ≤ W) (hH : 1 ≤ H) (h : ∀ x y, x < W → y < H → f x y = g x y) (x y : Nat) : ∀ n, cvS f W H R ks x y n = cvS g W H R ks x y n
  | 0 => rfl
  | n + 1 => by
    unfold cvS
    rw [cvS_congr hW hH h x y n, h _ _ (cvc_lt hW) (cvc_lt hH)]
theorem cvV_congr {f g : Nat → Nat → Int} {W H R : Nat} {ks : List Int} {D : Nat} (hW : 1 ≤ W) (hH : 1 ≤ H) (h : ∀ x y, x < W → y < H → f x y = g x y) (x y : Nat) : cvV f W H R ks D x y = cvV g W H R ks D x y := by
  unfold cvV
  rw [cvS_congr hW hH h]
theorem cvS_const (v : Int) {W H R : Nat} {ks : List Int} (x y : Nat) : ∀ n, cvS (fun _ _ => v) W H R ks x y n = cvS (fun _ _ => v) W H R ks 0 0 n
  | 0 => rfl
  | n + 1 => by
    unfold cvS
    rw [cvS_const v x y n]
theorem cvV_const (v : Int) {W H R : Nat} {ks : List Int} {D : Nat} (x y : Nat) : cvV (fun _ _ => v) W H R ks D x y = cvV (fun _ _ => v) W H R ks D 0 0 := by
  unfold cvV
  rw [cvS_const]
theorem cvV_bd (f : Nat → Nat → Int) (W H R : Nat) (ks : List Int) (D x y : Nat) : 0 ≤ cvV f W H R ks D x y ∧ cvV f W H R ks D x y ≤ 255 := lim_bd (by omega)
/-- The kernel with one weight. -/
theorem cvV_one {f : Nat → Nat → Int} {W H x y : Nat} (hx : x < W) (hy : y < H) (hf : 0 ≤ f x y ∧ f x y ≤ 255) : cvV f W H 0 [1] 1 x y = f x y := by
  have e1 : cvc 0 x 0 0 W = x := by unfold cvc lim; omega
  have e2 : cvc 0 y 0 0 H = y := by unfold cvc lim; omega
  have e : cvS f W H 0 [1] x y 1 = f x y := by
    show 0 + 1 * f (cvc 0 x (0 % 1) 0 W) (cvc 0 y (0 / 1) 0 H) = f x y
    rw [show 0 % 1 = 0 from rfl, show 0 / 1 = 0 from rfl, e1, e2]
    omega
  unfold cvV
  rw [show ([1] : List Int).length = 1 from rfl, e]
  unfold lim
  omega
/-- Nine equal weights. -/
theorem cvS_box (f : Nat → Nat → Int) (W H x y : Nat) : cvS f W H 1 [1, 1, 1, 1, 1, 1, 1, 1, 1] x y 9 =
    f (cvc 1 x 0 0 W) (cvc 1 y 0 0 H) + f (cvc 1 x 1 0 W) (cvc 1 y 0 0 H) + f (cvc 1 x 2 0 W) (cvc 1 y 0 0 H) + f (cvc 1 x 0 0 W) (cvc 1 y 1 0 H) + f (cvc 1 x 1 0 W) (cvc 1 y 1 0 H) + f (cvc 1 x 2 0 W) (cvc 1 y 1 0 H) + f (cvc 1 x 0 0 W) (cvc 1 y 2 0 H) + f (cvc 1 x 1 0 W) (cvc 1 y 2 0 H) + f (cvc 1 x 2 0 W) (cvc 1 y 2 0 H) := by
  show 0 + 1 * f (cvc 1 x 0 0 W) (cvc 1 y 0 0 H) + 1 * f (cvc 1 x 1 0 W) (cvc 1 y 0 0 H) + 1 * f (cvc 1 x 2 0 W) (cvc 1 y 0 0 H) + 1 * f (cvc 1 x 0 0 W) (cvc 1 y 1 0 H) + 1 * f (cvc 1 x 1 0 W) (cvc 1 y 1 0 H) + 1 * f (cvc 1 x 2 0 W) (cvc 1 y 1 0 H) + 1 * f (cvc 1 x 0 0 W) (cvc 1 y 2 0 H) + 1 * f (cvc 1 x 1 0 W) (cvc 1 y 2 0 H) + 1 * f (cvc 1 x 2 0 W) (cvc 1 y 2 0 H) = _
  omega
theorem cvc_flip {x j H : Nat} (hx : x < H) (hj : j ≤ 2) : H - 1 - cvc 1 x j 0 H = cvc 1 (H - 1 - x) (2 - j) 0 H := by
  unfold cvc lim
  omega
/-- The image turned by a quarter, then convolved, is the convolved image turned. -/
theorem cvV_turn {f : Nat → Nat → Int} {W H x y : Nat} (hW : 1 ≤ W) (hH : 1 ≤ H) (hx : x < H) (hy : y < W) : cvV (fun a b => f b (H - 1 - a)) H W 1 [1, 1, 1, 1, 1, 1, 1, 1, 1] 9 x y = cvV f W H 1 [1, 1, 1, 1, 1, 1, 1, 1, 1] 9 y (H - 1 - x) := by
  unfold cvV
  rw [show ([1, 1, 1, 1, 1, 1, 1, 1, 1] : List Int).length = 9 from rfl, cvS_box, cvS_box]
  simp only [cvc_flip hx (show 0 ≤ 2 by omega), cvc_flip hx (show 1 ≤ 2 by omega), cvc_flip hx (show 2 ≤ 2 by omega)]
  congr 3
  show 2 * _ = 2 * _
  congr 1
  rw [show 2 - 0 = 2 from rfl, show 2 - 1 = 1 from rfl, show 2 - 2 = 0 from rfl]
  omega
end Go.Proofs.Ytjgcondkoaegnaa
