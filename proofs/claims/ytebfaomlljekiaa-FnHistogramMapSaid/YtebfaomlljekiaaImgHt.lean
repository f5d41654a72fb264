/- Histograms of turned and mirrored images. -/
import Derived.Test.YtebfaomlljekiaaImgL
import Derived.Test.YtebfaomlljekiaaHisS
import Derived.Test.YtebfaomlljekiaaOkJ
namespace Go.Proofs.Ytebfaomlljekiaa
open Go.RowKit Go.Shelf
set_option linter.unusedSimpArgs false
set_option linter.unusedVariables false

/-- The sum of f below n. -/
def su (f : Nat → Nat) : Nat → Nat
  | 0 => 0
  | k + 1 => su f k + f k
theorem su_congr {f g : Nat → Nat} : ∀ {n : Nat}, (∀ k, k < n → f k = g k) → su f n = su g n
  | 0, _ => rfl
  | n + 1, h => by rw [su, su, su_congr (fun k hk => h k (by omega)), h n (by omega)]
theorem su_zero (n : Nat) : su (fun _ => 0) n = 0 := by
  induction n with
  | zero => rfl
  | succ n ih => rw [su, ih]
theorem su_add (f g : Nat → Nat) (n : Nat) : su (fun k => f k + g k) n = su f n + su g n := by
  induction n with
  | zero => rfl
  | succ n ih => simp only [su, ih]; omega
theorem su_swap (f : Nat → Nat → Nat) (W H : Nat) : su (fun y => su (fun x => f x y) W) H = su (fun x => su (fun y => f x y) H) W := by
  induction W with
  | zero => exact su_zero H
  | succ W ih => simp only [su]; rw [su_add, ih]
theorem su_front (f : Nat → Nat) (n : Nat) : su f (n + 1) = f 0 + su (fun k => f (k + 1)) n := by
  induction n with
  | zero => simp [su]
  | succ n ih => rw [su, ih, su]; omega
theorem su_rev (f : Nat → Nat) (n : Nat) : su (fun k => f (n - 1 - k)) n = su f n := by
  induction n with
  | zero => rfl
  | succ n ih =>
    rw [su_front, su_congr (g := fun k => f (n - 1 - k)) (fun k _ => by show f _ = f _; congr 1; omega), ih, su]
    have : n + 1 - 1 - 0 = n := by omega
    rw [this]
    omega
/-- How often a number stands in the rows of an image of one plane. -/
def one (F : Nat → Nat → Nat → Int) (n : Int) (x y : Nat) : Nat := if F x y 0 = n then 1 else 0
theorem count_imgk {W : Nat} (F : Nat → Nat → Nat → Int) (n : Int) (y : Nat) : ∀ x, x ≤ W → (imgk W 1 F (y * W + x)).count n = (imgk W 1 F (y * W)).count n + su (fun x => one F n x y) x
  | 0, _ => rfl
  | x + 1, h => by
    rw [← Nat.add_assoc, imgk_step F (show x < W by omega), List.count_append, count_imgk F n y x (by omega), su, Nat.add_assoc]
    congr 2
    show List.count n [F x y 0] = one F n x y
    unfold one
    by_cases h : F x y 0 = n <;> simp [h, List.count_singleton]
theorem count_rows {W : Nat} (F : Nat → Nat → Nat → Int) (n : Int) : ∀ H, (imgk W 1 F (H * W)).count n = su (fun y => su (fun x => one F n x y) W) H
  | 0 => by rw [Nat.zero_mul, imgk_zero]; rfl
  | H + 1 => by rw [imgk_row, count_imgk F n H W (Nat.le_refl _), count_rows F n H]; rfl
theorem count_img {W H : Nat} (F : Nat → Nat → Nat → Int) (n : Int) : (img W H 1 F).count n = su (fun y => su (fun x => one F n x y) W) H := by
  rw [← imgk_all, Nat.mul_comm, count_rows]
theorem hist_congr {xs ys : List Int} (h : ∀ n : Int, xs.count n = ys.count n) : hist xs = hist ys := by
  unfold hist
  apply List.map_congr_left
  intro n _
  rw [h]
theorem hist_mir {W H : Nat} (F : Nat → Nat → Nat → Int) : hist (img W H 1 (fun x y => F (W - 1 - x) y)) = hist (img W H 1 F) := by
  refine hist_congr fun n => ?_
  rw [count_img, count_img]
  exact su_congr fun y _ => su_rev (fun x => one F n x y) W
theorem hist_tur {W H : Nat} (F : Nat → Nat → Nat → Int) : hist (img H W 1 (fun x y => F y (H - 1 - x))) = hist (img W H 1 F) := by
  refine hist_congr fun n => ?_
  rw [count_img, count_img, su_swap (fun x y => one F n x y) W H]
  exact su_congr fun y _ => su_rev (fun x => one F n y x) H
def HiC (f : FuncId) (W H P : Int) (xs ys : List Int) : Prop :=
  ∀ (A : Option Addr) (c : Nat) (w : World), Rds .i64 w w.heap.size A xs → xs.length ≤ c → Calls Try.prog f #[.agg #[.int .i64 W, .int .i64 H, .int .i64 P, .slice A xs.length c]] w (Shows ys w)
theorem HiC.use {f : FuncId} {W H P : Int} {xs ys : List Int} (h : Hid (HiC f W H P xs ys)) (A : Option Addr) (c : Nat) (w : World) (hr : Rds .i64 w w.heap.size A xs) (hc : xs.length ≤ c) : Calls Try.prog f #[.agg #[.int .i64 W, .int .i64 H, .int .i64 P, .slice A xs.length c]] w (Shows ys w) := h.out A c w hr hc
theorem iHi (W H P : Int) (xs : List Int) (hx : xs.length ≤ 2000) : HiC 21 W H P xs (hisL W H P xs) := fun A c w hr hc =>
  (i_HistogramOf W H P A c xs w hr (by omega)).mono fun e w' ⟨v, he, hO, hB⟩ => by
    obtain ⟨A', c', rfl, hc'⟩ := hO.slice
    exact ⟨A', c', he, hc', hO.rds, hB⟩
theorem hisL_bd (W H P : Int) (xs : List Int) : (hisL W H P xs).length ≤ 256 := by
  unfold hisL
  cases vpl W H P xs
  · simp
  · exact Nat.le_of_eq (hist_len xs)
theorem hisL_img {W H P : Nat} {F : Nat → Nat → Nat → Int} (h : okI W H P F) : hisL W H P (img W H P F) = if P = 1 then hist (img W H P F) else [] := by
  unfold hisL vpl
  rw [h.vim]
  by_cases hp : P = 1
  · subst hp; rfl
  · rw [if_neg hp, decide_eq_false (by omega)]; rfl
theorem hisL_mir {W H P : Nat} {F : Nat → Nat → Nat → Int} (h : okI W H P F) : hisL W H P (img W H P (fun x y => F (W - 1 - x) y)) = hisL W H P (img W H P F) := by
  rw [hisL_img h.mir, hisL_img h]
  by_cases hp : P = 1
  · subst hp; rw [if_pos rfl, if_pos rfl, hist_mir]
  · rw [if_neg hp, if_neg hp]
theorem hisL_tur {W H P : Nat} {F : Nat → Nat → Nat → Int} (h : okI W H P F) : hisL (tdim W H 1).1 (tdim W H 1).2 P (img (tdim W H 1).1 (tdim W H 1).2 P (tfun W H F 1)) = hisL W H P (img W H P F) := by
  rw [hisL_img (h.tur 1), hisL_img h]
  by_cases hp : P = 1
  · subst hp; rw [if_pos rfl, if_pos rfl, tdim1, tfun1]; exact hist_tur F
  · rw [if_neg hp, if_neg hp]
end Go.Proofs.Ytebfaomlljekiaa
