/- Scaling by areas, as mathematics. -/
import Derived.Test.YtjgcondkoaegnaaPix
namespace Go.Proofs.Ytjgcondkoaegnaa
open Go.RowKit
set_option linter.unusedSimpArgs false
set_option linter.unusedVariables false

def sumN (f : Nat → Int) : Nat → Int
  | 0 => 0
  | n + 1 => sumN f n + f n
theorem sumN_ext {f g : Nat → Int} : ∀ {n : Nat}, (∀ i, i < n → f i = g i) → sumN f n = sumN g n
  | 0, _ => rfl
  | n + 1, h => by show sumN f n + f n = sumN g n + g n; rw [sumN_ext (fun i hi => h i (by omega)), h n (by omega)]
theorem sumN_mul (f : Nat → Int) (k : Int) : ∀ n : Nat, sumN (fun i => f i * k) n = sumN f n * k
  | 0 => by show (0 : Int) = 0 * k; rw [Int.zero_mul]
  | n + 1 => by show sumN (fun i => f i * k) n + f n * k = (sumN f n + f n) * k; rw [sumN_mul f k n, Int.add_mul]
theorem sumN_add (f g : Nat → Int) : ∀ n : Nat, sumN (fun i => f i + g i) n = sumN f n + sumN g n
  | 0 => rfl
  | n + 1 => by show sumN (fun i => f i + g i) n + (f n + g n) = (sumN f n + f n) + (sumN g n + g n); rw [sumN_add f g n]; omega
theorem sumN_le {f g : Nat → Int} : ∀ {n : Nat}, (∀ i, i < n → f i ≤ g i) → sumN f n ≤ sumN g n
  | 0, _ => Int.le_refl _
  | n + 1, h => by
    have h1 := sumN_le (n := n) (fun i hi => h i (by omega))
    have h2 := h n (by omega)
    show sumN f n + f n ≤ sumN g n + g n
    omega
theorem sumN_const (k : Int) : ∀ n : Nat, sumN (fun _ => k) n = n * k
  | 0 => by show (0 : Int) = 0 * k; rw [Int.zero_mul]
  | n + 1 => by show sumN (fun _ => k) n + k = ((n + 1 : Nat) : Int) * k; rw [sumN_const k n, Int.natCast_add, Int.add_mul]; simp
theorem sumN_bd {f : Nat → Int} {b : Int} {n : Nat} (h : ∀ i, i < n → 0 ≤ f i ∧ f i ≤ b) : 0 ≤ sumN f n ∧ sumN f n ≤ n * b := by
  constructor
  · have := sumN_le (f := fun _ => 0) (g := f) (n := n) (fun i hi => (h i hi).1)
    rw [sumN_const] at this; simpa using this
  · have := sumN_le (f := f) (g := fun _ => b) (n := n) (fun i hi => (h i hi).2)
    rwa [sumN_const] at this
theorem sumN_zero {f : Nat → Int} {n : Nat} (h : ∀ i, i < n → f i = 0) : sumN f n = 0 := by
  rw [sumN_ext h, sumN_const, Int.mul_zero]
theorem sumN_one {f : Nat → Int} {k : Nat} : ∀ {n : Nat}, k < n → (∀ i, i < n → i ≠ k → f i = 0) → sumN f n = f k
  | 0, hk, _ => by omega
  | n + 1, hk, h => by
    show sumN f n + f n = f k
    by_cases e : n = k
    · subst e; rw [sumN_zero (fun i hi => h i (by omega) (by omega)), Int.zero_add]
    · rw [sumN_one (n := n) (by omega) (fun i hi => h i (by omega)), h n (by omega) e, Int.add_zero]
theorem sumN_two {f : Nat → Int} {k : Nat} : ∀ {n : Nat}, k + 1 < n → (∀ i, i < n → i ≠ k → i ≠ k + 1 → f i = 0) → sumN f n = f k + f (k + 1)
  | 0, hk, _ => by omega
  | n + 1, hk, h => by
    show sumN f n + f n = f k + f (k + 1)
    by_cases e : n = k + 1
    · subst e; rw [sumN_one (k := k) (by omega) (fun i hi hne => h i (by omega) hne (by omega))]
    · rw [sumN_two (n := n) (by omega) (fun i hi => h i (by omega)), h n (by omega) (by omega) e, Int.add_zero]

/-- The length that place i of cnt and place j of oth have in common. -/
def ovn (i cnt j oth : Nat) : Nat := min ((i + 1) * oth) ((j + 1) * cnt) - max (i * oth) (j * cnt)
theorem ovn_le (i cnt j oth : Nat) : ovn i cnt j oth ≤ oth := by
  unfold ovn
  have : (i + 1) * oth = i * oth + oth := by rw [Nat.add_mul, Nat.one_mul]
  omega
/-- The places that one covers make up its length. -/
def clp (x W t : Nat) : Nat := min (max t (x * W)) ((x + 1) * W)
theorem ovn_clp (c W x a : Nat) : (ovn c W x a : Int) = (clp x W ((c + 1) * a) : Int) - (clp x W (c * a) : Int) := by
  unfold ovn clp
  have h1 : (c + 1) * a = c * a + a := by rw [Nat.add_mul, Nat.one_mul]
  have h2 : (x + 1) * W = x * W + W := by rw [Nat.add_mul, Nat.one_mul]
  omega
theorem sum_clp (W x a : Nat) : ∀ n : Nat, sumN (fun c => (ovn c W x a : Int)) n = (clp x W (n * a) : Int) - (clp x W 0 : Int)
  | 0 => by show (0 : Int) = _; rw [Nat.zero_mul]; omega
  | n + 1 => by
    show sumN (fun c => (ovn c W x a : Int)) n + (ovn n W x a : Int) = _
    rw [sum_clp W x a n, ovn_clp]; omega
theorem sum_ovn {W x a : Nat} (hx : x < a) : sumN (fun c => (ovn c W x a : Int)) W = W := by
  rw [sum_clp]
  unfold clp
  have h1 : (x + 1) * W ≤ a * W := Nat.mul_le_mul_right W hx
  have h2 : (x + 1) * W = x * W + W := by rw [Nat.add_mul, Nat.one_mul]
  rw [Nat.mul_comm a W] at h1
  omega
theorem ovn_dbl (c W x : Nat) : ovn c W x (2 * W) = if c = x / 2 then W else 0 := by
  unfold ovn
  obtain ⟨k, e, hx, hk, he⟩ : ∃ k e, x = 2 * k + e ∧ x / 2 = k ∧ e < 2 := ⟨x / 2, x % 2, by omega, rfl, by omega⟩
  rw [hk]
  have h1 : (c + 1) * (2 * W) = 2 * (c * W) + 2 * W := by rw [Nat.add_mul, Nat.one_mul, Nat.mul_left_comm]
  have h2 : c * (2 * W) = 2 * (c * W) := Nat.mul_left_comm _ _ _
  have h3 : x * W = 2 * (k * W) + e * W := by rw [hx, Nat.add_mul, Nat.mul_assoc]
  have h4 : (x + 1) * W = 2 * (k * W) + e * W + W := by rw [Nat.add_mul, Nat.one_mul, h3]
  rw [h1, h2, h3, h4]
  have he2 : e * W = 0 ∨ e * W = W := by
    rcases (show e = 0 ∨ e = 1 by omega) with rfl | rfl
    · left; simp
    · right; simp
  by_cases h : c = k
  · subst h; rw [if_pos rfl]; omega
  · rw [if_neg h]
    by_cases hl : c < k
    · have := Nat.mul_le_mul_right W (show c + 1 ≤ k from hl)
      rw [Nat.add_mul, Nat.one_mul] at this
      omega
    · have := Nat.mul_le_mul_right W (show k + 1 ≤ c by omega)
      rw [Nat.add_mul, Nat.one_mul] at this
      omega
theorem ovn_half (c k x : Nat) : ovn c (2 * k) x k = if c / 2 = x then k else 0 := by
  unfold ovn
  obtain ⟨m, e, hc, hm, he⟩ : ∃ m e, c = 2 * m + e ∧ c / 2 = m ∧ e < 2 := ⟨c / 2, c % 2, by omega, rfl, by omega⟩
  rw [hm]
  have h1 : c * k = 2 * (m * k) + e * k := by rw [hc, Nat.add_mul, Nat.mul_assoc]
  have h2 : (c + 1) * k = 2 * (m * k) + e * k + k := by rw [Nat.add_mul, Nat.one_mul, h1]
  have h3 : x * (2 * k) = 2 * (x * k) := Nat.mul_left_comm _ _ _
  have h4 : (x + 1) * (2 * k) = 2 * (x * k) + 2 * k := by rw [Nat.add_mul, Nat.one_mul, h3]
  rw [h1, h2, h3, h4]
  have he2 : e * k = 0 ∨ e * k = k := by
    rcases (show e = 0 ∨ e = 1 by omega) with rfl | rfl
    · left; simp
    · right; simp
  by_cases h : m = x
  · subst h; rw [if_pos rfl]; omega
  · rw [if_neg h]
    by_cases hl : m < x
    · have := Nat.mul_le_mul_right k (show m + 1 ≤ x from hl)
      rw [Nat.add_mul, Nat.one_mul] at this
      omega
    · have := Nat.mul_le_mul_right k (show x + 1 ≤ m by omega)
      rw [Nat.add_mul, Nat.one_mul] at this
      omega

/-- The sums of a grid's columns, and of its areas. -/
def scF (W a : Nat) (f : Nat → Nat → Int) (x y : Nat) : Int := sumN (fun c => f c y * (ovn c W x a : Int)) W
def saF (W H a b : Nat) (f : Nat → Nat → Int) (x y : Nat) : Int := sumN (fun r => scF W a f x r * (ovn r H y b : Int)) H
def mnA (s : Int) (n : Nat) : Int := (2 * s + (n : Int)) / (2 * (n : Int))
def arF (W H a b : Nat) (F : Nat → Nat → Nat → Int) (x y p : Nat) : Int := mnA (saF W H a b (fun x y => F x y p) x y) (W * H)
theorem scF_ext {W a : Nat} {f g : Nat → Nat → Int} {x y : Nat} (h : ∀ c, c < W → f c y = g c y) : scF W a f x y = scF W a g x y := sumN_ext (fun c hc => by rw [h c hc])
theorem saF_ext {W H a b : Nat} {f g : Nat → Nat → Int} {x y : Nat} (h : ∀ c r, c < W → r < H → f c r = g c r) : saF W H a b f x y = saF W H a b g x y := sumN_ext (fun r hr => by rw [scF_ext (fun c hc => h c r hc hr)])
theorem arF_ext {W H a b : Nat} {F G : Nat → Nat → Nat → Int} {x y p : Nat} (h : ∀ c r, c < W → r < H → F c r p = G c r p) : arF W H a b F x y p = arF W H a b G x y p := by
  unfold arF; rw [saF_ext h]
theorem scF_bd {W a : Nat} {f : Nat → Nat → Int} {x y : Nat} (hW : W ≤ 16) (ha : a ≤ 16) (h : ∀ c, c < W → 0 ≤ f c y ∧ f c y ≤ 255) : 0 ≤ scF W a f x y ∧ scF W a f x y ≤ 65280 := by
  have := sumN_bd (f := fun c => f c y * (ovn c W x a : Int)) (b := 4080) (n := W) (fun c hc => by
    have h1 := h c hc
    have h2 := ovn_le c W x a
    have h3 : f c y * (ovn c W x a : Int) ≤ 255 * 16 := Int.mul_le_mul h1.2 (by omega) (by omega) (by omega)
    exact ⟨Int.mul_nonneg h1.1 (by omega), by omega⟩)
  unfold scF
  omega
/-- A partial sum. -/
theorem scF_part {W a : Nat} {f : Nat → Nat → Int} {x y : Nat} {b : Int} (hb : 0 ≤ b) (ha : a ≤ 16) (h : ∀ c, c < W → 0 ≤ f c y ∧ f c y ≤ b) {n : Nat} (hn : n ≤ W) (hn16 : n ≤ 16) : 0 ≤ sumN (fun c => f c y * (ovn c W x a : Int)) n ∧ sumN (fun c => f c y * (ovn c W x a : Int)) n ≤ 256 * b := by
  have := sumN_bd (f := fun c => f c y * (ovn c W x a : Int)) (b := b * 16) (n := n) (fun c hc => by
    have h1 := h c (by omega)
    have h2 := ovn_le c W x a
    have h3 : f c y * (ovn c W x a : Int) ≤ b * 16 := Int.mul_le_mul h1.2 (by omega) (by omega) hb
    exact ⟨Int.mul_nonneg h1.1 (by omega), h3⟩)
  have h2 : (n : Int) * (b * 16) ≤ 16 * (b * 16) := Int.mul_le_mul_of_nonneg_right (by omega) (by omega)
  omega
theorem saF_bd {W H a b : Nat} {f : Nat → Nat → Int} {x y : Nat} (hW : W ≤ 16) (hH : H ≤ 16) (ha : a ≤ 16) (hb : b ≤ 16) (h : ∀ c r, c < W → r < H → 0 ≤ f c r ∧ f c r ≤ 255) : 0 ≤ saF W H a b f x y ∧ saF W H a b f x y ≤ 16711680 := by
  have := sumN_bd (f := fun r => scF W a f x r * (ovn r H y b : Int)) (b := 1044480) (n := H) (fun r hr => by
    have h1 := scF_bd (x := x) (y := r) hW ha (fun c hc => h c r hc hr)
    have h2 := ovn_le r H y b
    have h3 : scF W a f x r * (ovn r H y b : Int) ≤ 65280 * 16 := Int.mul_le_mul h1.2 (by omega) (by omega) (by omega)
    exact ⟨Int.mul_nonneg h1.1 (by omega), by omega⟩)
  unfold saF
  omega
/-- The sum of an area is between those of its least and its largest number. -/
theorem saF_between {W H a b : Nat} {f : Nat → Nat → Int} {x y : Nat} {lo hi : Int} (hx : x < a) (hy : y < b) (h : ∀ c r, c < W → r < H → lo ≤ f c r ∧ f c r ≤ hi) : lo * (W * H : Nat) ≤ saF W H a b f x y ∧ saF W H a b f x y ≤ hi * (W * H : Nat) := by
  have h1 : ∀ k : Int, sumN (fun r => (k * W) * (ovn r H y b : Int)) H = k * (W * H : Nat) := fun k => by
    rw [show (fun r => (k * W) * (ovn r H y b : Int)) = (fun r => (ovn r H y b : Int) * (k * W)) from funext fun r => Int.mul_comm _ _, sumN_mul, sum_ovn hy, Int.natCast_mul, Int.mul_comm (H : Int), Int.mul_assoc]
  have h2 : ∀ k : Int, sumN (fun c => k * (ovn c W x a : Int)) W = k * W := fun k => by
    rw [show (fun c => k * (ovn c W x a : Int)) = (fun c => (ovn c W x a : Int) * k) from funext fun r => Int.mul_comm _ _, sumN_mul, sum_ovn hx, Int.mul_comm]
  have h3 : ∀ r, r < H → lo * W ≤ scF W a f x r ∧ scF W a f x r ≤ hi * W := fun r hr => by
    constructor
    · rw [← h2]; exact sumN_le (fun c hc => Int.mul_le_mul_of_nonneg_right (h c r hc hr).1 (by omega))
    · rw [← h2]; exact sumN_le (fun c hc => Int.mul_le_mul_of_nonneg_right (h c r hc hr).2 (by omega))
  constructor
  · rw [← h1]; exact sumN_le (fun r hr => Int.mul_le_mul_of_nonneg_right (h3 r hr).1 (by omega))
  · rw [← h1]; exact sumN_le (fun r hr => Int.mul_le_mul_of_nonneg_right (h3 r hr).2 (by omega))
theorem mnA_between {s lo hi : Int} {n : Nat} (hn : 1 ≤ n) (h : lo * n ≤ s ∧ s ≤ hi * n) : lo ≤ mnA s n ∧ mnA s n ≤ hi := by
  unfold mnA
  have e : ∀ k : Int, k * (2 * (n : Int)) = 2 * (k * n) := fun k => Int.mul_left_comm _ _ _
  constructor
  · exact (Int.le_ediv_iff_mul_le (by omega)).2 (by rw [e]; omega)
  · exact Int.le_of_lt_add_one ((Int.ediv_lt_iff_lt_mul (by omega)).2 (by rw [Int.add_mul, e]; omega))
theorem arF_between {W H a b : Nat} {F : Nat → Nat → Nat → Int} {x y p : Nat} {lo hi : Int} (hW : 1 ≤ W) (hH : 1 ≤ H) (hx : x < a) (hy : y < b) (h : ∀ c r, c < W → r < H → lo ≤ F c r p ∧ F c r p ≤ hi) : lo ≤ arF W H a b F x y p ∧ arF W H a b F x y p ≤ hi :=
  mnA_between (Nat.mul_pos hW hH) (saF_between (f := fun x y => F x y p) hx hy h)
/-- Twice as many columns and rows. -/
theorem arF_dbl {W H : Nat} (F : Nat → Nat → Nat → Int) {x y p : Nat} (hW : 1 ≤ W) (hH : 1 ≤ H) (hx : x < 2 * W) (hy : y < 2 * H) : arF W H (2 * W) (2 * H) F x y p = F (x / 2) (y / 2) p := by
  have h1 : ∀ r, scF W (2 * W) (fun x y => F x y p) x r = F (x / 2) r p * W := fun r => by
    unfold scF
    rw [sumN_one (k := x / 2) (by omega) (fun i hi hne => by rw [ovn_dbl, if_neg hne]; simp), ovn_dbl, if_pos rfl]
  have h2 : saF W H (2 * W) (2 * H) (fun x y => F x y p) x y = F (x / 2) (y / 2) p * W * H := by
    unfold saF
    rw [sumN_one (k := y / 2) (by omega) (fun i hi hne => by rw [ovn_dbl, if_neg hne]; simp), ovn_dbl, if_pos rfl, h1]
  unfold arF
  have h3 := mnA_between (s := F (x / 2) (y / 2) p * W * H) (lo := F (x / 2) (y / 2) p) (hi := F (x / 2) (y / 2) p) (n := W * H) (Nat.mul_pos hW hH) (by rw [Int.natCast_mul, Int.mul_assoc]; exact ⟨Int.le_refl _, Int.le_refl _⟩)
  rw [h2]
  omega
/-- Half as many columns and rows. -/
def hvF (F : Nat → Nat → Nat → Int) (x y p : Nat) : Int := (F (2 * x) (2 * y) p + F (2 * x + 1) (2 * y) p + F (2 * x) (2 * y + 1) p + F (2 * x + 1) (2 * y + 1) p + 2) / 4
theorem arF_half {k l : Nat} (F : Nat → Nat → Nat → Int) {x y p : Nat} (hk : 1 ≤ k) (hl : 1 ≤ l) (hx : x < k) (hy : y < l) : arF (2 * k) (2 * l) k l F x y p = hvF F x y p := by
  have h1 : ∀ r, scF (2 * k) k (fun x y => F x y p) x r = (F (2 * x) r p + F (2 * x + 1) r p) * k := fun r => by
    unfold scF
    rw [sumN_two (k := 2 * x) (by omega) (fun i hi hne hne2 => by rw [ovn_half, if_neg (by omega)]; simp), ovn_half, if_pos (by omega), ovn_half, if_pos (by omega), Int.add_mul]
  have h2 : saF (2 * k) (2 * l) k l (fun x y => F x y p) x y = (F (2 * x) (2 * y) p + F (2 * x + 1) (2 * y) p + F (2 * x) (2 * y + 1) p + F (2 * x + 1) (2 * y + 1) p) * (k * l : Nat) := by
    unfold saF
    rw [sumN_two (k := 2 * y) (by omega) (fun i hi hne hne2 => by rw [ovn_half, if_neg (by omega)]; simp), ovn_half, if_pos (by omega), ovn_half, if_pos (by omega), h1, h1, Int.mul_assoc, Int.mul_assoc, ← Int.add_mul, Int.natCast_mul]
    congr 1; omega
  unfold arF mnA hvF
  rw [h2, show 2 * k * (2 * l) = 4 * (k * l) by rw [Nat.mul_mul_mul_comm]]
  have hp : 1 ≤ k * l := Nat.mul_pos hk hl
  generalize F (2 * x) (2 * y) p + F (2 * x + 1) (2 * y) p + F (2 * x) (2 * y + 1) p + F (2 * x + 1) (2 * y + 1) p = s
  generalize k * l = n at *
  rw [show 2 * (s * (n : Int)) + ((4 * n : Nat) : Int) = (s + 2) * (2 * (n : Int)) by rw [Int.add_mul, Int.mul_left_comm s]; omega, show 2 * ((4 * n : Nat) : Int) = 4 * (2 * (n : Int)) by omega]
  exact Int.mul_ediv_mul_of_pos_left _ _ (by omega)
end Go.Proofs.Ytjgcondkoaegnaa
