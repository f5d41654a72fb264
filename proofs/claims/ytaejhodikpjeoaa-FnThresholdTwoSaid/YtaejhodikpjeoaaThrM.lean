/- Mathematics of thresholds: numbers and sums of both parts, the best threshold. -/
import Derived.Test.YtaejhodikpjeoaaEquM
namespace Go.Proofs.Ytaejhodikpjeoaa
set_option linter.unusedSimpArgs false
set_option linter.unusedVariables false

/-- The sum of the first numbers, each times its place. -/
def wsm (xs : List Int) : Nat → Int
  | 0 => 0
  | k + 1 => wsm xs k + k * xs.getD k 0
/-- Both parts of a threshold: how many, and their sums. -/
def thA (cs : List Int) (t : Nat) : Int := sm cs t
def thB (cs : List Int) (t : Nat) : Int := sm cs 256 - sm cs t
def thX (cs : List Int) (t : Nat) : Int := wsm cs t
def thY (cs : List Int) (t : Nat) : Int := wsm cs 256 - wsm cs t
/-- The difference whose square counts, and what it is divided by. -/
def thD (cs : List Int) (t : Nat) : Int := thA cs t * thY cs t - thB cs t * thX cs t
def thE (cs : List Int) (t : Nat) : Int := thA cs t * thB cs t
/-- The best of the thresholds 1 to k, 0 for none. -/
def bst (cs : List Int) : Nat → Nat
  | 0 => 0
  | k + 1 => if thA cs (k + 1) = 0 ∨ thB cs (k + 1) = 0 then bst cs k else if bst cs k = 0 ∨ thD cs (k + 1) * thD cs (k + 1) * thE cs (bst cs k) > thD cs (bst cs k) * thD cs (bst cs k) * thE cs (k + 1) then k + 1 else bst cs k
theorem bst_le (cs : List Int) : ∀ k, bst cs k ≤ k
  | 0 => Nat.le_refl _
  | k + 1 => by
    have := bst_le cs k
    unfold bst
    split
    · omega
    · split <;> omega
theorem bst_parts (cs : List Int) : ∀ k, bst cs k = 0 ∨ (¬ thA cs (bst cs k) = 0 ∧ ¬ thB cs (bst cs k) = 0)
  | 0 => .inl rfl
  | k + 1 => by
    have ih := bst_parts cs k
    unfold bst
    split
    · exact ih
    · rename_i h
      split
      · right; exact ⟨fun e => h (.inl e), fun e => h (.inr e)⟩
      · exact ih
/-- Where a threshold has both parts, there is a best one. -/
theorem bst_some (cs : List Int) (k : Nat) : ∀ t, 1 ≤ t → t ≤ k → ¬ thA cs t = 0 → ¬ thB cs t = 0 → ¬ bst cs k = 0 := by
  induction k with
  | zero => intro t h1 h2 _ _; exact absurd (Nat.le_trans h1 h2) (Nat.not_succ_le_zero 0)
  | succ k ih =>
    intro t h1 h2 ha hb
    by_cases e : t = k + 1
    · subst e
      unfold bst
      rw [if_neg (fun h => h.elim ha hb)]
      split
      · exact Nat.succ_ne_zero _
      · rename_i h; exact fun e => h (.inl e)
    · have ih := ih t h1 (Nat.lt_succ_iff.1 (Nat.lt_of_le_of_ne h2 e)) ha hb
      unfold bst
      split
      · exact ih
      · split
        · exact Nat.succ_ne_zero _
        · exact ih
/-- Counts: none is negative, all of them together few. -/
structure ThC (cs : List Int) : Prop where
  len : cs.length = 256
  pos : ∀ j, 0 ≤ cs.getD j 0
  all : sm cs 256 ≤ 256
section
variable {cs : List Int} (h : ThC cs)
include h
theorem ThC.mono {a b : Nat} (hab : a ≤ b) : sm cs a ≤ sm cs b := by
  induction b with
  | zero => rw [show a = 0 by omega]; exact Int.le_refl _
  | succ b ih =>
    by_cases e : a = b + 1
    · rw [e]; exact Int.le_refl _
    · have := ih (by omega)
      have := h.pos b
      show sm cs a ≤ sm cs b + cs.getD b 0
      omega
theorem ThC.a_bd {t : Nat} (ht : t ≤ 256) : 0 ≤ thA cs t ∧ thA cs t ≤ 256 ∧ 0 ≤ thB cs t ∧ thB cs t ≤ 256 ∧ thA cs t + thB cs t = sm cs 256 := by
  have h1 := h.mono (a := 0) (b := t) (by omega)
  have h2 := h.mono (a := t) (b := 256) ht
  have h3 := h.all
  have h4 : sm cs 0 = 0 := rfl
  unfold thA thB
  omega
/-- Between two places, each number counts at least and at most so much. -/
theorem ThC.wsm_mid {a : Nat} : ∀ {b : Nat}, a ≤ b → (a : Int) * (sm cs b - sm cs a) ≤ wsm cs b - wsm cs a ∧ wsm cs b - wsm cs a ≤ ((b : Int) - 1) * (sm cs b - sm cs a)
  | 0, hb => by obtain rfl : a = 0 := by omega
                simp [sm, wsm]
  | b + 1, hb => by
    by_cases e : a = b + 1
    · subst e; simp
    · obtain ⟨h1, h2⟩ := ThC.wsm_mid (a := a) (b := b) (by omega)
      have hp := h.pos b
      have hm := h.mono (a := a) (b := b) (by omega)
      have h3 : (a : Int) * cs.getD b 0 ≤ (b : Int) * cs.getD b 0 := Int.mul_le_mul_of_nonneg_right (by omega) hp
      have h4 : ((b : Int) - 1) * (sm cs b - sm cs a) ≤ (b : Int) * (sm cs b - sm cs a) := Int.mul_le_mul_of_nonneg_right (by omega) (by omega)
      have e1 : sm cs (b + 1) = sm cs b + cs.getD b 0 := rfl
      have e2 : wsm cs (b + 1) = wsm cs b + (b : Int) * cs.getD b 0 := rfl
      rw [e1, e2, show sm cs b + cs.getD b 0 - sm cs a = (sm cs b - sm cs a) + cs.getD b 0 by omega, Int.mul_add, Int.mul_add, show (((b + 1 : Nat) : Int) - 1) = (b : Int) by omega]
      omega
theorem ThC.x_bd {t : Nat} (ht : t ≤ 256) : 0 ≤ thX cs t ∧ thX cs t ≤ 255 * thA cs t ∧ thX cs t ≤ ((t : Int) - 1) * thA cs t ∧ (t : Int) * thB cs t ≤ thY cs t ∧ 0 ≤ thY cs t ∧ thY cs t ≤ 255 * thB cs t := by
  obtain ⟨a0, a1, b0, b1, _⟩ := h.a_bd ht
  obtain ⟨h1, h2⟩ := h.wsm_mid (a := 0) (b := t) (by omega)
  obtain ⟨h3, h4⟩ := h.wsm_mid (a := t) (b := 256) ht
  have e0 : sm cs 0 = 0 := rfl
  have e1 : wsm cs 0 = 0 := rfl
  have e2 : ((t : Int) - 1) * thA cs t ≤ 255 * thA cs t := Int.mul_le_mul_of_nonneg_right (by omega) a0
  have e3 : 0 ≤ (t : Int) * thB cs t := Int.mul_nonneg (by omega) b0
  simp only [e0, e1, Int.sub_zero] at h1 h2
  unfold thX thY
  unfold thA at *
  unfold thB at *
  have e4 : ((256 : Nat) : Int) - 1 = 255 := rfl
  rw [e4] at h4
  refine ⟨by simpa using h1, by omega, h2, h3, by omega, h4⟩
/-- The difference of a threshold: at least the product of both parts, at most 255 times it. -/
theorem ThC.d_bd {t : Nat} (ht1 : 1 ≤ t) (ht : t ≤ 256) : thE cs t ≤ thD cs t ∧ thD cs t ≤ 255 * thE cs t ∧ 0 ≤ thE cs t ∧ thE cs t ≤ 16384 := by
  obtain ⟨a0, a1, b0, b1, hab⟩ := h.a_bd ht
  obtain ⟨x0, x1, x2, y1, y0, y2⟩ := h.x_bd ht
  have hall := h.all
  have m1 : thA cs t * ((t : Int) * thB cs t) ≤ thA cs t * thY cs t := Int.mul_le_mul_of_nonneg_left y1 a0
  have m2 : thB cs t * thX cs t ≤ thB cs t * (((t : Int) - 1) * thA cs t) := Int.mul_le_mul_of_nonneg_left x2 b0
  have m3 : thA cs t * thY cs t ≤ thA cs t * (255 * thB cs t) := Int.mul_le_mul_of_nonneg_left y2 a0
  have m4 : 0 ≤ thB cs t * thX cs t := Int.mul_nonneg b0 x0
  have e1 : thA cs t * ((t : Int) * thB cs t) = (t : Int) * thE cs t := by unfold thE; rw [← Int.mul_assoc, Int.mul_comm (thA cs t), Int.mul_assoc]
  have e2 : thB cs t * (((t : Int) - 1) * thA cs t) = ((t : Int) - 1) * thE cs t := by unfold thE; rw [← Int.mul_assoc, Int.mul_comm (thB cs t), Int.mul_assoc, Int.mul_comm (thB cs t)]
  have e3 : thA cs t * (255 * thB cs t) = 255 * thE cs t := by unfold thE; rw [← Int.mul_assoc, Int.mul_comm (thA cs t), Int.mul_assoc]
  have e4 : (t : Int) * thE cs t - ((t : Int) - 1) * thE cs t = thE cs t := by rw [← Int.sub_mul]; rw [show (t : Int) - ((t : Int) - 1) = 1 by omega, Int.one_mul]
  have e5 : 0 ≤ thE cs t := Int.mul_nonneg a0 b0
  have e6 : thE cs t ≤ 16384 := by
    have h1 : thB cs t ≤ 256 - thA cs t := by omega
    have h2 : thE cs t ≤ thA cs t * (256 - thA cs t) := Int.mul_le_mul_of_nonneg_left h1 a0
    have h3 : 0 ≤ (thA cs t - 128) * (thA cs t - 128) := (by rcases Int.le_total 0 (thA cs t - 128) with c | c <;> first | exact Int.mul_nonneg c c | exact Int.mul_nonneg_of_nonpos_of_nonpos c c)
    have h4 : (thA cs t - 128) * (thA cs t - 128) = 16384 - thA cs t * (256 - thA cs t) := by
      rw [Int.sub_mul, Int.mul_sub, Int.mul_sub, Int.mul_sub]; omega
    omega
  unfold thD
  rw [e1] at m1
  rw [e2] at m2
  rw [e3] at m3
  refine ⟨by omega, by omega, e5, e6⟩
end
/-- Two quotients compared by division and remainder. -/
theorem quo_cmp {u v p q : Int} (hu : 0 ≤ u) (hv : 0 ≤ v) (hp : 0 < p) (hq : 0 < q) : (u / p > v / q ∨ (u / p = v / q ∧ u % p * q > v % q * p)) ↔ u * q > v * p := by
  have eu := Int.emod_add_mul_ediv u p
  have ev := Int.emod_add_mul_ediv v q
  have u0 := Int.emod_nonneg u (show p ≠ 0 by omega)
  have v0 := Int.emod_nonneg v (show q ≠ 0 by omega)
  have u1 := Int.emod_lt_of_pos u hp
  have v1 := Int.emod_lt_of_pos v hq
  generalize u / p = U at *
  generalize v / q = V at *
  generalize u % p = r at *
  generalize v % q = s at *
  have e1 : u * q = r * q + U * (p * q) := by rw [← eu, Int.add_mul, Int.mul_comm p U, Int.mul_assoc]
  have e2 : v * p = s * p + V * (p * q) := by rw [← ev, Int.add_mul, Int.mul_comm q V, Int.mul_assoc, Int.mul_comm q p]
  have hr : 0 ≤ r * q := Int.mul_nonneg u0 (by omega)
  have hs : 0 ≤ s * p := Int.mul_nonneg v0 (by omega)
  have hr2 : r * q < p * q := Int.mul_lt_mul_of_pos_right u1 hq
  have hs2 : s * p < p * q := by rw [Int.mul_comm p q]; exact Int.mul_lt_mul_of_pos_right v1 hp
  have hpq : 0 < p * q := Int.mul_pos hp hq
  constructor
  · rintro (h | ⟨h, h2⟩)
    · have h3 : (V + 1) * (p * q) ≤ U * (p * q) := Int.mul_le_mul_of_nonneg_right (by omega) (by omega)
      rw [Int.add_mul, Int.one_mul] at h3
      omega
    · subst h; omega
  · intro h
    by_cases c : U > V
    · exact .inl c
    · by_cases c2 : U = V
      · subst c2; exact .inr ⟨rfl, by omega⟩
      · have h3 : (U + 1) * (p * q) ≤ V * (p * q) := Int.mul_le_mul_of_nonneg_right (by omega) (by omega)
        rw [Int.add_mul, Int.one_mul] at h3
        omega
/-- A product's bounds. -/
theorem thMul {a y A Y : Int} (h1 : 0 ≤ a) (h2 : a ≤ A) (h3 : 0 ≤ y) (h4 : y ≤ Y) : 0 ≤ a * y ∧ a * y ≤ A * Y :=
  ⟨Int.mul_nonneg h1 h3, Int.le_trans (Int.mul_le_mul_of_nonneg_right h2 h3) (Int.mul_le_mul_of_nonneg_left h4 (by omega))⟩
theorem ThC.bds {cs : List Int} (h : ThC cs) (k : Nat) (hk : k ≤ 256) : 0 ≤ sm cs k ∧ sm cs k ≤ 256 ∧ 0 ≤ wsm cs k ∧ wsm cs k ≤ 65280 := by
  obtain ⟨a0, a1, _⟩ := h.a_bd hk
  obtain ⟨x0, x1, _⟩ := h.x_bd hk
  have e1 : thA cs k = sm cs k := rfl
  have e2 : thX cs k = wsm cs k := rfl
  rw [← e1, ← e2]
  clear e1 e2
  refine ⟨a0, a1, x0, by omega⟩
theorem ThC.one {cs : List Int} (h : ThC cs) (k : Nat) (hk : k < 256) : 0 ≤ cs.getD k 0 ∧ cs.getD k 0 ≤ 256 ∧ 0 ≤ (k : Int) * cs.getD k 0 ∧ (k : Int) * cs.getD k 0 ≤ 65280 := by
  have h1 := h.bds k (by omega)
  have h2 := h.bds (k + 1) (by omega)
  have e1 : sm cs (k + 1) = sm cs k + cs.getD k 0 := rfl
  have e2 : wsm cs (k + 1) = wsm cs k + (k : Int) * cs.getD k 0 := rfl
  rw [e1, e2] at h2
  have h3 := h.pos k
  have h4 : 0 ≤ (k : Int) * cs.getD k 0 := Int.mul_nonneg (by omega) h3
  omega
theorem ThC.wmono {cs : List Int} (h : ThC cs) {a b : Nat} (hab : a ≤ b) : wsm cs a ≤ wsm cs b := by
  have h1 := (h.wsm_mid hab).1
  have h2 := h.mono hab
  have h3 : 0 ≤ (a : Int) * (sm cs b - sm cs a) := Int.mul_nonneg (by omega) (by omega)
  omega
/-- What has been counted of both parts behind the first k numbers. -/
def bA (cs : List Int) (t k : Nat) : Int := sm cs (min k t)
def bB (cs : List Int) (t k : Nat) : Int := sm cs k - sm cs (min k t)
def bX (cs : List Int) (t k : Nat) : Int := wsm cs (min k t)
def bY (cs : List Int) (t k : Nat) : Int := wsm cs k - wsm cs (min k t)
theorem bLow (cs : List Int) {t k : Nat} (h : k < t) : bA cs t (k + 1) = bA cs t k + cs.getD k 0 ∧ bX cs t (k + 1) = bX cs t k + (k : Int) * cs.getD k 0 ∧ bB cs t (k + 1) = bB cs t k ∧ bY cs t (k + 1) = bY cs t k := by
  unfold bA bB bX bY
  rw [show min k t = k by omega, show min (k + 1) t = k + 1 by omega]
  exact ⟨rfl, rfl, by omega, by omega⟩
theorem bHigh (cs : List Int) {t k : Nat} (h : ¬ k < t) : bA cs t (k + 1) = bA cs t k ∧ bX cs t (k + 1) = bX cs t k ∧ bB cs t (k + 1) = bB cs t k + cs.getD k 0 ∧ bY cs t (k + 1) = bY cs t k + (k : Int) * cs.getD k 0 := by
  unfold bA bB bX bY
  rw [show min k t = t by omega, show min (k + 1) t = t by omega]
  have e1 : sm cs (k + 1) = sm cs k + cs.getD k 0 := rfl
  have e2 : wsm cs (k + 1) = wsm cs k + (k : Int) * cs.getD k 0 := rfl
  rw [e1, e2]
  exact ⟨rfl, rfl, by omega, by omega⟩
theorem bEnd (cs : List Int) {t : Nat} (h : t ≤ 256) : bA cs t 256 = thA cs t ∧ bX cs t 256 = thX cs t ∧ bB cs t 256 = thB cs t ∧ bY cs t 256 = thY cs t := by
  unfold bA bB bX bY
  rw [Nat.min_eq_right h]
  exact ⟨rfl, rfl, rfl, rfl⟩
theorem ThC.b_bd {cs : List Int} (h : ThC cs) (t k : Nat) (hk : k ≤ 256) : 0 ≤ bA cs t k ∧ bA cs t k ≤ 256 ∧ 0 ≤ bB cs t k ∧ bB cs t k ≤ 256 ∧ 0 ≤ bX cs t k ∧ bX cs t k ≤ 65280 ∧ 0 ≤ bY cs t k ∧ bY cs t k ≤ 65280 := by
  unfold bA bB bX bY
  have h1 := h.bds (min k t) (by omega)
  have h2 := h.bds k hk
  have h3 := h.mono (a := min k t) (b := k) (Nat.min_le_left _ _)
  have h4 := h.wmono (a := min k t) (b := k) (Nat.min_le_left _ _)
  generalize min k t = j at *
  refine ⟨h1.1, h1.2.1, by omega, by omega, h1.2.2.1, h1.2.2.2, by omega, by omega⟩
theorem b_zero (cs : List Int) (t : Nat) : bA cs t 0 = 0 ∧ bB cs t 0 = 0 ∧ bX cs t 0 = 0 ∧ bY cs t 0 = 0 := by
  unfold bA bB bX bY
  rw [Nat.min_eq_left (Nat.zero_le t)]
  exact ⟨rfl, rfl, rfl, rfl⟩
theorem bst_skip {cs : List Int} {k : Nat} (h : thA cs (k + 1) = 0 ∨ thB cs (k + 1) = 0) : bst cs (k + 1) = bst cs k := by
  show (if thA cs (k + 1) = 0 ∨ thB cs (k + 1) = 0 then bst cs k else _) = _
  rw [if_pos h]
theorem bst_next {cs : List Int} {k : Nat} (h : ¬ (thA cs (k + 1) = 0 ∨ thB cs (k + 1) = 0)) : bst cs (k + 1) = if bst cs k = 0 ∨ thD cs (k + 1) * thD cs (k + 1) * thE cs (bst cs k) > thD cs (bst cs k) * thD cs (bst cs k) * thE cs (k + 1) then k + 1 else bst cs k := by
  show (if thA cs (k + 1) = 0 ∨ thB cs (k + 1) = 0 then bst cs k else if bst cs k = 0 ∨ thD cs (k + 1) * thD cs (k + 1) * thE cs (bst cs k) > thD cs (bst cs k) * thD cs (bst cs k) * thE cs (k + 1) then k + 1 else bst cs k) = _
  rw [if_neg h]
/-- What is known of a threshold with both parts. -/
theorem ThC.both {cs : List Int} (h : ThC cs) {t : Nat} (ht1 : 1 ≤ t) (ht : t ≤ 256) (ha : ¬ thA cs t = 0) (hb : ¬ thB cs t = 0) : 0 < thE cs t ∧ thE cs t ≤ 16384 ∧ 0 ≤ thD cs t ∧ thD cs t ≤ 4177920 ∧ 0 ≤ thD cs t * thD cs t ∧ thD cs t * thD cs t ≤ 17455015526400 := by
  obtain ⟨a0, a1, b0, b1, _⟩ := h.a_bd ht
  obtain ⟨d0, d1, e0, e1⟩ := h.d_bd ht1 ht
  have hE : 0 < thE cs t := Int.mul_pos (by omega) (by omega)
  have h0 : 0 ≤ thD cs t := by omega
  have h1 : thD cs t ≤ 4177920 := by omega
  obtain ⟨m0, m1⟩ := thMul h0 h1 h0 h1
  exact ⟨hE, e1, h0, h1, m0, by omega⟩
theorem thC_hist {xs : List Int} (hl : xs.length ≤ 256) (hb : ∀ j, j < xs.length → 0 ≤ xs.getD j 0 ∧ xs.getD j 0 ≤ 255) : ThC (hist xs) :=
  ⟨hist_len xs, fun j => (hist_bd xs j).1, by
    rw [sm_all xs (fun x hx => by obtain ⟨j, hj, rfl⟩ := mem_getD hx; exact hb j hj)]
    omega⟩
theorem thE_eq (cs : List Int) (t : Nat) : thE cs t = thA cs t * thB cs t := rfl
theorem bst_zero (cs : List Int) : bst cs 0 = 0 := rfl
theorem th_start (cs : List Int) : thA cs 0 = 0 ∧ thX cs 0 = 0 ∧ thB cs 0 = sm cs 256 ∧ thY cs 0 = wsm cs 256 := by
  refine ⟨rfl, rfl, ?_, ?_⟩
  · show sm cs 256 - 0 = _; rw [Int.sub_zero]
  · show wsm cs 256 - 0 = _; rw [Int.sub_zero]
theorem th_step (cs : List Int) (k : Nat) : thA cs (k + 1) = thA cs k + cs.getD k 0 ∧ thX cs (k + 1) = thX cs k + cs.getD k 0 * (k : Int) ∧ thB cs (k + 1) = thB cs k + -cs.getD k 0 ∧ thY cs (k + 1) = thY cs k + -(cs.getD k 0 * (k : Int)) := by
  have e1 : sm cs (k + 1) = sm cs k + cs.getD k 0 := rfl
  have e2 : wsm cs (k + 1) = wsm cs k + (k : Int) * cs.getD k 0 := rfl
  rw [Int.mul_comm] at e2
  unfold thA thX thB thY
  rw [e1, e2]
  generalize sm cs 256 = s
  generalize wsm cs 256 = r
  refine ⟨rfl, rfl, by omega, by omega⟩
theorem th_full (cs : List Int) : bst cs 256 = bst cs 255 := bst_skip (.inr (by show sm cs 256 - sm cs 256 = 0; exact Int.sub_self _))
theorem sm_zero (cs : List Int) : sm cs 0 = 0 ∧ wsm cs 0 = 0 := ⟨rfl, rfl⟩
theorem sm_next (cs : List Int) (k : Nat) : sm cs (k + 1) = sm cs k + cs.getD k 0 ∧ wsm cs (k + 1) = wsm cs k + cs.getD k 0 * (k : Int) := ⟨rfl, by rw [Int.mul_comm]; rfl⟩
/-- The greatest contrast so far, as a fraction. -/
def frT (cs : List Int) (m : Nat) : Int := if m = 0 then 0 else thD cs m * thD cs m
def frE (cs : List Int) (m : Nat) : Int := if m = 0 then 1 else thE cs m
theorem ThC.fr {cs : List Int} (h : ThC cs) (k : Nat) (hk : k ≤ 256) : 0 ≤ frT cs (bst cs k) ∧ frT cs (bst cs k) ≤ 17455015526400 ∧ 0 < frE cs (bst cs k) ∧ frE cs (bst cs k) ≤ 16384 := by
  have h1 := bst_le cs k
  have h2 := bst_parts cs k
  unfold frT frE
  by_cases e : bst cs k = 0
  · rw [if_pos e, if_pos e]; omega
  · rw [if_neg e, if_neg e]
    rcases h2 with h2 | ⟨h2, h3⟩
    · exact absurd h2 e
    · obtain ⟨a, b, _, _, c, d⟩ := h.both (by omega) (by omega) h2 h3
      exact ⟨c, d, a, b⟩
theorem ThC.next {cs : List Int} (h : ThC cs) {k : Nat} (hk : k < 256) (ha : ¬ thA cs (k + 1) = 0) (hb : ¬ thB cs (k + 1) = 0) : bst cs (k + 1) = if frT cs (bst cs k) * thE cs (k + 1) < thD cs (k + 1) * thD cs (k + 1) * frE cs (bst cs k) then k + 1 else bst cs k := by
  rw [bst_next (fun c => c.elim ha hb)]
  unfold frT frE
  by_cases e : bst cs k = 0
  · rw [if_pos (.inl e), if_pos e, if_pos e]
    obtain ⟨e0, _, d0, _, _, _⟩ := h.both (by omega) (by omega) ha hb
    obtain ⟨x, _⟩ := h.d_bd (t := k + 1) (by omega) (by omega)
    have hp : 0 < thD cs (k + 1) * thD cs (k + 1) := Int.mul_pos (by omega) (by omega)
    rw [if_pos (by rw [Int.zero_mul, Int.mul_one]; exact hp)]
  · rw [if_neg e, if_neg e]
    by_cases c : thD cs (bst cs k) * thD cs (bst cs k) * thE cs (k + 1) < thD cs (k + 1) * thD cs (k + 1) * thE cs (bst cs k)
    · rw [if_pos (.inr c), if_pos c]
    · rw [if_neg (fun x => x.elim e c), if_neg c]
theorem fr_pos (cs : List Int) (m : Nat) : frT cs (m + 1) = thD cs (m + 1) * thD cs (m + 1) ∧ frE cs (m + 1) = thE cs (m + 1) := by
  unfold frT frE
  rw [if_neg (Nat.succ_ne_zero m), if_neg (Nat.succ_ne_zero m)]
  exact ⟨rfl, rfl⟩
theorem fr_zero (cs : List Int) : frT cs (bst cs 0) = 0 ∧ frE cs (bst cs 0) = 1 := ⟨rfl, rfl⟩
theorem thD_eq (cs : List Int) (t : Nat) : thD cs t = thA cs t * thY cs t - thB cs t * thX cs t := rfl
end Go.Proofs.Ytaejhodikpjeoaa
