/- Regions that grow and shrink: bits and pixels, and what holds of them. -/
import Derived.Test.YtoeifhflbgfcjaaDoorBitV
import Derived.Test.YtoeifhflbgfcjaaDoorBitF
import Derived.Test.YtoeifhflbgfcjaaDoorGrwS
namespace Go.Proofs.YtoeifhflbgfcjaaDoor
open Go.RowKit
set_option linter.unusedSimpArgs false
set_option linter.unusedVariables false

/-! ### Bits and pixels. -/
def asB (B : Nat → Nat) (F : Nat → Bool) : Prop := ∀ j, j < 256 → (B (j / 16)).testBit (j % 16) = F j
theorem sl_bit (b m : Nat) (hm : m < 16) : (b * 2 % 65536).testBit m = (decide (0 < m) && b.testBit (m - 1)) := by
  rw [show (65536 : Nat) = 2 ^ 16 from rfl, Nat.testBit_mod_two_pow, decide_eq_true hm, Bool.true_and, show b * 2 = b * 2 ^ 1 from rfl, Nat.testBit_mul_two_pow]
  by_cases h : 0 < m
  · rw [decide_eq_true h, decide_eq_true (show 1 ≤ m from h)]
  · rw [decide_eq_false h, decide_eq_false (show ¬ 1 ≤ m from h)]
theorem sr_bit (b m : Nat) (hb : b < 65536) (hm : m < 16) : (b / 2).testBit m = (decide (m < 15) && b.testBit (m + 1)) := by
  rw [show b / 2 = b / 2 ^ 1 from rfl, tb_div, Nat.add_comm 1 m]
  by_cases h : m < 15
  · rw [decide_eq_true h, Bool.true_and]
  · rw [decide_eq_false h, Bool.false_and]
    exact bG_hi hb (by omega)
theorem up_bit (B : Nat → Nat) (q m : Nat) (hq : q < 16) : (bRow B ((q : Int) - 1)).testBit m = (decide (0 < q) && (B (q - 1)).testBit m) := by
  unfold bRow
  by_cases h : 0 < q
  · rw [if_pos (by omega), decide_eq_true h, Bool.true_and, show ((q : Int) - 1).toNat = q - 1 by omega]
  · rw [if_neg (by omega), decide_eq_false h, Bool.false_and, Nat.zero_testBit]
theorem dn_bit (B : Nat → Nat) (q m : Nat) (hq : q < 16) : (bRow B ((q : Int) + 1)).testBit m = (decide (q < 15) && (B (q + 1)).testBit m) := by
  unfold bRow
  by_cases h : q < 15
  · rw [if_pos (by omega), decide_eq_true h, Bool.true_and, show ((q : Int) + 1).toNat = q + 1 by omega]
  · rw [if_neg (by omega), decide_eq_false h, Bool.false_and, Nat.zero_testBit]
section
variable {B : Nat → Nat} {F : Nat → Bool}
theorem asB.parts (h : asB B F) {j : Nat} (hj : j < 256) :
    (B (j / 16)).testBit (j % 16) = F j ∧ (decide (0 < j % 16) && (B (j / 16)).testBit (j % 16 - 1)) = (decide (0 < j % 16) && F (j - 1)) ∧
    (decide (j % 16 < 15) && (B (j / 16)).testBit (j % 16 + 1)) = (decide (j % 16 < 15) && F (j + 1)) ∧
    (decide (0 < j / 16) && (B (j / 16 - 1)).testBit (j % 16)) = (decide (0 < j / 16) && F (j - 16)) ∧
    (decide (j / 16 < 15) && (B (j / 16 + 1)).testBit (j % 16)) = (decide (j / 16 < 15) && F (j + 16)) := by
  refine ⟨h j hj, ?_, ?_, ?_, ?_⟩
  · by_cases c : 0 < j % 16
    · have := h (j - 1) (by omega)
      rw [show (j - 1) / 16 = j / 16 by omega, show (j - 1) % 16 = j % 16 - 1 by omega] at this
      rw [this]
    · rw [decide_eq_false c, Bool.false_and, Bool.false_and]
  · by_cases c : j % 16 < 15
    · have := h (j + 1) (by omega)
      rw [show (j + 1) / 16 = j / 16 by omega, show (j + 1) % 16 = j % 16 + 1 by omega] at this
      rw [this]
    · rw [decide_eq_false c, Bool.false_and, Bool.false_and]
  · by_cases c : 0 < j / 16
    · have := h (j - 16) (by omega)
      rw [show (j - 16) / 16 = j / 16 - 1 by omega, show (j - 16) % 16 = j % 16 by omega] at this
      rw [this]
    · rw [decide_eq_false c, Bool.false_and, Bool.false_and]
  · by_cases c : j / 16 < 15
    · have := h (j + 16) (by omega)
      rw [show (j + 16) / 16 = j / 16 + 1 by omega, show (j + 16) % 16 = j % 16 by omega] at this
      rw [this]
    · rw [decide_eq_false c, Bool.false_and, Bool.false_and]
theorem asB.grown (h : asB B F) (hB : ∀ y, B y < 65536) : asB (gwB B 16) (gwF F) := fun j hj => by
  obtain ⟨p0, p1, p2, p3, p4⟩ := h.parts hj
  have hm : j % 16 < 16 := Nat.mod_lt _ (by omega)
  have hq : j / 16 < 16 := by omega
  unfold gwB gwV gwF
  rw [if_pos hq, Nat.testBit_or, Nat.testBit_or, Nat.testBit_or, Nat.testBit_or, sl_bit _ _ hm, sr_bit _ _ (hB _) hm, up_bit _ _ _ hq, dn_bit _ _ _ hq, p0, p1, p2, p3, p4]
  simp only [Bool.or_assoc]
theorem sk_shuffle : ∀ a c1 c2 c3 c4 v1 v2 v3 v4 : Bool, (a && (c1 && v1) && (c2 && v2) && (c3 && v3) && (c4 && v4)) = (a && !(a && !((c1 && (c2 && (c3 && c4))) && (v1 && (v2 && (v3 && v4)))))) := by decide
theorem asB.shrunk (h : asB B F) (hB : ∀ y, B y < 65536) : asB (skB B 16) (skF F) := fun j hj => by
  obtain ⟨p0, p1, p2, p3, p4⟩ := h.parts hj
  have hm : j % 16 < 16 := Nat.mod_lt _ (by omega)
  have hq : j / 16 < 16 := by omega
  unfold skB skV skF edF inF
  rw [if_pos hq, Nat.testBit_and, Nat.testBit_and, Nat.testBit_and, Nat.testBit_and, sl_bit _ _ hm, sr_bit _ _ (hB _) hm, up_bit _ _ _ hq, dn_bit _ _ _ hq, p0, p1, p2, p3, p4]
  exact sk_shuffle _ _ _ _ _ _ _ _ _
/-- A change, made k times. -/
def itF (f : (Nat → Bool) → Nat → Bool) : Nat → (Nat → Bool) → Nat → Bool
  | 0, F => F
  | k + 1, F => f (itF f k F)
def itB (f : (Nat → Nat) → Nat → Nat) : Nat → (Nat → Nat) → Nat → Nat
  | 0, B => B
  | k + 1, B => f (itB f k B)
def chF (more : Bool) : (Nat → Bool) → Nat → Bool := cond more gwF skF
def chB (more : Bool) : (Nat → Nat) → Nat → Nat := fun B => cond more (gwB B 16) (skB B 16)
theorem chB_lt (more : Bool) (hB : ∀ y, B y < 65536) (y : Nat) : chB more B y < 65536 := by
  cases more
  · exact skB_lt hB _ _
  · exact gwB_lt hB _ _
theorem itB_lt (more : Bool) (hB : ∀ y, B y < 65536) : ∀ k y, itB (chB more) k B y < 65536
  | 0, y => hB y
  | k + 1, y => chB_lt more (itB_lt more hB k) y
theorem asB.changed (h : asB B F) (hB : ∀ y, B y < 65536) (more : Bool) : ∀ k, asB (itB (chB more) k B) (itF (chF more) k F)
  | 0 => h
  | k + 1 => by
    cases more
    · exact (h.changed hB false k).shrunk (itB_lt false hB k)
    · exact (h.changed hB true k).grown (itB_lt true hB k)
end
/-- The pixels of a region, by their numbers. -/
def rhF (xs : List Int) (n : Nat) (j : Nat) : Bool := rh xs ((j % 16 : Nat) : Int) ((j / 16 : Nat) : Int) n
theorem asB_reg {xs : List Int} {n : Nat} (h : reg xs n) : asB (btR xs n) (rhF xs n) := fun j hj =>
  btR_bit h n (Nat.le_refl _) _ _ (Nat.mod_lt _ (by omega)) (by omega)
/-- A region, changed k times. -/
def chG (more : Bool) (k : Nat) (xs : List Int) (n : Nat) (x y : Nat) : Bool := itF (chF more) k (rhF xs n) (y * 16 + x)
def chOk (xs : List Int) (n : Nat) (k : Int) : Bool := regB xs n && decide (0 ≤ k ∧ k ≤ 16)
theorem ch_grid {xs : List Int} {n : Nat} (h : reg xs n) (more : Bool) (k a b : Nat) (ha : a < 16) (hb : b < 16) : bGr (itB (chB more) k (btR xs n)) a b = chG more k xs n a b := by
  unfold bGr
  rw [bG_eq (itB_lt more (btR_lt xs n) k b)]
  have := (asB_reg h).changed (btR_lt xs n) more k (b * 16 + a) (by omega)
  rw [show (b * 16 + a) / 16 = b by omega, show (b * 16 + a) % 16 = a by omega] at this
  exact this

/-! ### What holds of grown and shrunk grids. -/
def leF (F G : Nat → Bool) : Prop := ∀ j, j < 256 → F j = true → G j = true
def eqF (F G : Nat → Bool) : Prop := ∀ j, j < 256 → F j = G j
theorem gwF_iff (F : Nat → Bool) (p : Nat) : gwF F p = true ↔ F p = true ∨ (0 < p % 16 ∧ F (p - 1) = true) ∨ (p % 16 < 15 ∧ F (p + 1) = true) ∨ (0 < p / 16 ∧ F (p - 16) = true) ∨ (p / 16 < 15 ∧ F (p + 16) = true) := by
  unfold gwF
  simp only [Bool.or_eq_true, Bool.and_eq_true, decide_eq_true_eq]
theorem inF_iff (F : Nat → Bool) (p : Nat) : inF F p = true ↔ (0 < p % 16 ∧ p % 16 < 15 ∧ 0 < p / 16 ∧ p / 16 < 15) ∧ F (p - 1) = true ∧ F (p + 1) = true ∧ F (p - 16) = true ∧ F (p + 16) = true := by
  unfold inF
  simp only [Bool.and_eq_true, decide_eq_true_eq]
theorem skF_iff (F : Nat → Bool) (p : Nat) : skF F p = true ↔ F p = true ∧ inF F p = true := by
  unfold skF edF
  cases F p <;> cases inF F p <;> simp
theorem edF_iff (F : Nat → Bool) (p : Nat) : edF F p = true ↔ F p = true ∧ ¬ inF F p = true := by
  unfold edF
  cases F p <;> cases inF F p <;> simp
theorem leF.refl (F : Nat → Bool) : leF F F := fun _ _ h => h
theorem leF.trans {F G H : Nat → Bool} (h : leF F G) (h2 : leF G H) : leF F H := fun j hj hf => h2 j hj (h j hj hf)
theorem leF.anti {F G : Nat → Bool} (h : leF F G) (h2 : leF G F) : eqF F G := fun j hj => by
  have a := h j hj
  have b := h2 j hj
  cases hf : F j <;> cases hg : G j <;> simp_all
theorem eqF.le {F G : Nat → Bool} (h : eqF F G) : leF F G := fun j hj hf => (h j hj) ▸ hf
theorem eqF.symm {F G : Nat → Bool} (h : eqF F G) : eqF G F := fun j hj => (h j hj).symm
theorem gw_mono {F G : Nat → Bool} (h : leF F G) : leF (gwF F) (gwF G) := fun j hj hf => by
  rw [gwF_iff] at hf ⊢
  rcases hf with a | ⟨c, a⟩ | ⟨c, a⟩ | ⟨c, a⟩ | ⟨c, a⟩
  · exact .inl (h _ hj a)
  · exact .inr (.inl ⟨c, h _ (by omega) a⟩)
  · exact .inr (.inr (.inl ⟨c, h _ (by omega) a⟩))
  · exact .inr (.inr (.inr (.inl ⟨c, h _ (by omega) a⟩)))
  · exact .inr (.inr (.inr (.inr ⟨c, h _ (by omega) a⟩)))
theorem sk_mono {F G : Nat → Bool} (h : leF F G) : leF (skF F) (skF G) := fun j hj hf => by
  rw [skF_iff, inF_iff] at hf ⊢
  obtain ⟨a, c, b1, b2, b3, b4⟩ := hf
  exact ⟨h _ hj a, c, h _ (by omega) b1, h _ (by omega) b2, h _ (by omega) b3, h _ (by omega) b4⟩
theorem gw_ext (F : Nat → Bool) : leF F (gwF F) := fun j _ hf => (gwF_iff F j).2 (.inl hf)
theorem sk_le (F : Nat → Bool) : leF (skF F) F := fun j _ hf => ((skF_iff F j).1 hf).1
/-- Grown out of what is left. -/
theorem gw_sk (F : Nat → Bool) : leF (gwF (skF F)) F := fun j hj hf => by
  rw [gwF_iff] at hf
  rcases hf with a | ⟨c, a⟩ | ⟨c, a⟩ | ⟨c, a⟩ | ⟨c, a⟩
  · exact sk_le F j hj a
  · have := ((inF_iff _ _).1 ((skF_iff _ _).1 a).2).2.2.1
    rwa [show j - 1 + 1 = j by omega] at this
  · have := ((inF_iff _ _).1 ((skF_iff _ _).1 a).2).2.1
    rwa [show j + 1 - 1 = j by omega] at this
  · have := ((inF_iff _ _).1 ((skF_iff _ _).1 a).2).2.2.2.2
    rwa [show j - 16 + 16 = j by omega] at this
  · have := ((inF_iff _ _).1 ((skF_iff _ _).1 a).2).2.2.2.1
    rwa [show j + 16 - 16 = j by omega] at this
/-- No pixel at the border of the grid. -/
def noBd (F : Nat → Bool) : Prop := ∀ j, j < 256 → F j = true → 0 < j % 16 ∧ j % 16 < 15 ∧ 0 < j / 16 ∧ j / 16 < 15
theorem sk_noBd (F : Nat → Bool) : noBd (skF F) := fun j _ hf => ((inF_iff _ _).1 ((skF_iff _ _).1 hf).2).1
theorem noBd.le {F G : Nat → Bool} (h : noBd G) (hl : leF F G) : noBd F := fun j hj hf => h j hj (hl j hj hf)
/-- What does not lie at the border comes back. -/
theorem sk_gw_in (F : Nat → Bool) (j : Nat) (hf : F j = true) (hc : 0 < j % 16 ∧ j % 16 < 15 ∧ 0 < j / 16 ∧ j / 16 < 15) : skF (gwF F) j = true := by
  rw [skF_iff, inF_iff]
  refine ⟨(gwF_iff _ _).2 (.inl hf), hc, (gwF_iff _ _).2 (.inr (.inr (.inl ⟨by omega, ?_⟩))), (gwF_iff _ _).2 (.inr (.inl ⟨by omega, ?_⟩)), (gwF_iff _ _).2 (.inr (.inr (.inr (.inr ⟨by omega, ?_⟩)))), (gwF_iff _ _).2 (.inr (.inr (.inr (.inl ⟨by omega, ?_⟩))))⟩
  · rw [show j - 1 + 1 = j by omega]; exact hf
  · rw [show j + 1 - 1 = j by omega]; exact hf
  · rw [show j - 16 + 16 = j by omega]; exact hf
  · rw [show j + 16 - 16 = j by omega]; exact hf
theorem noBd.back {F : Nat → Bool} (h : noBd F) : leF F (skF (gwF F)) := fun j hj hf => sk_gw_in F j hf (h j hj hf)
theorem it_mono {f : (Nat → Bool) → Nat → Bool} (hf : ∀ {F G}, leF F G → leF (f F) (f G)) {F G : Nat → Bool} (h : leF F G) : ∀ k, leF (itF f k F) (itF f k G)
  | 0 => h
  | k + 1 => hf (it_mono hf h k)
theorem it_out (f : (Nat → Bool) → Nat → Bool) (F : Nat → Bool) : ∀ k, itF f k (f F) = f (itF f k F)
  | 0 => rfl
  | k + 1 => by show f (itF f k (f F)) = f (f (itF f k F)); rw [it_out f F k]
theorem it_congr (more : Bool) {F G : Nat → Bool} (h : eqF F G) (k : Nat) : eqF (itF (chF more) k F) (itF (chF more) k G) := by
  cases more
  · exact (it_mono sk_mono h.le k).anti (it_mono sk_mono h.symm.le k)
  · exact (it_mono gw_mono h.le k).anti (it_mono gw_mono h.symm.le k)
theorem it_gw_ext (F : Nat → Bool) : ∀ k, leF F (itF gwF k F)
  | 0 => leF.refl _
  | k + 1 => (it_gw_ext F k).trans (gw_ext _)
theorem it_sk_le (F : Nat → Bool) : ∀ k, leF (itF skF k F) F
  | 0 => leF.refl _
  | k + 1 => (sk_le _).trans (it_sk_le F k)
/-- A grid, opened. -/
theorem open_le (F : Nat → Bool) : ∀ k, leF (itF gwF k (itF skF k F)) F
  | 0 => leF.refl _
  | k + 1 => by
    show leF (gwF (itF gwF k (skF (itF skF k F)))) F
    rw [← it_out skF F k, ← it_out gwF]
    have h1 : leF (itF gwF k (gwF (itF skF k (skF F)))) (itF gwF k (gwF (skF (itF skF k F)))) := it_mono gw_mono (gw_mono (by rw [it_out]; exact leF.refl _)) k
    exact h1.trans ((it_mono gw_mono (gw_sk _) k).trans (open_le F k))
theorem open_back (F : Nat → Bool) : ∀ k, leF (itF skF k F) (itF skF k (itF gwF k (itF skF k F)))
  | 0 => leF.refl _
  | k + 1 => by
    -- X = grown k times out of what is left of skF F
    have hX : noBd (itF gwF k (itF skF k (skF F))) := (sk_noBd F).le (open_le (skF F) k)
    have h1 := open_back (skF F) k
    have h2 := it_mono sk_mono hX.back k
    have h3 := h1.trans h2
    rw [it_out skF F k] at h3
    show leF (skF (itF skF k F)) (skF (itF skF k (gwF (itF gwF k (skF (itF skF k F))))))
    rw [← it_out skF (gwF (itF gwF k (skF (itF skF k F)))) k]
    exact h3
/-- Opened again, the same. -/
theorem open_again (F : Nat → Bool) (k : Nat) : eqF (itF gwF k (itF skF k (itF gwF k (itF skF k F)))) (itF gwF k (itF skF k F)) :=
  (open_le _ k).anti (it_mono gw_mono (open_back F k) k)
theorem gw_or (F G : Nat → Bool) : gwF (fun j => F j || G j) = fun j => gwF F j || gwF G j := by
  funext p
  unfold gwF
  generalize decide (0 < p % 16) = c1
  generalize decide (p % 16 < 15) = c2
  generalize decide (0 < p / 16) = c3
  generalize decide (p / 16 < 15) = c4
  cases c1 <;> cases c2 <;> cases c3 <;> cases c4 <;> simp [Bool.or_assoc, Bool.or_comm, Bool.or_left_comm]
theorem it_gw_or (F G : Nat → Bool) : ∀ k, itF gwF k (fun j => F j || G j) = fun j => itF gwF k F j || itF gwF k G j
  | 0 => rfl
  | k + 1 => by
    show gwF (itF gwF k _) = fun j => gwF (itF gwF k F) j || gwF (itF gwF k G) j
    rw [it_gw_or F G k, gw_or]
end Go.Proofs.YtoeifhflbgfcjaaDoor
