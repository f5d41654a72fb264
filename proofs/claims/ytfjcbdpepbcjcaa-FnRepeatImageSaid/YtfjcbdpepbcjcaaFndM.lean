/- The gap of a part at a place of an image, and the nearest place. -/
import Derived.Test.YtfjcbdpepbcjcaaGapM
import Derived.Test.YtfjcbdpepbcjcaaBoxI
namespace Go.Proofs.Ytfjcbdpepbcjcaa
set_option linter.unusedSimpArgs false
set_option linter.unusedVariables false

theorem gapC_congr {W : Nat} {F F' G : Nat → Nat → Nat → Int} : ∀ k, (∀ j p, j < k → F (j % W) (j / W) p = F' (j % W) (j / W) p) → gapC W F G k = gapC W F' G k
  | 0, _ => rfl
  | k + 1, h => by
    unfold gapC
    rw [gapC_congr k (fun j p hj => h j p (by omega))]
    congr 1
    have : ∀ m, cgN (F (k % W) (k / W)) (G (k % W) (k / W)) m = cgN (F' (k % W) (k / W)) (G (k % W) (k / W)) m := fun m => by
      induction m with
      | zero => rfl
      | succ m ih => unfold cgN; rw [ih, h k m (by omega)]
    exact this 4
/-- The gap of a part at a place. -/
def fdV (W P : Nat) (xs : List Int) (PW PH : Nat) (ps : List Int) (x y : Nat) : Int := gapN (cropL W P xs x y PW PH) ps (PW * PH * P)
/-- The gap of its first cells. -/
def fdC (W P : Nat) (xs : List Int) (PW : Nat) (ps : List Int) (x y k : Nat) : Int := gapC PW (fun c r => pxc W P xs (x + c) (y + r)) (pxc PW P ps) k
theorem fd_cells {W P PW PH : Nat} {xs ps : List Int} (hP4 : P ≤ 4) (x y : Nat) : fdV W P xs PW PH ps x y = fdC W P xs PW ps x y (PW * PH) := by
  unfold fdV fdC
  rw [gap_rows (W := PW) (xs := cropL W P xs x y PW PH) (ys := ps) hP4 (PW * PH)]
  refine gapC_congr _ (fun j p hj => ?_)
  by_cases hp : p < P
  · rw [pxc_at hp]
    unfold cropL
    exact img_at (W := PW) (H := PH) (P := P) (fun X Y => pxc W P xs (x + X) (y + Y)) hj hp
  · rw [pxc_out (by omega), pxc_out (by omega)]
/-- The nearest one of the first n, of several the first. -/
def fdI (G : Nat → Int) : Nat → Nat
  | 0 => 0
  | n + 1 => if G n < G (fdI G n) then n else fdI G n
theorem fdI_lt (G : Nat → Int) : ∀ n, 0 < n → fdI G n < n
  | 0, h => by omega
  | n + 1, _ => by
    unfold fdI
    split
    · omega
    · rcases Nat.eq_zero_or_pos n with h | h
      · subst h; exact Nat.zero_lt_one
      · have := fdI_lt G n h; omega
theorem fdI_le (G : Nat → Int) : ∀ n i, i < n → G (fdI G n) ≤ G i
  | 0, i, h => by omega
  | n + 1, i, h => by
    unfold fdI
    split
    · rename_i hlt
      by_cases e : i = n
      · subst e; omega
      · have := fdI_le G n i (by omega); omega
    · rename_i hlt
      by_cases e : i = n
      · subst e; omega
      · exact fdI_le G n i (by omega)
/-- How many of the first n have none. -/
def fdZ (G : Nat → Int) : Nat → Nat
  | 0 => 0
  | n + 1 => fdZ G n + if G n = 0 then 1 else 0
theorem fdZ_le (G : Nat → Int) : ∀ n, fdZ G n ≤ n
  | 0 => Nat.le_refl _
  | n + 1 => by have := fdZ_le G n; unfold fdZ; split <;> omega
/-- The gap at place k, row by row. -/
def fdG (W P : Nat) (xs : List Int) (PW PH : Nat) (ps : List Int) (k : Nat) : Int := fdV W P xs PW PH ps (k % (W - PW + 1)) (k / (W - PW + 1))
theorem cropL_b {W H P : Nat} {xs : List Int} (hl : xs.length = W * H * P) (hb : ∀ j, j < xs.length → 0 ≤ xs.getD j 0 ∧ xs.getD j 0 ≤ 255) {x y PW PH : Nat} (hx : x + PW ≤ W) (hy : y + PH ≤ H) :
    ∀ j, j < PW * PH * P → 0 ≤ (cropL W P xs x y PW PH).getD j 0 ∧ (cropL W P xs x y PW PH).getD j 0 ≤ 255 := by
  intro j hj
  obtain ⟨h1, h2, h3, h4⟩ := pix_of hj
  have e : (cropL W P xs x y PW PH).getD j 0 = pxc W P xs (x + j / P % PW) (y + j / P / PW) (j % P) := by
    have := img_px (W := PW) (H := PH) (P := P) (fun X Y => pxc W P xs (x + X) (y + Y)) h1 h2 h3
    unfold px at this
    rw [h4] at this
    exact this
  rw [e, img_pxc (H := H) h3]
  unfold px
  exact hb _ (by rw [hl]; exact pix_lt (by omega) (by omega) h3)
theorem fdV_bd {W H P PW PH : Nat} {xs ps : List Int} (hl : xs.length = W * H * P) (hb : ∀ j, j < xs.length → 0 ≤ xs.getD j 0 ∧ xs.getD j 0 ≤ 255) (hp : ps.length = PW * PH * P) (hpb : ∀ j, j < ps.length → 0 ≤ ps.getD j 0 ∧ ps.getD j 0 ≤ 255)
    {x y : Nat} (hx : x + PW ≤ W) (hy : y + PH ≤ H) (h1024 : PW * PH * P ≤ 1024) : 0 ≤ fdV W P xs PW PH ps x y ∧ fdV W P xs PW PH ps x y ≤ 66585600 := by
  have h := gapN_bd (n := PW * PH * P) (cropL_b hl hb hx hy) (fun j hj => hpb j (by rw [hp]; exact hj)) (PW * PH * P) (Nat.le_refl _)
  unfold fdV
  omega
end Go.Proofs.Ytfjcbdpepbcjcaa
