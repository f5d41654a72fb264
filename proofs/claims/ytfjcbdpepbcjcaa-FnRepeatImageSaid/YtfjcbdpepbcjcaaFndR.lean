/- An image is found in its repetitions. -/
import Derived.Test.YtfjcbdpepbcjcaaFndL
import Derived.Test.YtfjcbdpepbcjcaaRep
namespace Go.Proofs.Ytfjcbdpepbcjcaa
set_option linter.unusedSimpArgs false
set_option linter.unusedVariables false

theorem fdZ_inc {G : Nat → Int} : ∀ (n m : Nat) (f : Nat → Nat), (∀ i, i < m → f i < n ∧ G (f i) = 0) → (∀ i j, i < j → j < m → f i < f j) → m ≤ fdZ G n
  | 0, m, f, h, _ => by
    rcases Nat.eq_zero_or_pos m with h0 | h0
    · omega
    · have := (h 0 h0).1; omega
  | n + 1, m, f, h, hm => by
    unfold fdZ
    rcases Nat.eq_zero_or_pos m with h0 | h0
    · omega
    · obtain ⟨q, rfl⟩ : ∃ q, m = q + 1 := ⟨m - 1, by omega⟩
      have hl := h q (by omega)
      by_cases e : f q = n
      · have h1 := fdZ_inc n q f (fun i hi => ⟨by have := hm i q hi (by omega); omega, (h i (by omega)).2⟩) (fun i j h1 h2 => hm i j h1 (by omega))
        rw [if_pos (by rw [← e]; exact hl.2)]
        omega
      · have h1 := fdZ_inc n (q + 1) f (fun i hi => ⟨by
          by_cases hq : i = q
          · subst hq; omega
          · have := hm i q (by omega) (by omega); omega, (h i hi).2⟩) hm
        omega
theorem rep_crop {W H P a b i j : Nat} {xs : List Int} (hl : xs.length = W * H * P) (hi : i * W + W ≤ a) (hj : j * H + H ≤ b) : cropL a P (repL W H P xs a b) (i * W) (j * H) W H = xs := by
  have e : cropL a P (repL W H P xs a b) (i * W) (j * H) W H = img W H P (pxc W P xs) := by
    unfold cropL repL
    refine img_ext fun x y p hx hy hp => ?_
    rw [img_pxc2' (H := b) _ (by omega) (by omega) hp]
    show pxc W P xs ((i * W + x) % W) ((j * H + y) % H) p = _
    rw [Nat.mul_comm i, Nat.mul_comm j, Nat.mul_add_mod, Nat.mul_add_mod, Nat.mod_eq_of_lt hx, Nat.mod_eq_of_lt hy]
  rw [e, img_self hl]
theorem rep_count {W H P a b : Nat} {xs : List Int} (hW : 1 ≤ W) (hH : 1 ≤ H) (hl : xs.length = W * H * P) (ha : W ≤ a) (hb : H ≤ b) :
    (a / W) * (b / H) ≤ fdZ (fdG a P (repL W H P xs a b) W H xs) ((a - W + 1) * (b - H + 1)) := by
  obtain ⟨A, hA⟩ : ∃ A, A = a / W := ⟨_, rfl⟩
  obtain ⟨B, hB⟩ : ∃ B, B = b / H := ⟨_, rfl⟩
  have hAm : A * W ≤ a := by rw [hA]; exact Nat.div_mul_le_self a W
  have hBm : B * H ≤ b := by rw [hB]; exact Nat.div_mul_le_self b H
  have hA1 : 1 ≤ A := by rw [hA]; exact Nat.div_pos ha hW
  rw [← hA, ← hB]
  have hf : ∀ k, k < A * B → k % A * W + W ≤ a ∧ k / A * H + H ≤ b := fun k hk => by
    have h1 : k % A < A := Nat.mod_lt _ hA1
    have h2 : k / A < B := (Nat.div_lt_iff_lt_mul hA1).mpr (by rw [Nat.mul_comm]; exact hk)
    have h3 := Nat.mul_le_mul_right W (show k % A + 1 ≤ A from h1)
    have h4 := Nat.mul_le_mul_right H (show k / A + 1 ≤ B from h2)
    rw [Nat.add_mul, Nat.one_mul] at h3 h4
    exact ⟨by omega, by omega⟩
  refine fdZ_inc _ _ (fun k => (k / A * H) * (a - W + 1) + k % A * W) (fun k hk => ?_) (fun i j hij hj => ?_)
  · obtain ⟨h1, h2⟩ := hf k hk
    refine ⟨fd_num (by omega) (by omega), ?_⟩
    have e1 : ((k / A * H) * (a - W + 1) + k % A * W) % (a - W + 1) = k % A * W := by rw [Nat.mul_comm (k / A * H), Nat.mul_add_mod, Nat.mod_eq_of_lt (by omega)]
    have e2 : ((k / A * H) * (a - W + 1) + k % A * W) / (a - W + 1) = k / A * H := by rw [Nat.mul_comm (k / A * H), Nat.mul_add_div (by omega), Nat.div_eq_of_lt (show k % A * W < a - W + 1 by omega), Nat.add_zero]
    show fdG _ _ _ _ _ _ _ = 0
    unfold fdG fdV
    rw [e1, e2, rep_crop hl h1 h2]
    exact gapN_self _ _
  · obtain ⟨h1, h2⟩ := hf i (by omega)
    obtain ⟨h3, h4⟩ := hf j hj
    show (i / A * H) * (a - W + 1) + i % A * W < (j / A * H) * (a - W + 1) + j % A * W
    have hle : i / A ≤ j / A := Nat.div_le_div_right (by omega)
    rcases Nat.lt_or_ge (i / A) (j / A) with hlt | hge
    · have h5 : (i / A * H + 1) * (a - W + 1) ≤ (j / A * H) * (a - W + 1) := Nat.mul_le_mul_right _ (by
        have := Nat.mul_le_mul_right H (show i / A + 1 ≤ j / A from hlt)
        rw [Nat.add_mul, Nat.one_mul] at this
        omega)
      rw [Nat.add_mul, Nat.one_mul] at h5
      omega
    · have he : i / A = j / A := by omega
      have h5 := Nat.div_add_mod i A
      have h6 := Nat.div_add_mod j A
      rw [he] at h5 ⊢
      have h7 : i % A < j % A := by omega
      have := Nat.mul_lt_mul_of_pos_right h7 hW
      omega
/-- What the law says of repetitions: to its own size it is the image itself, and it is found as often as it fits. -/
theorem rpt_law {W H P a b : Int} {xs : List Int} (ho : scOk W H P xs a b = true) : ∃ w h p x y : Nat, W = w ∧ H = h ∧ P = p ∧ a = x ∧ b = y ∧ (1 ≤ w ∧ w ≤ 16) ∧ (1 ≤ h ∧ h ≤ 16) ∧ (1 ≤ x ∧ x ≤ 16) ∧ (1 ≤ y ∧ y ≤ 16) ∧
    (repL w h p xs x y).length ≤ 1024 ∧ scOk w h p xs w h = true ∧ repL w h p xs w h = xs ∧
    (w ≤ x → h ≤ y → ((x / w * (y / h) : Nat) : Int) ≤ cond (fdB x y p (repL w h p xs x y) w h p xs) ((fdZ (fdG x p (repL w h p xs x y) w h xs) ((x - w + 1) * (y - h + 1)) : Nat) : Int) (-1)) := by
  unfold scOk at ho
  rw [Bool.and_eq_true] at ho
  obtain ⟨hv, hs⟩ := ho
  obtain ⟨x, y, p', rfl, rfl, hp', c1, c2, _⟩ := vsh_nat hs
  have hv' := hv
  obtain ⟨w, h, p, rfl, rfl, rfl, b1, b2, b3, b4, b5, b6, b7, b8⟩ := vim_nat hv
  have hself : repL w h p xs w h = xs := by
    unfold repL
    rw [show img w h p (fun x y => pxc w p xs (x % w) (y % h)) = img w h p (pxc w p xs) from img_ext fun x y p hx hy hp => by
      show pxc w _ xs (x % w) (y % h) p = _
      rw [Nat.mod_eq_of_lt hx, Nat.mod_eq_of_lt hy]]
    exact img_self b7
  refine ⟨w, h, p, x, y, rfl, rfl, rfl, rfl, rfl, ⟨b1, b2⟩, ⟨b3, b4⟩, c1, c2, img_bd _ c1.2 c2.2 b6, ?_, hself, fun h1 h2 => ?_⟩
  · unfold scOk
    rw [hv']
    unfold vsh
    rw [decide_eq_true (show (1 : Int) ≤ w ∧ (w : Int) ≤ 16 by omega), decide_eq_true (show (1 : Int) ≤ h ∧ (h : Int) ≤ 16 by omega), decide_eq_true (show (1 : Int) ≤ p ∧ (p : Int) ≤ 4 by omega)]; rfl
  · have hr : vim x y p (repL w h p xs x y) = true := vim_img c1.1 c1.2 c2.1 c2.2 b5 b6 (fun X Y q hX hY hq => pxc_bytes b7 b8 _ _ _ (Nat.mod_lt _ b1) (Nat.mod_lt _ b3) hq)
    have hf : fdB x y p (repL w h p xs x y) w h p xs = true := by unfold fdB; rw [hr, hv']; simp; omega
    rw [hf]
    have := rep_count b1 b3 b7 h1 h2 (P := p)
    show _ ≤ ((fdZ _ _ : Nat) : Int)
    omega
end Go.Proofs.Ytfjcbdpepbcjcaa
