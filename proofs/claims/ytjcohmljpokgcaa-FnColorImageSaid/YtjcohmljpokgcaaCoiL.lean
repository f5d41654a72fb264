/- Mathematics of ColorImage's law. -/
import Derived.Test.YtjcohmljpokgcaaIxL
import Derived.Test.YtjcohmljpokgcaaColS
import Derived.Test.YtjcohmljpokgcaaPalS
namespace Go.Proofs.Ytjcohmljpokgcaa
open Go.RowKit
set_option linter.unusedSimpArgs false
set_option linter.unusedVariables false

theorem pxk_pxlC {W P k : Nat} {xs : List Int} (h : k * P + P ≤ xs.length) : pxl W P xs (k % W) (k / W) = pxk P xs k := by
  refine list_eq (by rw [pxl_len, pxk_len h]) fun j hj => ?_
  rw [pxl_len] at hj
  rw [pxl_get _ _ _ _ _ _ hj, pxk_get hj]
  unfold px pix
  rw [show k / W * W + k % W = k by rw [Nat.mul_comm]; exact Nat.div_add_mod k W]
/-- Where indices can be colored, the colors can be indexed, and these indices can be colored to the same image. -/
theorem coi_law {W H P a : Int} {xs : List Int} {xss : List (List Int)} (h : ciOk W H P xs xss a = true) : ∃ w h p : Nat, W = w ∧ H = h ∧ a = p ∧ (1 ≤ w ∧ w ≤ 16) ∧ (1 ≤ h ∧ h ≤ 16) ∧ (1 ≤ p ∧ p ≤ 4) ∧
    ixOk w h p (ciL w h p xs xss) xss = true ∧ ciOk w h 1 (ixL w h p (ciL w h p xs xss) xss) xss p = true ∧ ciL w h p (ixL w h p (ciL w h p xs xss) xss) xss = ciL w h p xs xss := by
  unfold ciOk at h
  rw [Bool.and_eq_true, Bool.and_eq_true, Bool.and_eq_true, Bool.and_eq_true, decide_eq_true_eq, decide_eq_true_eq] at h
  obtain ⟨hv, rfl, ha, hpb, hal⟩ := h
  obtain ⟨W, H, P', rfl, rfl, hP', hW1, hW, hH1, hH, _, _, hln, _⟩ := vim_nat hv
  have hP1 : P' = 1 := by omega
  rw [hP1, Nat.mul_one] at hln
  obtain ⟨p, rfl⟩ := Int.eq_ofNat_of_zero_le (show 0 ≤ a by omega)
  have hp1 : 1 ≤ p ∧ p ≤ 4 := by omega
  obtain ⟨h16, hcl⟩ := palB_of hpb
  have hN1 : 1 ≤ W * H := Nat.mul_pos hW1 hH1
  have hidx0 : ∀ k, k < W * H → ∃ z : Nat, z < xss.length ∧ xs.getD k 0 = (z : Int) := fun k hk => by
    have := allB_bd hal k (by omega)
    exact ⟨(xs.getD k 0).toNat, by omega, by omega⟩
  have hn0 : 1 ≤ xss.length := by obtain ⟨z, hz, _⟩ := hidx0 0 hN1; omega
  have hrl : ∀ z, z < xss.length → (xss.getD z []).length = p := fun z hz => by have := (hcl z hz).1; omega
  have hrb : ∀ z, z < xss.length → ∀ q, q < p → 0 ≤ (xss.getD z []).getD q 0 ∧ (xss.getD z []).getD q 0 ≤ 255 := fun z hz q hq => allB_bd (hcl z hz).2 q (by rw [hrl z hz]; exact hq)
  obtain ⟨ys, hys⟩ : ∃ ys, ys = ciL W H p xs xss := ⟨_, rfl⟩
  have hyl : ys.length = W * H * p := by rw [hys]; unfold ciL; rw [img_len]
  have hkl : ∀ k, k < W * H → k * p + p ≤ ys.length := fun k hk => by
    rw [hyl]
    have := Nat.mul_le_mul_right p hk
    rw [Nat.succ_mul] at this
    exact this
  have hrow : ∀ k, k < W * H → ∃ z : Nat, z < xss.length ∧ xs.getD k 0 = (z : Int) ∧ pxk p ys k = xss.getD z [] := fun k hk => by
    obtain ⟨z, hz, e⟩ := hidx0 k hk
    refine ⟨z, hz, e, list_eq (by rw [pxk_len (hkl k hk), hrl z hz]) fun j hj => ?_⟩
    rw [pxk_len (hkl k hk)] at hj
    rw [pxk_get hj, hys, ci_at hk hj e]
  have hvy : vim W H p ys = true := by
    have h1 : vsh (W : Int) (H : Int) (p : Int) = true := by
      unfold vsh
      rw [decide_eq_true (show 1 ≤ (W : Int) ∧ (W : Int) ≤ 16 by omega), decide_eq_true (show 1 ≤ (H : Int) ∧ (H : Int) ≤ 16 by omega), decide_eq_true (show 1 ≤ (p : Int) ∧ (p : Int) ≤ 4 by omega)]
      rfl
    have h2 : (ys.length : Int) = (W : Int) * (H : Int) * (p : Int) := by rw [hyl]; simp
    have h3 : allB 0 255 ys = true := allB_yes fun j hj => by
      rw [hyl] at hj
      have hk : j / p < W * H := Nat.div_lt_of_lt_mul (by rw [Nat.mul_comm]; exact hj)
      have hq : j % p < p := Nat.mod_lt _ (by omega)
      obtain ⟨z, hz, e, _⟩ := hrow _ hk
      have h4 := ci_at (W := W) (H := H) (a := p) (xs := xs) (xss := xss) hk hq e
      rw [Nat.div_add_mod' j p, ← hys] at h4
      rw [h4]
      exact hrb z hz _ hq
    unfold vim
    rw [h1, decide_eq_true h2, h3]
    rfl
  have hidx : ∀ k, k < W * H → ∃ v : Nat, v < xss.length ∧ ixF W p ys xss (k % W) (k / W) 0 = (v : Int) ∧ xss.getD v [] = pxk p ys k := fun k hk => by
    obtain ⟨z, hz, e0, e'⟩ := hrow k hk
    obtain ⟨_, h2, h3⟩ := nc_self (P := p) hp1 h16 hcl hz
    rw [← e'] at h2 h3
    refine ⟨_, h2, ?_, h3⟩
    unfold ixF nbI
    rw [if_neg (by omega), pxk_pxlC (hkl k hk)]
  have hix : ∀ k, k < W * H → (ixL W H p ys xss).getD k 0 = ixF W p ys xss (k % W) (k / W) 0 := fun k hk => by
    have h := img_at (P := 1) (ixF W p ys xss) (k := k) (p := 0) hk (by omega)
    rw [Nat.mul_one, Nat.add_zero] at h
    exact h
  have hixl : (ixL W H p ys xss).length = W * H := by unfold ixL; rw [img_len, Nat.mul_one]
  refine ⟨W, H, p, rfl, rfl, rfl, ⟨hW1, hW⟩, ⟨hH1, hH⟩, hp1, ?_, ?_, ?_⟩
  · rw [← hys]
    unfold ixOk
    rw [hvy, hpb, decide_eq_false (show ¬ xss.length = 0 by omega)]
    rfl
  · rw [← hys]
    have hv1 : vim W H 1 (ixL W H p ys xss) = true := vim_mk hW1 hW hH1 hH (fun x y hx hy => by
      obtain ⟨v, hv, e, _⟩ := hidx (y * W + x) (by have := row_lt hx hy; exact this)
      rw [show (y * W + x) % W = x by rw [Nat.mul_comm, Nat.mul_add_mod]; exact Nat.mod_eq_of_lt hx, show (y * W + x) / W = y by rw [Nat.mul_comm, Nat.mul_add_div (by omega), Nat.div_eq_of_lt hx]; rfl] at e
      rw [e]; omega)
    have hal : allB 0 ((xss.length : Int) - 1) (ixL W H p ys xss) = true := by
      unfold allB
      refine decide_eq_true fun x hx => ?_
      obtain ⟨k, hk, e⟩ := List.mem_iff_getElem.1 hx
      rw [hixl] at hk
      obtain ⟨v, hv, e2, _⟩ := hidx k hk
      have e3 := hix k hk
      rw [List.getD_eq_getElem?_getD, List.getElem?_eq_getElem (by rw [hixl]; exact hk)] at e3
      have e4 : x = (v : Int) := by rw [← e, ← e2, ← e3]; rfl
      rw [e4]; omega
    unfold ciOk
    rw [hv1, hpb, hal, decide_eq_true (show (1 : Int) = 1 from rfl), decide_eq_true (show 1 ≤ (p : Int) ∧ (p : Int) ≤ 4 by omega)]
    rfl
  · rw [← hys]
    have hcll : (ciL W H p (ixL W H p ys xss) xss).length = W * H * p := by unfold ciL; rw [img_len]
    refine list_eq (by rw [hcll, hyl]) fun j hj => ?_
    rw [hcll] at hj
    have hk : j / p < W * H := Nat.div_lt_of_lt_mul (by rw [Nat.mul_comm]; exact hj)
    have hq : j % p < p := Nat.mod_lt _ (by omega)
    have ej : j / p * p + j % p = j := Nat.div_add_mod' j p
    obtain ⟨v, hv, e, e2⟩ := hidx (j / p) hk
    have h1 := ci_at (W := W) (H := H) (a := p) (xs := ixL W H p ys xss) (xss := xss) hk hq ((hix _ hk).trans e)
    rw [ej, e2, pxk_get hq, ej] at h1
    exact h1
end Go.Proofs.Ytjcohmljpokgcaa
