/- What the laws about found parts say: the own part is found, copies are counted, no place is nearer. -/
import Derived.Test.YtfjcbdpepbcjcaaFndS
import Derived.Test.YtfjcbdpepbcjcaaGap
import Derived.Test.YtfjcbdpepbcjcaaLSt
namespace Go.Proofs.Ytfjcbdpepbcjcaa
set_option linter.unusedSimpArgs false
set_option linter.unusedVariables false

theorem fdZ_none {G : Nat → Int} : ∀ n, (∀ i, i < n → 0 ≤ G i) → (fdZ G n = 0 ↔ ∀ i, i < n → 0 < G i)
  | 0, _ => by simp [fdZ]
  | n + 1, h => by
    have ih := fdZ_none n (fun i hi => h i (by omega))
    have hn := h n (by omega)
    unfold fdZ
    constructor
    · intro e i hi
      have e2 : ¬ G n = 0 := by intro h0; rw [if_pos h0] at e; omega
      rw [if_neg e2] at e
      by_cases hin : i = n
      · subst hin; omega
      · exact ih.1 (by omega) i (by omega)
    · intro e
      have := ih.2 (fun i hi => e i (by omega))
      have := e n (by omega)
      rw [if_neg (by omega)]
      omega
theorem fd_place {W H PW PH k : Nat} (hw : PW ≤ W) (hh : PH ≤ H) (hk : k < (W - PW + 1) * (H - PH + 1)) : k % (W - PW + 1) + PW ≤ W ∧ k / (W - PW + 1) + PH ≤ H := by
  have h1 : k % (W - PW + 1) < W - PW + 1 := Nat.mod_lt _ (by omega)
  have h2 : k / (W - PW + 1) < H - PH + 1 := (Nat.div_lt_iff_lt_mul (by omega)).mpr (by rw [Nat.mul_comm]; exact hk)
  omega
theorem fd_num {N M x y : Nat} (hx : x < N) (hy : y < M) : y * N + x < N * M := by
  have h1 := Nat.mul_le_mul_right N (show y + 1 ≤ M by omega)
  rw [Nat.add_mul, Nat.one_mul, Nat.mul_comm M] at h1
  omega
theorem fd_pos {W H PW PH : Nat} : 0 < (W - PW + 1) * (H - PH + 1) := Nat.mul_pos (by omega) (by omega)
theorem fd_bd {W H P PW PH : Nat} {xs ps : List Int} (hW : W ≤ 16) (hH : H ≤ 16) (hP : P ≤ 4) (hw : PW ≤ W) (hh : PH ≤ H) (hl : xs.length = W * H * P) (hb : ∀ j, j < xs.length → 0 ≤ xs.getD j 0 ∧ xs.getD j 0 ≤ 255) (hp : ps.length = PW * PH * P) (hpb : ∀ j, j < ps.length → 0 ≤ ps.getD j 0 ∧ ps.getD j 0 ≤ 255) :
    ∀ k, k < (W - PW + 1) * (H - PH + 1) → 0 ≤ fdG W P xs PW PH ps k ∧ fdG W P xs PW PH ps k ≤ 66585600 := fun k hk => by
  obtain ⟨h1, h2⟩ := fd_place hw hh hk
  have h1024 : PW * PH * P ≤ 1024 := by have := Nat.mul_le_mul (Nat.mul_le_mul (show PW ≤ 16 by omega) (show PH ≤ 16 by omega)) hP; omega
  exact fdV_bd hl hb hp hpb h1 h2 h1024
/-- An image is in itself, at one place and without gap. -/
theorem self_law {W H P : Int} {xs : List Int} (h : vim W H P xs = true) : fdB W H P xs W H P xs = true ∧ fdZ (fdG W.toNat P.toNat xs W.toNat H.toNat xs) ((W.toNat - W.toNat + 1) * (H.toNat - H.toNat + 1)) = 1 := by
  refine ⟨by unfold fdB; simp [h], ?_⟩
  obtain ⟨w, hh, p, rfl, rfl, rfl, a1, a2, a3, a4, a5, a6, a7, a8⟩ := vim_nat h
  simp only [Int.toNat_natCast, Nat.sub_self, Nat.zero_add, Nat.one_mul]
  have e : fdG w p xs w hh xs 0 = 0 := by
    unfold fdG fdV cropL
    simp only [Nat.sub_self, Nat.zero_add, Nat.zero_mod, Nat.zero_div]
    rw [img_self a7]
    exact gapN_self _ _
  show fdZ _ 0 + (if fdG w p xs w hh xs 0 = 0 then 1 else 0) = 1
  rw [if_pos e]
  rfl
/-- Copies are counted: none exactly where the least gap is above 0. -/
theorem cnt_law {W H P W' H' P' : Int} {xs ps : List Int} (h : fdB W H P xs W' H' P' ps = true) :
    vim W H P xs = true ∧ 0 ≤ fdG W.toNat P.toNat xs W'.toNat H'.toNat ps (fdK W.toNat H.toNat P.toNat xs W'.toNat H'.toNat ps) ∧
    (((((fdZ (fdG W.toNat P.toNat xs W'.toNat H'.toNat ps) ((W.toNat - W'.toNat + 1) * (H.toNat - H'.toNat + 1)) : Nat) : Int) == 0) == decide (0 < fdG W.toNat P.toNat xs W'.toNat H'.toNat ps (fdK W.toNat H.toNat P.toNat xs W'.toNat H'.toNat ps))) = true) := by
  have hv : vim W H P xs = true := by unfold fdB at h; rw [Bool.and_eq_true] at h; exact h.1
  obtain ⟨w, hh, p, w', h', rfl, rfl, rfl, rfl, rfl, rfl, b1, b2, b3, b4, b5, b6, b7, b8, b9⟩ := fdB_nat h
  simp only [Int.toNat_natCast]
  have hbd := fd_bd (xs := xs) (ps := ps) b1.2 b2.2 b3.2 b4.2 b5.2 b6 b8 b7 b9
  have hK : fdK w hh p xs w' h' ps < (w - w' + 1) * (hh - h' + 1) := fdI_lt _ _ fd_pos
  have hle := fdI_le (fdG w p xs w' h' ps) ((w - w' + 1) * (hh - h' + 1))
  have hz := fdZ_none ((w - w' + 1) * (hh - h' + 1)) (fun i hi => (hbd i hi).1)
  refine ⟨hv, (hbd _ hK).1, ?_⟩
  by_cases h0 : 0 < fdG w p xs w' h' ps (fdK w hh p xs w' h' ps)
  · rw [hz.2 (fun i hi => by have := hle i hi; unfold fdK at h0; omega), decide_eq_true h0]
    rfl
  · have hne : ¬ fdZ (fdG w p xs w' h' ps) ((w - w' + 1) * (hh - h' + 1)) = 0 := fun e => h0 (hz.1 e _ hK)
    rw [decide_eq_false h0]
    have : (((fdZ (fdG w p xs w' h' ps) ((w - w' + 1) * (hh - h' + 1)) : Nat) : Int) == 0) = false := beq_eq_false_iff_ne.2 (by omega)
    rw [this]
    rfl
theorem crop_vim {W H P X Y PW PH : Nat} {xs : List Int} (hW : W ≤ 16) (hH : H ≤ 16) (hP1 : 1 ≤ P) (hP : P ≤ 4) (hl : xs.length = W * H * P) (hb : ∀ j, j < xs.length → 0 ≤ xs.getD j 0 ∧ xs.getD j 0 ≤ 255) (h1 : 1 ≤ PW) (h2 : 1 ≤ PH) (hX : X + PW ≤ W) (hY : Y + PH ≤ H) :
    vim PW PH P (cropL W P xs X Y PW PH) = true :=
  vim_img h1 (by omega) h2 (by omega) hP1 hP (fun x y p hx hy hp => pxc_bytes hl hb (X + x) (Y + y) p (by omega) (by omega) hp)
theorem crop_len {W P X Y PW PH : Nat} {xs : List Int} : (cropL W P xs X Y PW PH).length = PW * PH * P := img_len _ _ _ _
theorem fit_of {X0 Y0 bw bh W H : Nat} (h1 : 1 ≤ bw) (h2 : 1 ≤ bh) (hX : X0 + bw ≤ W) (hY : Y0 + bh ≤ H) : fitB X0 Y0 bw bh W H = true := by
  simp only [fitB, Bool.and_eq_true, decide_eq_true_eq]; omega
/-- The gap of the part that is cut out at a place is the gap at the place. -/
theorem crop_gap {W H P PW PH x y : Nat} {xs ps : List Int} (hW : W ≤ 16) (hH : H ≤ 16) (hP1 : 1 ≤ P) (hP : P ≤ 4) (hl : xs.length = W * H * P) (hb : ∀ j, j < xs.length → 0 ≤ xs.getD j 0 ∧ xs.getD j 0 ≤ 255) (h1 : 1 ≤ PW) (h2 : 1 ≤ PH) (hx : x + PW ≤ W) (hy : y + PH ≤ H)
    (hv : vim PW PH P ps = true) : gapV PW PH P (cropL W P xs x y PW PH) PW PH P ps = fdV W P xs PW PH ps x y := by
  have hc := crop_vim hW hH hP1 hP hl hb h1 h2 hx hy
  have e : cmpB PW PH P (cropL W P xs x y PW PH) PW PH P ps = true := by unfold cmpB; rw [hc, hv]; simp
  unfold gapV fdV
  rw [if_pos e, crop_len]
/-- What the law that no part is nearer says: the nearest place is in the image, its gap is the least, and each place's gap is that of what is cut out there. -/
theorem fnd_law {W H P W' H' P' : Int} {xs ps : List Int} (h : fdB W H P xs W' H' P' ps = true) :
    ∃ (w hh p w' h' x0 y0 : Nat) (n : Int), W = w ∧ H = hh ∧ P = p ∧ W' = w' ∧ H' = h' ∧ P' = p ∧ (1 ≤ w ∧ w ≤ 16) ∧ (1 ≤ hh ∧ hh ≤ 16) ∧ (1 ≤ w' ∧ w' ≤ w) ∧ (1 ≤ h' ∧ h' ≤ hh) ∧
      fdK w hh p xs w' h' ps % (w - w' + 1) = x0 ∧ fdK w hh p xs w' h' ps / (w - w' + 1) = y0 ∧ fdG w p xs w' h' ps (fdK w hh p xs w' h' ps) = n ∧ 0 ≤ n ∧ x0 + w' ≤ w ∧ y0 + h' ≤ hh ∧
      (∀ x y, x + w' ≤ w → y + h' ≤ hh → cropOk w hh p xs x y w' h' = true ∧ (cropL w p xs x y w' h').length ≤ 1024 ∧ n ≤ gapV w' h' p (cropL w p xs x y w' h') w' h' p ps) ∧
      gapV w' h' p (cropL w p xs x0 y0 w' h') w' h' p ps = n := by
  have hv : vim W H P xs = true ∧ vim W' H' P' ps = true := by unfold fdB at h; rw [Bool.and_eq_true, Bool.and_eq_true] at h; exact ⟨h.1, h.2.1⟩
  obtain ⟨hv1, hv2⟩ := hv
  obtain ⟨w, hh, p, w', h', rfl, rfl, rfl, rfl, rfl, rfl, b1, b2, b3, b4, b5, b6, b7, b8, b9⟩ := fdB_nat h
  have hbd := fd_bd (xs := xs) (ps := ps) b1.2 b2.2 b3.2 b4.2 b5.2 b6 b8 b7 b9
  have hK : fdK w hh p xs w' h' ps < (w - w' + 1) * (hh - h' + 1) := fdI_lt _ _ fd_pos
  have hle := fdI_le (fdG w p xs w' h' ps) ((w - w' + 1) * (hh - h' + 1))
  obtain ⟨q1, q2⟩ := fd_place b4.2 b5.2 hK
  refine ⟨w, hh, p, w', h', _, _, _, rfl, rfl, rfl, rfl, rfl, rfl, b1, b2, b4, b5, rfl, rfl, rfl, (hbd _ hK).1, q1, q2, fun x y hx hy => ⟨?_, ?_, ?_⟩, ?_⟩
  · unfold cropOk; rw [hv1, fit_of b4.1 b5.1 hx hy]; rfl
  · rw [crop_len]; have := Nat.mul_le_mul (Nat.mul_le_mul (show w' ≤ 16 by omega) (show h' ≤ 16 by omega)) b3.2; omega
  · rw [crop_gap b1.2 b2.2 b3.1 b3.2 b6 b8 b4.1 b5.1 hx hy hv2]
    have hk : y * (w - w' + 1) + x < (w - w' + 1) * (hh - h' + 1) := fd_num (by omega) (by omega)
    have := hle _ hk
    have e1 : (y * (w - w' + 1) + x) % (w - w' + 1) = x := by rw [Nat.mul_comm, Nat.mul_add_mod, Nat.mod_eq_of_lt (by omega)]
    have e2 : (y * (w - w' + 1) + x) / (w - w' + 1) = y := by rw [Nat.mul_comm, Nat.mul_add_div (by omega), Nat.div_eq_of_lt (by omega)]; rfl
    have e3 : fdG w p xs w' h' ps (y * (w - w' + 1) + x) = fdV w p xs w' h' ps x y := by unfold fdG; rw [e1, e2]
    rw [e3] at this
    exact this
  · rw [crop_gap b1.2 b2.2 b3.1 b3.2 b6 b8 b4.1 b5.1 q1 q2 hv2]
    rfl
/-- What is cut out is found without gap. -/
theorem own_law {W H P W' H' P' : Int} {xs ps : List Int} (h : fdB W H P xs W' H' P' ps = true) :
    ∃ (w hh p w' h' y0 k : Nat) (X : List Int), W = w ∧ H = hh ∧ P = p ∧ W' = w' ∧ H' = h' ∧ P' = p ∧ (1 ≤ w ∧ w ≤ 16) ∧ (1 ≤ hh ∧ hh ≤ 16) ∧ (1 ≤ w' ∧ w' ≤ w) ∧ (1 ≤ h' ∧ h' ≤ hh) ∧ 0 ≤ fdG w p xs w' h' ps (fdK w hh p xs w' h' ps) ∧
      X = cropL w p xs (w - w') (hh - h') w' h' ∧ cropOk w hh p xs ((w - w' : Nat) : Int) ((hh - h' : Nat) : Int) w' h' = true ∧ X.length ≤ 1024 ∧ fdB w hh p xs w' h' p X = true ∧ fdG w p xs w' h' X (fdK w hh p xs w' h' X) = 0 ∧ fdK w hh p xs w' h' X / (w - w' + 1) = y0 ∧ y0 ≤ hh - h' ∧
      fdZ (fdG w p xs w' h' X) ((w - w' + 1) * (hh - h' + 1)) = k ∧ 1 ≤ k := by
  have hv : vim W H P xs = true ∧ vim W' H' P' ps = true := by unfold fdB at h; rw [Bool.and_eq_true, Bool.and_eq_true] at h; exact ⟨h.1, h.2.1⟩
  obtain ⟨hv1, hv2⟩ := hv
  obtain ⟨w, hh, p, w', h', rfl, rfl, rfl, rfl, rfl, rfl, b1, b2, b3, b4, b5, b6, b7, b8, b9⟩ := fdB_nat h
  have hbd0 := fd_bd (xs := xs) (ps := ps) b1.2 b2.2 b3.2 b4.2 b5.2 b6 b8 b7 b9
  have hK0 : fdK w hh p xs w' h' ps < (w - w' + 1) * (hh - h' + 1) := fdI_lt _ _ fd_pos
  obtain ⟨X, hX⟩ : ∃ X, X = cropL w p xs (w - w') (hh - h') w' h' := ⟨_, rfl⟩
  have hxl : X.length = w' * h' * p := by rw [hX]; exact crop_len
  have hxv : vim w' h' p X = true := by rw [hX]; exact crop_vim b1.2 b2.2 b3.1 b3.2 b6 b8 b4.1 b5.1 (by omega) (by omega)
  have hfb : fdB w hh p xs w' h' p X = true := by unfold fdB; rw [hv1, hxv]; simp; omega
  have hxb : ∀ j, j < X.length → 0 ≤ X.getD j 0 ∧ X.getD j 0 ≤ 255 := by
    obtain ⟨_, _, _, _, _, _, _, _, _, _, _, _, _, hq⟩ := vim_nat hxv
    exact hq
  have hbd := fd_bd (xs := xs) (ps := X) b1.2 b2.2 b3.2 b4.2 b5.2 b6 b8 hxl hxb
  have hK : fdK w hh p xs w' h' X < (w - w' + 1) * (hh - h' + 1) := fdI_lt _ _ fd_pos
  have hle := fdI_le (fdG w p xs w' h' X) ((w - w' + 1) * (hh - h' + 1))
  have hz := fdZ_none ((w - w' + 1) * (hh - h' + 1)) (fun i hi => (hbd i hi).1)
  have hk : (hh - h') * (w - w' + 1) + (w - w') < (w - w' + 1) * (hh - h' + 1) := fd_num (by omega) (by omega)
  have e1 : ((hh - h') * (w - w' + 1) + (w - w')) % (w - w' + 1) = w - w' := by rw [Nat.mul_comm, Nat.mul_add_mod, Nat.mod_eq_of_lt (by omega)]
  have e2 : ((hh - h') * (w - w' + 1) + (w - w')) / (w - w' + 1) = hh - h' := by rw [Nat.mul_comm, Nat.mul_add_div (by omega), Nat.div_eq_of_lt (by omega)]; rfl
  have e3 : fdG w p xs w' h' X ((hh - h') * (w - w' + 1) + (w - w')) = 0 := by
    unfold fdG fdV
    rw [e1, e2, ← hX]
    exact gapN_self _ _
  have h0 := hle _ hk
  rw [e3] at h0
  obtain ⟨q1, q2⟩ := fd_place b4.2 b5.2 hK
  refine ⟨w, hh, p, w', h', _, _, X, rfl, rfl, rfl, rfl, rfl, rfl, b1, b2, b4, b5, (hbd0 _ hK0).1, hX, ?_, ?_, hfb, ?_, rfl, by omega, rfl, ?_⟩
  · unfold cropOk; rw [hv1, fit_of b4.1 b5.1 (by omega) (by omega)]; rfl
  · rw [hxl]; have := Nat.mul_le_mul (Nat.mul_le_mul (show w' ≤ 16 by omega) (show h' ≤ 16 by omega)) b3.2; omega
  · have := (hbd _ hK).1
    unfold fdK at this ⊢
    omega
  · rcases Nat.eq_zero_or_pos (fdZ (fdG w p xs w' h' X) ((w - w' + 1) * (hh - h' + 1))) with h | h
    · have := (hz.1 h) _ hk; omega
    · exact h
end Go.Proofs.Ytfjcbdpepbcjcaa
