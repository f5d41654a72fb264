/- Restored images: mathematics. -/
import Derived.Test.YtolifmgkkkclkaaFlM
namespace Go.Proofs.Ytolifmgkkkclkaa
open Go.RowKit
set_option linter.unusedSimpArgs false
set_option linter.unusedVariables false

/-- A truth and an image. -/
def UfR (ok : Bool) (W H P : Int) (ys : List Int) (w : World) (e : Ending) (w' : World) : Prop :=
  ∃ v, e = .returned (.tuple #[.agg #[.int .i64 (cond ok W 0), .int .i64 (cond ok H 0), .int .i64 (cond ok P 0), v], .bool ok]) ∧ Own w' w.heap.size v (cond ok ys []) ∧ Below w.heap.size w w'
theorem UfR.no {ok : Bool} {W H P : Int} {ys : List Int} {w w' : World} (h : ok = false) (hb : Below w.heap.size w w') : UfR ok W H P ys w (.returned (.tuple #[.agg #[.int .i64 0, .int .i64 0, .int .i64 0, .slice none 0 0], .bool false])) w' := by
  subst h
  exact ⟨_, rfl, World.ownsRow_nil _ _ _ _, hb⟩
theorem UfR.yes {ok : Bool} {W H P : Int} {ys : List Int} {w w' : World} {v : Value} (h : ok = true) (ho : Own w' w.heap.size v ys) (hb : Below w.heap.size w w') : UfR ok W H P ys w (.returned (.tuple #[.agg #[.int .i64 W, .int .i64 H, .int .i64 P, v], .bool true])) w' := by
  subst h
  exact ⟨_, rfl, ho, hb⟩
theorem unL_pre {n P : Nat} {l : List Int} {H y : Nat} (hy : y ≤ H) : (unL n P l H).take (y * n) = unL n P l y := by
  induction H with
  | zero =>
    obtain rfl : y = 0 := by omega
    simp [unL]
  | succ H ih =>
    rcases Nat.lt_or_ge H y with h | h
    · obtain rfl : y = H + 1 := by omega
      exact List.take_of_length_le (by rw [unL_len]; exact Nat.le_refl _)
    · rw [show unL n P l (H + 1) = unL n P l H ++ unP n P l (H + 1) from rfl]
      rw [List.take_append_of_le_length (by rw [unL_len]; exact Nat.mul_le_mul_right _ h)]
      exact ih h
theorem unL_at {n P : Nat} {l : List Int} {H y i : Nat} (hy : y < H) (hi : i < n) : (unL n P l H).getD (y * n + i) 0 = (unP n P l (y + 1)).getD i 0 := by
  have h1 := unL_pre (n := n) (P := P) (l := l) (H := H) (y := y + 1) (by omega)
  have hlt : y * n + i < (y + 1) * n := by rw [Nat.add_mul, Nat.one_mul]; omega
  have h2 : (unL n P l H).getD (y * n + i) 0 = ((unL n P l H).take ((y + 1) * n)).getD (y * n + i) 0 := by
    simp [List.getD_eq_getElem?_getD, List.getElem?_take, hlt]
  rw [h2, h1, show unL n P l (y + 1) = unL n P l y ++ unP n P l (y + 1) from rfl]
  rw [List.getD_eq_getElem?_getD, List.getElem?_append_right (by rw [unL_len]; omega), unL_len, Nat.add_sub_cancel_left, ← List.getD_eq_getElem?_getD]
theorem ptR_all {n H : Nat} {l : List Int} (hb : Byt l) (y : Nat) : Byt (ptR n l y) := by
  intro j
  by_cases hj : j < n
  · rw [ptR_get hj]; exact hb _
  · have : (ptR n l y).getD j 0 = 0 := by
      unfold ptR
      simp [List.getD_eq_getElem?_getD, List.getElem?_take, hj]
    rw [this]; omega
theorem ptOk_of {n : Nat} {l : List Int} (hb : Byt l) {y : Nat} (hk : 0 ≤ ptK n l y ∧ ptK n l y ≤ 4) : ptOk n l y = true := by
  unfold ptOk
  rw [decide_eq_true hk, Bool.true_and]
  unfold allB
  exact decide_eq_true fun v hv => of_byt (ptR_all (H := 0) hb y) v hv
theorem ptOk_no {n : Nat} {l : List Int} {y : Nat} (hk : ¬ (0 ≤ ptK n l y ∧ ptK n l y ≤ 4)) : ptOk n l y = false := by
  unfold ptOk
  rw [decide_eq_false hk, Bool.false_and]
theorem unOk_no {n H : Nat} {l : List Int} {y : Nat} (hy : y < H) (h : ptOk n l y = false) : unOk n H l = false := by
  unfold unOk
  exact decide_eq_false fun hh => by have := hh y hy; rw [h] at this; cases this
theorem unOk_yes {n H : Nat} {l : List Int} (h : ∀ y, y < H → ptOk n l y = true) : unOk n H l = true := decide_eq_true h
/-- Numbers that can be restored are bytes. -/
theorem unOk_byt {n H : Nat} {l : List Int} (hl : l.length = H * (n + 1)) (h : unOk n H l = true) : allB 0 255 l = true := by
  have hh : ∀ y, y < H → ptOk n l y = true := of_decide_eq_true h
  unfold allB
  refine decide_eq_true fun v hv => ?_
  obtain ⟨j, hj, rfl⟩ := List.getElem_of_mem hv
  have hj2 : j < H * (n + 1) := by rw [← hl]; exact hj
  have hd : j / (n + 1) * (n + 1) + j % (n + 1) = j := by rw [Nat.mul_comm]; exact Nat.div_add_mod j (n + 1)
  have hm : j % (n + 1) < n + 1 := Nat.mod_lt _ (by omega)
  have hy : j / (n + 1) < H := Nat.div_lt_of_lt_mul (by rw [Nat.mul_comm]; exact hj2)
  have hp := hh _ hy
  unfold ptOk at hp
  rw [Bool.and_eq_true, decide_eq_true_eq] at hp
  have e0 : l[j] = l.getD j 0 := by simp [List.getD_eq_getElem?_getD, hj]
  rw [e0]
  by_cases hz : j % (n + 1) = 0
  · have e : ptK n l (j / (n + 1)) = l.getD j 0 := by
      unfold ptK
      rw [show j / (n + 1) * (n + 1) = j by omega]
    have := hp.1
    rw [e] at this
    omega
  · have hi : j % (n + 1) - 1 < n := by omega
    have e := ptR_get (l := l) (y := j / (n + 1)) hi
    rw [show j / (n + 1) * (n + 1) + 1 + (j % (n + 1) - 1) = j by omega] at e
    rw [← e]
    have h2 : ∀ v ∈ ptR n l (j / (n + 1)), 0 ≤ v ∧ v ≤ 255 := of_decide_eq_true hp.2
    refine h2 _ ?_
    have hlen := ptR_len hl hy
    rw [List.getD_eq_getElem?_getD, List.getElem?_eq_getElem (by rw [hlen]; exact hi)]
    exact List.getElem_mem _
/-- Whether a list can be restored. -/
def ufOk (W H P : Int) (l : List Int) : Bool := vsh W H P && (decide ((l.length : Int) = H * (W * P + 1)) && unOk (W.toNat * P.toNat) H.toNat l)
def ufL (W H P : Int) (l : List Int) : List Int := unL (W.toNat * P.toNat) P.toNat l H.toNat
theorem ufOk_len {W H P : Nat} {l : List Int} (h : ((l.length : Nat) : Int) = (H : Int) * ((W : Int) * (P : Int) + 1)) : l.length = H * (W * P + 1) := by
  have h2 : ((l.length : Nat) : Int) = ((H * (W * P + 1) : Nat) : Int) := by rw [h]; simp
  exact Int.ofNat.inj h2
theorem ufOk_v {W H P : Int} {l : List Int} (h : vsh W H P = false) : ufOk W H P l = false := by unfold ufOk; rw [h]; rfl
theorem ufOk_n {W H P : Int} {l : List Int} (h : ¬ (l.length : Int) = H * (W * P + 1)) : ufOk W H P l = false := by unfold ufOk; rw [decide_eq_false h, Bool.false_and, Bool.and_false]
theorem ufOk_b {W H P : Nat} {l : List Int} (hl : l.length = H * (W * P + 1)) (h : allB 0 255 l = false) : ufOk W H P l = false := by
  unfold ufOk
  have : unOk ((W : Int).toNat * (P : Int).toNat) (H : Int).toNat l = false := by
    show unOk (W * P) H l = false
    cases hu : unOk (W * P) H l
    · rfl
    · rw [unOk_byt hl hu] at h; cases h
  rw [this, Bool.and_false, Bool.and_false]
theorem ufOk_y {W H P : Nat} {l : List Int} (hv : vsh W H P = true) (hl : (l.length : Int) = (H : Int) * ((W : Int) * (P : Int) + 1)) : ufOk W H P l = unOk (W * P) H l := by
  unfold ufOk
  rw [hv, decide_eq_true hl, Bool.true_and, Bool.true_and]
  rfl
theorem vsh_natU {W H P : Int} (h : vsh W H P = true) : ∃ w h p : Nat, W = w ∧ H = h ∧ P = p ∧ (1 ≤ w ∧ w ≤ 16) ∧ (1 ≤ h ∧ h ≤ 16) ∧ 1 ≤ p ∧ p ≤ 4 := by
  obtain ⟨h1, h2, h3, _⟩ := vsh_bd h
  exact ⟨W.toNat, H.toNat, P.toNat, by omega, by omega, by omega, by omega, by omega, by omega⟩
/-- The restored rows of some parts, in the order given, and the last one of them. -/
def uS (n P : Nat) (l : List Int) {M : Nat} (pre : List (Fin M)) : List Int × List Int :=
  pre.foldl (fun s x => (s.1 ++ unf (ptK n l x.val) (ptR n l x.val) s.2 P n, unf (ptK n l x.val) (ptR n l x.val) s.2 P n)) ([], zeros n)
theorem uS_snoc (n P : Nat) (l : List Int) {M : Nat} (pre : List (Fin M)) (x : Fin M) : uS n P l (pre ++ [x]) = ((uS n P l pre).1 ++ unf (ptK n l x.val) (ptR n l x.val) (uS n P l pre).2 P n, unf (ptK n l x.val) (ptR n l x.val) (uS n P l pre).2 P n) := by
  unfold uS
  rw [List.foldl_append]; rfl
theorem uS_take (n P : Nat) (l : List Int) {M : Nat} : ∀ k, k ≤ M → uS n P l ((List.finRange M).take k) = (unL n P l k, unP n P l k)
  | 0, _ => by simp [uS, unL, unP]
  | k + 1, h => by
    rw [fin_take3 M k (by omega), uS_snoc, uS_take n P l k (by omega)]
    rfl
theorem uS_all (n P : Nat) (l : List Int) {M : Nat} : (uS n P l (List.finRange M)).1 = unL n P l M := by
  have := uS_take n P l (M := M) M (Nat.le_refl _)
  rw [List.take_of_length_le (by simp)] at this
  rw [this]
theorem uS_bd {n P M : Nat} {l : List Int} : ∀ pre : List (Fin M), (uS n P l pre).1.length = pre.length * n ∧ (uS n P l pre).2.length = n ∧ Byt (uS n P l pre).2 :=
  snoc_ind ⟨by simp [uS], by simp [uS, zeros], by unfold uS; exact zrs_byt n⟩ fun pre x ih => by
    rw [uS_snoc]
    refine ⟨?_, unf_len _ _ _ _ _, unf_byt _ _ _ _ _⟩
    simp only [List.length_append, ih.1, unf_len, Nat.add_mul, List.length_cons, List.length_nil]
    omega
theorem byt_of_all {l : List Int} (h : allB 0 255 l = true) : Byt l := byt_of (of_decide_eq_true h)
end Go.Proofs.Ytolifmgkkkclkaa
