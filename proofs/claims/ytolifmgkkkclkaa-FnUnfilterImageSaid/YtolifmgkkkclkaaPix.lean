/- Plain mathematics of pixels: an image's numbers as a list, read and written by column, row and plane. -/
import Derived.Test.YtolifmgkkkclkaaWords
namespace Go.Proofs.Ytolifmgkkkclkaa
set_option linter.unusedSimpArgs false
set_option linter.unusedVariables false

/-- The index of a number of a pixel. -/
def pix (W P x y p : Nat) : Nat := (y * W + x) * P + p
/-- The number of plane p of the pixel in column x and row y. -/
def px (W P : Nat) (xs : List Int) (x y p : Nat) : Int := xs.getD (pix W P x y p) 0
/-- The list of the numbers that F tells. -/
def img (W H P : Nat) (F : Nat → Nat → Nat → Int) : List Int := (List.range (W * H * P)).map fun i => F (i / P % W) (i / P / W) (i % P)

theorem pix_lt {W H P x y p : Nat} (hx : x < W) (hy : y < H) (hp : p < P) : pix W P x y p < W * H * P := by
  have h1 : y * W + x < W * H := by
    have : (y + 1) * W ≤ H * W := Nat.mul_le_mul_right W hy
    rw [Nat.add_mul, Nat.one_mul] at this
    rw [Nat.mul_comm W H]
    omega
  have h2 : (y * W + x + 1) * P ≤ W * H * P := Nat.mul_le_mul_right P h1
  rw [Nat.add_mul, Nat.one_mul] at h2
  unfold pix
  omega
theorem pix_mod {W P x y p : Nat} (hp : p < P) : pix W P x y p % P = p := by
  unfold pix
  rw [Nat.mul_comm, Nat.mul_add_mod, Nat.mod_eq_of_lt hp]
theorem pix_div {W P x y p : Nat} (hp : p < P) : pix W P x y p / P = y * W + x := by
  unfold pix
  rw [Nat.mul_comm, Nat.mul_add_div (by omega), Nat.div_eq_of_lt hp, Nat.add_zero]
theorem row_mod {W x y : Nat} (hx : x < W) : (y * W + x) % W = x := by
  rw [Nat.mul_comm, Nat.mul_add_mod, Nat.mod_eq_of_lt hx]
theorem row_div {W x y : Nat} (hx : x < W) : (y * W + x) / W = y := by
  rw [Nat.mul_comm, Nat.mul_add_div (by omega), Nat.div_eq_of_lt hx, Nat.add_zero]
theorem pix_of {W H P i : Nat} (hi : i < W * H * P) : i / P % W < W ∧ i / P / W < H ∧ i % P < P ∧ pix W P (i / P % W) (i / P / W) (i % P) = i := by
  have hP : 0 < P := by
    rcases Nat.eq_zero_or_pos P with h | h
    · subst h; simp at hi
    · exact h
  have hW : 0 < W := by
    rcases Nat.eq_zero_or_pos W with h | h
    · subst h; simp at hi
    · exact h
  have h1 : i / P < W * H := Nat.div_lt_of_lt_mul (by rw [Nat.mul_comm P]; exact hi)
  refine ⟨Nat.mod_lt _ hW, Nat.div_lt_of_lt_mul h1, Nat.mod_lt _ hP, ?_⟩
  unfold pix
  rw [Nat.div_add_mod' (i / P) W, Nat.div_add_mod' i P]
theorem img_len (W H P : Nat) (F : Nat → Nat → Nat → Int) : (img W H P F).length = W * H * P := by simp [img]
theorem img_px {W H P : Nat} (F : Nat → Nat → Nat → Int) {x y p : Nat} (hx : x < W) (hy : y < H) (hp : p < P) : px W P (img W H P F) x y p = F x y p := by
  have h := pix_lt hx hy hp
  unfold px img
  rw [List.getD_eq_getElem?_getD, List.getElem?_map, List.getElem?_range h]
  simp only [Option.map_some, Option.getD_some]
  rw [pix_mod hp, pix_div hp, row_mod hx, row_div hx]
theorem img_ext {W H P : Nat} {F G : Nat → Nat → Nat → Int} (h : ∀ x y p, x < W → y < H → p < P → F x y p = G x y p) : img W H P F = img W H P G := by
  apply List.map_congr_left
  intro i hi
  obtain ⟨h1, h2, h3, _⟩ := pix_of (List.mem_range.1 hi)
  exact h _ _ _ h1 h2 h3
theorem img_of {W H P : Nat} {xs : List Int} (hl : xs.length = W * H * P) : img W H P (px W P xs) = xs := by
  apply List.ext_getElem
  · rw [img_len, hl]
  · intro i h1 h2
    have hi : i < W * H * P := by rw [img_len] at h1; exact h1
    simp only [img, List.getElem_map, List.getElem_range, px]
    rw [(pix_of hi).2.2.2]
    simp [h2]
theorem img_eq {W H P : Nat} {xs : List Int} {F : Nat → Nat → Nat → Int} (hl : xs.length = W * H * P) (h : ∀ x y p, x < W → y < H → p < P → px W P xs x y p = F x y p) : xs = img W H P F := by
  rw [← img_of hl]
  exact img_ext h
theorem pix_inj {W P x y p x' y' p' : Nat} (hx : x < W) (hx' : x' < W) (hp : p < P) (hp' : p' < P) (h : pix W P x y p = pix W P x' y' p') : x = x' ∧ y = y' ∧ p = p' := by
  have h1 := congrArg (· % P) h
  have h2 := congrArg (· / P) h
  simp only [pix_mod hp, pix_mod hp', pix_div hp, pix_div hp'] at h1 h2
  have h3 := congrArg (· % W) h2
  have h4 := congrArg (· / W) h2
  simp only [row_mod hx, row_mod hx', row_div hx, row_div hx'] at h3 h4
  exact ⟨h3, h4, h1⟩
/-- One number of a pixel is written. -/
theorem px_set {W P : Nat} {xs : List Int} {x y p x' y' p' : Nat} {v : Int} (hx : x < W) (hx' : x' < W) (hp : p < P) (hp' : p' < P) (hl : pix W P x' y' p' < xs.length) :
    px W P (xs.set (pix W P x' y' p') v) x y p = if x = x' ∧ y = y' ∧ p = p' then v else px W P xs x y p := by
  unfold px
  rw [List.getD_eq_getElem?_getD, List.getElem?_set]
  by_cases h : x = x' ∧ y = y' ∧ p = p'
  · obtain ⟨rfl, rfl, rfl⟩ := h
    simp [hl]
  · rw [if_neg h, if_neg (fun e => h (by obtain ⟨a, b, c⟩ := pix_inj hx' hx hp' hp e; exact ⟨a.symm, b.symm, c.symm⟩))]
    simp [List.getD_eq_getElem?_getD]
/-- The first k numbers of a pixel are written. -/
def setk (W P x y : Nat) (q : List Int) (xs : List Int) : Nat → List Int
  | 0 => xs
  | k + 1 => (setk W P x y q xs k).set (pix W P x y k) (q.getD k 0)
theorem setk_len (W P x y : Nat) (q xs : List Int) (k : Nat) : (setk W P x y q xs k).length = xs.length := by
  induction k with
  | zero => rfl
  | succ k ih => simp [setk, ih]
theorem setk_px {W H P : Nat} {q xs : List Int} {x y p x' y' : Nat} (hl : xs.length = W * H * P) (hx : x < W) (hx' : x' < W) (hy' : y' < H) (hp : p < P) (k : Nat) (hk : k ≤ P) :
    px W P (setk W P x' y' q xs k) x y p = if x = x' ∧ y = y' ∧ p < k then q.getD p 0 else px W P xs x y p := by
  induction k with
  | zero => simp [setk]
  | succ k ih =>
    rw [setk, px_set hx hx' hp (by omega) (by rw [setk_len, hl]; exact pix_lt hx' hy' (by omega)), ih (by omega)]
    by_cases h : x = x' ∧ y = y'
    · obtain ⟨rfl, rfl⟩ := h
      by_cases h1 : p = k
      · subst h1; simp
      · by_cases h2 : p < k
        · simp [h1, h2, show p < k + 1 by omega]
        · simp [h1, h2, show ¬ p < k + 1 by omega]
    · rw [if_neg (fun e => h ⟨e.1, e.2.1⟩), if_neg (fun e => h ⟨e.1, e.2.1⟩), if_neg (fun e => h ⟨e.1, e.2.1⟩)]
/-- The numbers of one pixel. -/
def pxl (W P : Nat) (xs : List Int) (x y : Nat) : List Int := (List.range P).map (px W P xs x y)
theorem pxl_len (W P : Nat) (xs : List Int) (x y : Nat) : (pxl W P xs x y).length = P := by simp [pxl]
theorem pxl_get (W P : Nat) (xs : List Int) (x y p : Nat) (hp : p < P) : (pxl W P xs x y).getD p 0 = px W P xs x y p := by simp [pxl, hp]
theorem pxl_take (W P : Nat) (xs : List Int) (x y : Nat) (h : pix W P x y P ≤ xs.length) : (xs.drop (pix W P x y 0)).take P = pxl W P xs x y := by
  apply List.ext_getElem
  · simp [pxl_len]; unfold pix at *; omega
  · intro i h1 h2
    rw [pxl_len] at h2
    have : pix W P x y i < xs.length := by unfold pix at *; omega
    simp [pxl, px, pix] at this ⊢
    rw [List.getElem?_eq_getElem this]
    rfl
/-- The numbers of the first k pixels. -/
def imgk (W P : Nat) (F : Nat → Nat → Nat → Int) (k : Nat) : List Int := (List.range (k * P)).map fun i => F (i / P % W) (i / P / W) (i % P)
theorem imgk_all (W H P : Nat) (F : Nat → Nat → Nat → Int) : imgk W P F (W * H) = img W H P F := rfl
theorem imgk_len (W P : Nat) (F : Nat → Nat → Nat → Int) (k : Nat) : (imgk W P F k).length = k * P := by simp [imgk]
theorem imgk_zero (W P : Nat) (F : Nat → Nat → Nat → Int) : imgk W P F 0 = [] := by simp [imgk]
theorem imgk_step {W P x y : Nat} (F : Nat → Nat → Nat → Int) (hx : x < W) : imgk W P F (y * W + x + 1) = imgk W P F (y * W + x) ++ (List.range P).map (F x y) := by
  unfold imgk
  rw [Nat.add_mul, Nat.one_mul, List.range_add, List.map_append, List.map_map]
  congr 1
  apply List.map_congr_left
  intro p hp
  have hp' := List.mem_range.1 hp
  show F (((y * W + x) * P + p) / P % W) (((y * W + x) * P + p) / P / W) (((y * W + x) * P + p) % P) = F x y p
  have e1 : ((y * W + x) * P + p) / P = y * W + x := pix_div hp'
  have e2 : ((y * W + x) * P + p) % P = p := pix_mod hp'
  rw [e1, e2, row_mod hx, row_div hx]
theorem imgk_row {W P y : Nat} (F : Nat → Nat → Nat → Int) : imgk W P F ((y + 1) * W) = imgk W P F (y * W + W) := by rw [Nat.add_mul, Nat.one_mul]
theorem range_four (c : Nat → Int) : (List.range 4).map c = [c 0, c 1, c 2, c 3] := rfl
theorem imgk_next {W P k : Nat} (F : Nat → Nat → Nat → Int) : imgk W P F (k + 1) = imgk W P F k ++ (List.range P).map (F (k % W) (k / W)) := by
  unfold imgk
  rw [Nat.add_mul, Nat.one_mul, List.range_add, List.map_append, List.map_map]
  congr 1
  apply List.map_congr_left
  intro p hp
  have hp' := List.mem_range.1 hp
  show F ((k * P + p) / P % W) ((k * P + p) / P / W) ((k * P + p) % P) = F (k % W) (k / W) p
  have e1 : (k * P + p) / P = k := by rw [Nat.mul_comm, Nat.mul_add_div (by omega), Nat.div_eq_of_lt hp', Nat.add_zero]
  have e2 : (k * P + p) % P = p := by rw [Nat.mul_comm, Nat.mul_add_mod, Nat.mod_eq_of_lt hp']
  rw [e1, e2]
theorem img_at {W H P k p : Nat} (F : Nat → Nat → Nat → Int) (hk : k < W * H) (hp : p < P) : (img W H P F).getD (k * P + p) 0 = F (k % W) (k / W) p := by
  have h : k * P + p < W * H * P := by
    have h2 : (k + 1) * P ≤ W * H * P := Nat.mul_le_mul_right P hk
    rw [Nat.add_mul, Nat.one_mul] at h2
    omega
  unfold img
  rw [List.getD_eq_getElem?_getD, List.getElem?_map, List.getElem?_range h]
  simp only [Option.map_some, Option.getD_some]
  have e1 : (k * P + p) / P = k := by rw [Nat.mul_comm, Nat.mul_add_div (by omega), Nat.div_eq_of_lt hp, Nat.add_zero]
  have e2 : (k * P + p) % P = p := by rw [Nat.mul_comm, Nat.mul_add_mod, Nat.mod_eq_of_lt hp]
  rw [e1, e2]
/-- Pixel by pixel in the order of their sources, rows are filled: those with a source before column x and row y are new. -/
def Fill (W' H' P : Nat) (sx sy : Nat → Nat → Nat) (N O : Nat → Nat → Nat → Int) (y x : Nat) (ys : List Int) : Prop :=
  ys.length = W' * H' * P ∧ ∀ X Y p, X < W' → Y < H' → p < P → px W' P ys X Y p = if sy X Y < y ∨ (sy X Y = y ∧ sx X Y < x) then N X Y p else O X Y p
theorem Fill.start {W' H' P : Nat} {sx sy : Nat → Nat → Nat} {N : Nat → Nat → Nat → Int} {ys : List Int} (hl : ys.length = W' * H' * P) : Fill W' H' P sx sy N (px W' P ys) 0 0 ys :=
  ⟨hl, fun X Y p _ _ _ => by rw [if_neg (by omega)]⟩
theorem Fill.step {W' H' P : Nat} {sx sy : Nat → Nat → Nat} {N O : Nat → Nat → Nat → Int} {y x tx ty : Nat} {ys q : List Int} (h : Fill W' H' P sx sy N O y x ys) (htx : tx < W') (hty : ty < H')
    (hinv : ∀ X Y, X < W' → Y < H' → (sx X Y = x ∧ sy X Y = y ↔ X = tx ∧ Y = ty)) (hq : ∀ p, p < P → q.getD p 0 = N tx ty p) : Fill W' H' P sx sy N O y (x + 1) (setk W' P tx ty q ys P) := by
  refine ⟨by rw [setk_len, h.1], fun X Y p hX hY hp => ?_⟩
  rw [setk_px (H := H') h.1 hX htx hty hp P (Nat.le_refl _), h.2 X Y p hX hY hp]
  have hi := hinv X Y hX hY
  by_cases e : X = tx ∧ Y = ty
  · have e2 := hi.2 e
    obtain ⟨rfl, rfl⟩ := e
    rw [if_pos ⟨rfl, rfl, hp⟩, if_pos (by omega), hq p hp]
  · have e2 : ¬ (sx X Y = x ∧ sy X Y = y) := fun h => e (hi.1 h)
    rw [if_neg (fun h => e ⟨h.1, h.2.1⟩)]
    by_cases c : sy X Y < y ∨ (sy X Y = y ∧ sx X Y < x)
    · rw [if_pos c, if_pos (by omega)]
    · rw [if_neg c, if_neg (by omega)]
theorem Fill.row {W' H' P W : Nat} {sx sy : Nat → Nat → Nat} {N O : Nat → Nat → Nat → Int} {y : Nat} {ys : List Int} (h : Fill W' H' P sx sy N O y W ys) (hs : ∀ X Y, X < W' → Y < H' → sx X Y < W) : Fill W' H' P sx sy N O (y + 1) 0 ys := by
  refine ⟨h.1, fun X Y p hX hY hp => ?_⟩
  rw [h.2 X Y p hX hY hp]
  have := hs X Y hX hY
  by_cases c : sy X Y < y ∨ (sy X Y = y ∧ sx X Y < W)
  · rw [if_pos c, if_pos (by omega)]
  · rw [if_neg c, if_neg (by omega)]
theorem Fill.done {W' H' P H : Nat} {sx sy : Nat → Nat → Nat} {N O : Nat → Nat → Nat → Int} {ys : List Int} (h : Fill W' H' P sx sy N O H 0 ys) (hs : ∀ X Y, X < W' → Y < H' → sy X Y < H) : ys = img W' H' P N :=
  img_eq h.1 fun X Y p hX hY hp => by
    rw [h.2 X Y p hX hY hp, if_pos (Or.inl (hs X Y hX hY))]
end Go.Proofs.Ytolifmgkkkclkaa
