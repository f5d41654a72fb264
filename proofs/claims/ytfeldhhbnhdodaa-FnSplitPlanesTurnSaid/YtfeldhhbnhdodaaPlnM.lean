/- Planes of an image, the image of planes: mathematics. -/
import Derived.Test.YtfeldhhbnhdodaaIml
import Derived.Test.YtfeldhhbnhdodaaGridN
import Derived.Test.YtfeldhhbnhdodaaPix
namespace Go.Proofs.Ytfeldhhbnhdodaa
open Go.RowKit
set_option linter.unusedSimpArgs false
set_option linter.unusedVariables false

/-- One plane of an image. -/
def plL (W H P : Nat) (xs : List Int) (p : Nat) : List Int := img W H 1 (fun x y _ => px W P xs x y p)
theorem plL_len (W H P : Nat) (xs : List Int) (p : Nat) : (plL W H P xs p).length = W * H := by unfold plL; rw [img_len, Nat.mul_one]
theorem plL_get {W H P : Nat} {xs : List Int} {p k : Nat} (hk : k < W * H) : (plL W H P xs p).getD k 0 = xs.getD (k * P + p) 0 := by
  have h1 := img_at (W := W) (H := H) (P := 1) (fun x y _ => px W P xs x y p) (k := k) (p := 0) hk (by omega)
  rw [Nat.mul_one, Nat.add_zero] at h1
  have h2 : (plL W H P xs p).getD k 0 = px W P xs (k % W) (k / W) p := h1
  rw [h2]
  unfold px pix
  rw [show k / W * W + k % W = k by rw [Nat.mul_comm]; exact Nat.div_add_mod k W]
/-- The planes of an image, as images. -/
def spN (W H P : Nat) (xs : List Int) : List Imv := (List.range P).map fun p => ⟨W, H, 1, plL W H P xs p⟩
theorem spN_len (W H P : Nat) (xs : List Int) : (spN W H P xs).length = P := by simp [spN]
theorem spN_get {W H P : Nat} {xs : List Int} {p : Nat} (h : p < P) : imv (spN W H P xs) p = ⟨W, H, 1, plL W H P xs p⟩ := by
  show (spN W H P xs).getD p default = _
  simp [spN, List.getD_eq_getElem?_getD, h]
theorem spN_next {W H P : Nat} {xs : List Int} {k : Nat} (h : k < P) : (spN W H P xs).take (k + 1) = (spN W H P xs).take k ++ [⟨W, H, 1, plL W H P xs k⟩] := by
  rw [List.take_succ_eq_append_getElem (by rw [spN_len]; exact h)]
  simp [spN]
def spL (W H P : Int) (xs : List Int) : List Imv := if vim W H P xs then spN W.toNat H.toNat P.toNat xs else []
theorem spL_no {W H P : Int} {xs : List Int} (h : vim W H P xs = false) : spL W H P xs = [] := by unfold spL; rw [h]; rfl
theorem spL_yes {W H P : Nat} {xs : List Int} (h : vim W H P xs = true) : spL W H P xs = spN W H P xs := by unfold spL; rw [if_pos h]; rfl
/-- Are the images the planes of one image? -/
def mgA (X Y : Int) (m : Imv) : Bool := vim m.X m.Y m.Z m.ds && decide (m.Z = 1) && decide (m.X = X) && decide (m.Y = Y)
def mgOk (ms : List Imv) : Bool := decide (1 ≤ ms.length ∧ ms.length ≤ 4) && ms.all (mgA (imv ms 0).X (imv ms 0).Y)
/-- The numbers of the image of planes. -/
def mgL (W H : Nat) (ms : List Imv) : List Int := img W H ms.length (fun x y i => px W 1 (imv ms i).ds x y 0)
theorem mgA_spec {X Y : Int} {m : Imv} (h : mgA X Y m = true) : vim m.X m.Y m.Z m.ds = true ∧ m.Z = 1 ∧ m.X = X ∧ m.Y = Y := by
  unfold mgA at h
  simp only [Bool.and_eq_true, decide_eq_true_eq] at h
  exact ⟨h.1.1.1, h.1.1.2, h.1.2, h.2⟩
theorem imv_mem {ms : List Imv} {i : Nat} (h : i < ms.length) : imv ms i ∈ ms := by
  unfold imv
  simp [List.getD_eq_getElem?_getD, h]
theorem mg_all {ms : List Imv} {p : Imv → Bool} : ms.all p = true ↔ ∀ i, i < ms.length → p (imv ms i) = true := by
  constructor
  · intro h i hi
    exact List.all_eq_true.1 h _ (imv_mem hi)
  · intro h
    refine List.all_eq_true.2 fun x hx => ?_
    obtain ⟨i, hi, e⟩ := List.getElem_of_mem hx
    have := h i hi
    unfold imv at this
    rw [List.getD_eq_getElem?_getD, List.getElem?_eq_getElem hi] at this
    simpa [e] using this
theorem mgOk_no {ms : List Imv} {i : Nat} (hi : i < ms.length) (h : mgA (imv ms 0).X (imv ms 0).Y (imv ms i) = false) : mgOk ms = false := by
  unfold mgOk
  have : ms.all (mgA (imv ms 0).X (imv ms 0).Y) = false := by
    rw [Bool.eq_false_iff]
    intro e
    have := mg_all.1 e i hi
    rw [h] at this; cases this
  rw [this, Bool.and_false]
theorem mgOk_len {ms : List Imv} (h : ¬ (1 ≤ ms.length ∧ ms.length ≤ 4)) : mgOk ms = false := by
  unfold mgOk; rw [decide_eq_false h]; rfl
theorem mgOk_yes {ms : List Imv} (h : 1 ≤ ms.length ∧ ms.length ≤ 4) (ha : ∀ i, i < ms.length → mgA (imv ms 0).X (imv ms 0).Y (imv ms i) = true) : mgOk ms = true := by
  unfold mgOk; rw [decide_eq_true h, mg_all.2 ha]; rfl
/-- What the planes of one image are. -/
theorem mgOk_spec {ms : List Imv} (h : mgOk ms = true) : ∃ W H : Nat, 1 ≤ W ∧ W ≤ 16 ∧ 1 ≤ H ∧ H ≤ 16 ∧ 1 ≤ ms.length ∧ ms.length ≤ 4 ∧ (imv ms 0).X = (W : Int) ∧ (imv ms 0).Y = (H : Int) ∧
    ∀ i, i < ms.length → (imv ms i).X = (W : Int) ∧ (imv ms i).Y = (H : Int) ∧ (imv ms i).Z = 1 ∧ (imv ms i).ds.length = W * H ∧ ∀ k, k < W * H → 0 ≤ (imv ms i).ds.getD k 0 ∧ (imv ms i).ds.getD k 0 ≤ 255 := by
  unfold mgOk at h
  rw [Bool.and_eq_true, decide_eq_true_eq] at h
  obtain ⟨hl, ha⟩ := h
  have ha := mg_all.1 ha
  have h0 := mgA_spec (ha 0 (by omega))
  obtain ⟨W, H, P, e1, e2, e3, hW1, hW, hH1, hH, hP1, hP, hln, hby⟩ := vim_nat h0.1
  refine ⟨W, H, hW1, hW, hH1, hH, hl.1, hl.2, e1, e2, fun i hi => ?_⟩
  have hi' := mgA_spec (ha i hi)
  obtain ⟨W', H', P', e1', e2', e3', _, _, _, _, _, _, hln', hby'⟩ := vim_nat hi'.1
  obtain rfl : W' = W := by have := hi'.2.2.1; omega
  obtain rfl : H' = H := by have := hi'.2.2.2; omega
  obtain rfl : P' = 1 := by have := hi'.2.1; omega
  rw [Nat.mul_one] at hln'
  exact ⟨e1', e2', hi'.2.1, hln', fun k hk => hby' k (by omega)⟩
theorem mgL_len (W H : Nat) (ms : List Imv) : (mgL W H ms).length = W * H * ms.length := img_len ..
theorem mgL_get {W H : Nat} {ms : List Imv} {k p : Nat} (hk : k < W * H) (hp : p < ms.length) : (mgL W H ms).getD (k * ms.length + p) 0 = (imv ms p).ds.getD k 0 := by
  have h1 := img_at (W := W) (H := H) (P := ms.length) (fun x y i => px W 1 (imv ms i).ds x y 0) (k := k) (p := p) hk hp
  have h2 : (mgL W H ms).getD (k * ms.length + p) 0 = px W 1 (imv ms p).ds (k % W) (k / W) 0 := h1
  rw [h2]
  unfold px pix
  rw [show k / W * W + k % W = k by rw [Nat.mul_comm]; exact Nat.div_add_mod k W, Nat.mul_one, Nat.add_zero]
theorem plL_one (W H : Nat) (xs : List Int) : plL W H 1 xs 0 = img W H 1 (fun x y _ => px W 1 xs x y 0) := rfl
/-- An image of the call's own, and whether. -/
def MgR (ok : Bool) (W H P : Int) (ys : List Int) (w : World) (e : Ending) (w' : World) : Prop :=
  ∃ v, e = .returned (.tuple #[.agg #[.int .i64 (cond ok W 0), .int .i64 (cond ok H 0), .int .i64 (cond ok P 0), v], .bool ok]) ∧ Own w' w.heap.size v (cond ok ys []) ∧ Below w.heap.size w w'
theorem MgR.no {ok : Bool} {W H P : Int} {ys : List Int} {w w' : World} (h : ok = false) (hb : Below w.heap.size w w') : MgR ok W H P ys w (.returned (.tuple #[.agg #[.int .i64 0, .int .i64 0, .int .i64 0, .slice none 0 0], .bool false])) w' := by
  subst h
  exact ⟨_, rfl, World.ownsRow_nil _ _ _ _, hb⟩
theorem MgR.yes {ok : Bool} {W H P : Int} {ys : List Int} {w w' : World} {v : Value} (h : ok = true) (ho : Own w' w.heap.size v ys) (hb : Below w.heap.size w w') : MgR ok W H P ys w (.returned (.tuple #[.agg #[.int .i64 W, .int .i64 H, .int .i64 P, v], .bool true])) w' := by
  subst h
  exact ⟨_, rfl, ho, hb⟩
end Go.Proofs.Ytfeldhhbnhdodaa
