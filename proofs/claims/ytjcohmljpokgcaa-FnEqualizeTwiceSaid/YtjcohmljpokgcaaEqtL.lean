/- What the law of images equalized twice needs. -/
import Derived.Test.YtjcohmljpokgcaaImgEq
import Derived.Test.YtjcohmljpokgcaaPalI
namespace Go.Proofs.Ytjcohmljpokgcaa
open Go.RowKit Go.Shelf
set_option linter.unusedSimpArgs false
set_option linter.unusedVariables false

theorem LSt.box2 {W0 w : World} {R : List (Option Addr × List Int)} {Bs : List Bxs} (h : LSt W0 w R Bs) (T : TypeId) (cs : Array Value) (g : Nat) (hg : g = w.heap.size) : LSt W0 (w.alloc (.cells cs T)) R (⟨g, T, cs⟩ :: Bs) := by
  subst hg; exact h.box T cs
section
variable {xs : List Int} (h0 : 0 < xs.length) (hb : ∀ j, j < xs.length → 0 ≤ xs.getD j 0 ∧ xs.getD j 0 ≤ 255)
include h0 hb
/-- Of two numbers, the greater one becomes 255, the other one 0. -/
theorem eq_two {a b : Int} (hab : ∀ x ∈ xs, x = a ∨ x = b) (hn : ¬ oth xs = 0) {x : Int} (hx : x ∈ xs) : eqF xs x = if x = tp xs then 255 else 0 := by
  have hp := pos_mem hb hx
  have ht := tp_ge h0 hb hx
  have htb := tp_bd h0 hb
  unfold eqF
  rw [if_neg hn]
  by_cases e : x = tp xs
  · rw [if_pos e, e, Int.toNat_natCast]
    show 255 * oth xs / oth xs = 255
    exact Int.mul_ediv_cancel _ hn
  · rw [if_neg e, sm_hist xs (fun x => pos_mem hb) _ (by omega)]
    have hz : xs.countP (fun y => decide (y < ((x.toNat : Nat) : Int))) = 0 := List.countP_eq_zero.2 (fun y hy => (by
      have h5 : ¬ y < ((x.toNat : Nat) : Int) := by
        intro h6
        have h7 := hab y hy
        have h8 := hab x hx
        have h9 := hab _ (tp_mem h0 hb)
        omega
      intro h6
      exact h5 (of_decide_eq_true h6)))
    rw [hz]
    exact Int.zero_ediv _
end
theorem vpl_mk {W H P : Int} {xs ys : List Int} (hv : vpl W H P xs = true) (hl : ys.length = xs.length) (hb : ∀ y ∈ ys, 0 ≤ y ∧ y ≤ 255) : vpl W H P ys = true := by
  obtain ⟨h1, h2⟩ := vpl_parts hv
  have e : vim W H P ys = (vsh W H P && (decide ((ys.length : Int) = W * H * P) && allB 0 255 ys)) := rfl
  have e0 : vim W H P xs = (vsh W H P && (decide ((xs.length : Int) = W * H * P) && allB 0 255 xs)) := rfl
  rw [e0, Bool.and_eq_true, Bool.and_eq_true] at h1
  have ha : allB 0 255 ys = true := decide_eq_true hb
  unfold vpl
  rw [e, h1.1, ha, hl, h1.2.1, decide_eq_true h2]
  rfl
theorem eqt_law {xs : List Int} (h0 : 0 < xs.length) (hb : ∀ j, j < xs.length → 0 ≤ xs.getD j 0 ∧ xs.getD j 0 ≤ 255) {a b : Int} (hab : ∀ x ∈ xs, x = a ∨ x = b) (hne : ∃ i, i < xs.length ∧ ¬ xs.getD i 0 = xs.getD 0 0) :
    (∀ j, j < (eqL xs).length → (eqL xs).getD j 0 = 0 ∨ (eqL xs).getD j 0 = 255) ∧ eqL (eqL xs) = eqL xs := by
  obtain ⟨i, hi, hd⟩ := hne
  have hn : ¬ oth xs = 0 := by have := oth_pos h0 hb hi hd; omega
  have hl : (eqL xs).length = xs.length := by simp [eqL]
  have hv : ∀ j, j < (eqL xs).length → (eqL xs).getD j 0 = 0 ∨ (eqL xs).getD j 0 = 255 := fun j hj => by
    rw [hl] at hj
    rw [eqL_get hj, eq_two h0 hb hab hn (by simp [hj])]
    by_cases e : xs.getD j 0 = tp xs
    · rw [if_pos e]; exact .inr rfl
    · rw [if_neg e]; exact .inl rfl
  refine ⟨hv, ?_⟩
  have h0' : 0 < (eqL xs).length := by omega
  have hb' : ∀ j, j < (eqL xs).length → 0 ≤ (eqL xs).getD j 0 ∧ (eqL xs).getD j 0 ≤ 255 := fun j hj => by have := hv j hj; omega
  have hm' : ∀ y ∈ eqL xs, y = 0 ∨ y = 255 := fun y hy => by obtain ⟨j, hj, rfl⟩ := mem_getD hy; exact hv j hj
  obtain ⟨i0, hi0, e0⟩ := eq_zero h0 hb hn
  obtain ⟨i1, hi1, e1⟩ := eq_top h0 hb hn
  have ht : (tp (eqL xs) : Int) = 255 := by
    have h1 := tp_ge h0' hb' (x := 255) (by rw [← e1]; simp [hl, hi1])
    have h2 := tp_bd h0' hb'
    omega
  have hn' : ¬ oth (eqL xs) = 0 := by
    by_cases c : (eqL xs).getD 0 0 = 0
    · have := oth_pos h0' hb' (i := i1) (by omega) (by omega); omega
    · have := oth_pos h0' hb' (i := i0) (by omega) (by omega); omega
  refine List.ext_getElem (by simp [eqL]) fun j h1 h2 => ?_
  have h3 : (eqL (eqL xs)).getD j 0 = (eqL xs).getD j 0 := by
    rw [eqL_get h2, eq_two h0' hb' hm' hn' (by simp [h2]), ht]
    rcases hv j h2 with e | e
    · rw [e]; rfl
    · rw [e]; rfl
  simpa [h1, h2] using h3
/-- An image of one plane with two colors has two numbers. -/
theorem pal_two {W H : Nat} {xs : List Int} (hl : xs.length = W * H) (h2 : (acL 1 xs (W * H)).length = 2) : ∃ a b : Int, (∀ x ∈ xs, x = a ∨ x = b) ∧ ∃ i, i < xs.length ∧ ¬ xs.getD i 0 = xs.getD 0 0 := by
  have hrow : ∀ k, k < W * H → pxk 1 xs k = [xs.getD k 0] := fun k hk => by
    have hk' : k < xs.length := by omega
    refine list_eq (by rw [pxk_len (by omega)]; rfl) fun j hj => ?_
    rw [pxk_len (by omega)] at hj
    obtain rfl : j = 0 := by omega
    rw [pxk_get (by omega)]
    simp
  obtain ⟨r, s, hrs⟩ : ∃ r s, acL 1 xs (W * H) = [r, s] := by
    match h : acL 1 xs (W * H), h2 with
    | [r, s], _ => exact ⟨r, s, rfl⟩
  have hmr := acL_row (P := 1) (xs := xs) (k := W * H) (by omega) r (by rw [hrs]; simp)
  have hms := acL_row (P := 1) (xs := xs) (k := W * H) (by omega) s (by rw [hrs]; simp)
  obtain ⟨i, hi, er⟩ := hmr
  obtain ⟨k, hk, es⟩ := hms
  have hnd := acL_nodup 1 xs (W * H)
  rw [hrs] at hnd
  have hne : r ≠ s := by simpa using hnd
  rw [hrow i hi] at er
  rw [hrow k hk] at es
  refine ⟨xs.getD i 0, xs.getD k 0, fun x hx => ?_, ?_⟩
  · obtain ⟨j, hj, rfl⟩ := mem_getD hx
    have hm := acL_mem (P := 1) (xs := xs) (k := W * H) (j := j) (by omega)
    rw [hrs, hrow j (by omega), er, es] at hm
    simpa using hm
  · have hd : ¬ xs.getD i 0 = xs.getD k 0 := fun e => hne (by rw [er, es, e])
    by_cases c : xs.getD i 0 = xs.getD 0 0
    · exact ⟨k, by omega, fun e => hd (by rw [c, e])⟩
    · exact ⟨i, by omega, c⟩
theorem eqt_use (W H P : Int) (xs : List Int) (hx : xs.length ≤ 256) : ∃ (X Y Z : Int) (ys : List Int), ys.length ≤ 2000 ∧ Hid (ImC0 19 W H P xs X Y Z ys) ∧ Hid (ImC0 20 W H P xs X Y Z ys) ∧
    (X = 0 ∨ (¬ X = 0 ∧ ∃ (n : Nat) (ok : Bool), n ≤ 16 ∧ Hid (∀ (A : Option Addr) (c : Nat) (u : World), Rds .i64 u u.heap.size A xs → xs.length ≤ c → Calls Try.prog 14 #[.agg #[.int .i64 W, .int .i64 H, .int .i64 P, .slice A xs.length c]] u fun e w' => ∃ (A2 : Option Addr) (c2 : Nat), e = .returned (.tuple #[.slice A2 n c2, .bool ok]) ∧ n ≤ c2 ∧ Below u.heap.size u w') ∧
      (ok = false ∨ (ok = true ∧ ¬ n = 2) ∨ (ok = true ∧ n = 2 ∧ Hid (∀ i, i < ys.length → ys.getD i 0 = 0 ∨ ys.getD i 0 = 255) ∧ Hid (ImC0 19 X Y Z ys X Y Z ys))))) := by
  have h1 := iEq_C W H P xs (by omega)
  have h2 := sEq_C W H P xs (by omega)
  cases ho : vpl W H P xs
  · rw [ho] at h1 h2
    exact ⟨_, _, _, _, by simp, Lib.hid h1, Lib.hid h2, .inl rfl⟩
  · rw [ho] at h1 h2
    have hv := (vpl_parts ho).1
    have hb := bytes_of hv
    have h0 := vim_pos hv
    have hl : (eqL xs).length = xs.length := by simp [eqL]
    have hpn : (palL W H P xs).length ≤ 16 := by
      unfold palL
      cases hk : palOk W H P xs
      · exact Nat.zero_le _
      · unfold palOk at hk
        rw [Bool.and_eq_true, decide_eq_true_eq] at hk
        exact hk.2
    refine ⟨W, H, P, eqL xs, by omega, Lib.hid h1, Lib.hid h2, .inr ⟨vim_w hv, (palL W H P xs).length, palOk W H P xs, hpn, Lib.hid (fun A c u k1 k2 => (i_PaletteOf W H P A c xs u k1 (by omega) k2).mono fun e w' ⟨M, A2, c2, he, hc, hM, hG⟩ => ⟨A2, c2, he, hc, hG.below⟩), ?_⟩⟩
    cases hk : palOk W H P xs
    · exact .inl rfl
    · by_cases hn : (palL W H P xs).length = 2
      · refine .inr (.inr ⟨rfl, hn, ?_⟩)
        have hP : P = 1 := (vpl_parts ho).2
        obtain ⟨W, H, P', rfl, rfl, hP', _, _, _, _, _, _, hln, _⟩ := vim_nat hv
        subst hP
        have hn' : (acL 1 xs (W * H)).length = 2 := by
          have e : palL W H 1 xs = acL 1 xs (W * H) := by unfold palL; rw [hk]; rfl
          rw [← e]; exact hn
        have hP1 : P' = 1 := by omega
        rw [hP1, Nat.mul_one] at hln
        obtain ⟨a, b, hab, hne⟩ := pal_two hln hn'
        obtain ⟨k1, k2⟩ := eqt_law h0 hb hab hne
        refine ⟨Lib.hid k1, Lib.hid ?_⟩
        have h3 := iEq_C W H 1 (eqL xs) (by omega)
        have hv2 : vpl W H 1 (eqL xs) = true := vpl_mk ho (by simp [eqL]) (fun y hy => by
          obtain ⟨j, hj, rfl⟩ := mem_getD hy
          have := k1 j hj
          omega)
        rw [hv2, k2] at h3
        exact h3
      · exact .inr (.inl ⟨rfl, hn⟩)
end Go.Proofs.Ytjcohmljpokgcaa
