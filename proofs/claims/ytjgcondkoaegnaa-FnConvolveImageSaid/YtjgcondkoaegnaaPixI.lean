/- Contracts of PixelAt in the program and in the model: the numbers of a pixel, as a slice that can be read. -/
import Derived.Test.YtjgcondkoaegnaaGridF
import Derived.Test.YtjgcondkoaegnaaSpecP
namespace Go.Proofs.Ytjgcondkoaegnaa
open Go.RowKit Go.Shelf
set_option linter.unusedSimpArgs false
set_option linter.unusedVariables false

/-- Whether a pixel is on an image. -/
def onIm (W H x y : Int) : Bool := decide (0 ≤ x ∧ x ≤ W - 1) && decide (0 ≤ y ∧ y ≤ H - 1)
/-- The numbers that PixelAt answers. -/
def pxv (W H P : Int) (xs : List Int) (x y : Int) : List Int := cond (vim W H P xs && onIm W H x y) (pxl W.toNat P.toNat xs x.toNat y.toNat) []
/-- The call answered a slice that reads as the numbers; nothing that existed has changed. -/
def Shows (xs : List Int) (w : World) (e : Ending) (w' : World) : Prop :=
  ∃ A c, e = .returned (.slice A xs.length c) ∧ xs.length ≤ c ∧ Rds .i64 w' w'.heap.size A xs ∧ Below w.heap.size w w'
theorem Shows.of_made {xs : List Int} {w : World} {e : Ending} {w' : World} (h : ∃ v, e = .returned v ∧ Own w' w.heap.size v xs ∧ Below w.heap.size w w') : Shows xs w e w' := by
  obtain ⟨v, rfl, hO, hB⟩ := h
  obtain ⟨A, c, rfl, hc⟩ := hO.slice
  exact ⟨A, c, rfl, hc, hO.rds.2, hB⟩
theorem Shows.nil {w w' : World} (h : Below w.heap.size w w') : Shows [] w (.returned (.slice none 0 0)) w' := ⟨none, 0, rfl, Nat.le_refl _, .inl rfl, h⟩
set_option maxHeartbeats 4000000 in
theorem iPlace_any (W H P : Int) (v : Value) (x y : Int) (hW : 0 ≤ W ∧ W ≤ 1000) (hH : 0 ≤ H ∧ H ≤ 1000) (w : World) :
    Calls Try.prog 52 #[.agg #[.int .i64 W, .int .i64 H, .int .i64 P, v], .int .i64 x, .int .i64 y] w fun e w' => e = .returned (.bool (onIm W H x y)) ∧ Below w.heap.size w w' := by
  have HB := Lib.hid ((Below.refl w.heap.size w).alloc (Nat.le_refl _) (.cells #[.int .i64 W, .int .i64 H, .int .i64 P, v] 29))
  obtain ⟨hW0, hW1⟩ := hW
  obtain ⟨hH0, hH1⟩ := hH
  have HV : Hid (onIm W H x y = (decide (0 ≤ x ∧ x ≤ W - 1) && decide (0 ≤ y ∧ y ≤ H - 1))) := Lib.hid rfl
  cases h1 : decide (0 ≤ x ∧ x ≤ W - 1) <;> cases h2 : decide (0 ≤ y ∧ y ≤ H - 1)
  all_goals
    have HR : Hid (onIm W H x y = _) := Lib.hid (show onIm W H x y = (decide (0 ≤ x ∧ x ≤ W - 1) && decide (0 ≤ y ∧ y ≤ H - 1)) from rfl)
    rw [h1, h2] at HR
    have H1 := Lib.hid h1
    have H2 := Lib.hid h2
    clear HV h1 h2
    go_enter Try.func52, Try.ntmps52
    go_wp2_with fail
    first | refine (iIn_any x 0 (W - 1) _).mono ?_ | refine (sIn_any x 0 (W - 1) _).mono ?_
    rintro e w' ⟨rfl, rfl⟩
    rw [H1.out]
    go_wp2_with fail
    try ((first | refine (iIn_any y 0 (H - 1) _).mono ?_ | refine (sIn_any y 0 (H - 1) _).mono ?_); rintro e w' ⟨rfl, rfl⟩; rw [H2.out]; go_wp2_with fail)
    go_ret
    exact ⟨ret_bool (by rw [HR.out] <;> rfl), HB.out⟩
theorem slice_col3 (P : Nat) (hP : P ≤ 4) (g : Nat) (W : World) : (Instr.sliceAt 72 (Value.pointer (some ⟨g, 0, none⟩)) none (some (Value.int .i64 (P : Int))) (some (Value.int .i64 (P : Int)))).run Try.prog W = .ok (.slice (some ⟨g, 0, none⟩) P P) W := by
  have h : P = 0 ∨ P = 1 ∨ P = 2 ∨ P = 3 ∨ P = 4 := by omega
  rcases h with rfl | rfl | rfl | rfl | rfl
  all_goals
    go_simp
set_option maxHeartbeats 2000000 in
theorem pixelOf_any (c : Nat → Int) (P : Nat) (hP : P ≤ 4) (w : World) :
    Calls Try.prog 53 #[colV c, .int .i64 (P : Int)] w fun e w' => e = .returned (.slice (some ⟨w.heap.size, 0, none⟩) P P) ∧ Bx w' w.heap.size 72 #[.int .i64 (c 0), .int .i64 (c 1), .int .i64 (c 2), .int .i64 (c 3)] ∧ Below w.heap.size w w' := by
  have HX := Lib.hid (Bx.new w 72 #[.int .i64 (c 0), .int .i64 (c 1), .int .i64 (c 2), .int .i64 (c 3)])
  have HB := Lib.hid ((Below.refl w.heap.size w).alloc (Nat.le_refl _) (.cells #[.int .i64 (c 0), .int .i64 (c 1), .int .i64 (c 2), .int .i64 (c 3)] 72))
  have hs := slice_col3 P hP w.heap.size
  unfold colV
  go_enter Try.func53, Try.ntmps53
  go_wp2
  go_ret
  exact ⟨rfl, HX.out, HB.out⟩
theorem bx_rds {w : World} {g : Nat} {c : Nat → Int} {P : Nat} (hP : P ≤ 4) (h : Bx w g 72 #[.int .i64 (c 0), .int .i64 (c 1), .int .i64 (c 2), .int .i64 (c 3)]) : Rds .i64 w w.heap.size (some ⟨g, 0, none⟩) ((List.range P).map c) := by
  refine .inr ⟨g, 0, rfl, h.lt, fun j hj => ?_⟩
  simp at hj
  obtain ⟨a0, a1, a2, a3⟩ := bx4 h
  have e : ((List.range P).map c).getD j 0 = c j := by simp [hj]
  rw [e, Nat.zero_add]
  have : j = 0 ∨ j = 1 ∨ j = 2 ∨ j = 3 := by omega
  rcases this with rfl | rfl | rfl | rfl
  · exact a0
  · exact a1
  · exact a2
  · exact a3
theorem pxc_row (W P : Nat) (xs : List Int) (x y : Nat) : (List.range P).map (pxc W P xs x y) = pxl W P xs x y := by
  unfold pxl
  apply List.map_congr_left
  intro p hp
  exact img_pxc (H := 0) (List.mem_range.1 hp)
theorem on_nat {W H : Nat} {x y : Int} (h : onIm W H x y = true) : ∃ a b : Nat, x = a ∧ y = b ∧ a < W ∧ b < H := by
  simp only [onIm, Bool.and_eq_true, decide_eq_true_eq] at h
  obtain ⟨⟨h1, h2⟩, h3, h4⟩ := h
  obtain ⟨a, rfl⟩ := Int.eq_ofNat_of_zero_le h1
  obtain ⟨b, rfl⟩ := Int.eq_ofNat_of_zero_le h3
  exact ⟨a, b, rfl, rfl, by omega, by omega⟩
set_option maxHeartbeats 8000000 in
theorem i_PixelAtV (W H P : Int) (A : Option Addr) (c : Nat) (xs : List Int) (x y : Int) (w : World) (hx : Rds .i64 w w.heap.size A xs) (hl : xs.length ≤ 2000000) (hlc : xs.length ≤ c) :
    Calls Try.prog 20 #[.agg #[.int .i64 W, .int .i64 H, .int .i64 P, .slice A xs.length c], .int .i64 x, .int .i64 y] w fun e w' => Below w.heap.size w w' ∧ ((e = .returned (.slice none 0 0) ∧ pxv W H P xs x y = []) ∨ ∃ (g p : Nat) (F : Nat → Int), e = .returned (.slice (some ⟨g, 0, none⟩) p p) ∧ 1 ≤ p ∧ p ≤ 4 ∧ pxv W H P xs x y = (List.range p).map F ∧ w.heap.size ≤ g ∧ Bx w' g 72 #[.int .i64 (F 0), .int .i64 (F 1), .int .i64 (F 2), .int .i64 (F 3)]) := by
  obtain ⟨u0, hu⟩ : ∃ u0, u0 = w.alloc (.cells #[.int .i64 W, .int .i64 H, .int .i64 P, .slice A xs.length c] 29) := ⟨_, rfl⟩
  have Hsz : Hid (u0.heap.size = w.heap.size + 1) := Lib.hid (by rw [hu]; simp)
  have HB0 : Hid (Below w.heap.size w u0) := Lib.hid (by rw [hu]; exact (Below.refl w.heap.size w).alloc (Nat.le_refl _) _)
  have HM0 : Hid (Bx u0 w.heap.size 29 (imC W H P (.slice A xs.length c))) := Lib.hid (by rw [hu]; exact Bx.new w 29 _)
  have Hx := Lib.hid ((hx.below HB0.out).more (by have := Hsz.out; omega : w.heap.size ≤ u0.heap.size))
  have HU := Lib.hid hu
  have HP : Hid (pxv W H P xs x y = cond (vim W H P xs && onIm W H x y) (pxl W.toNat P.toNat xs x.toNat y.toNat) []) := Lib.hid rfl
  clear hx hu
  obtain ⟨m0, m1, m2, m3⟩ := HM0.out.im
  go_enter Try.func20, Try.ntmps20
  go_wp2_with fail
  rw [← HU.out]
  clear HU m0 m1 m2 m3
  refine (iVimg_any W H P A c xs u0 Hx.out hl).mono ?_
  rintro e u1 ⟨rfl, hB⟩
  have hM := HM0.out.below hB
  have hB1 := HB0.out.trans (hB.mono (by have := Hsz.out; omega))
  have hsz1 : w.heap.size + 1 ≤ u1.heap.size := by have := Hsz.out; have := hB.size; omega
  have Hx1 := Lib.hid ((Hx.out.belowTo hB (Nat.le_refl _)).more hB.size)
  have hlt1 : w.heap.size < u1.heap.size := by omega
  clear hB Hx HB0 HM0 Hsz
  cases hv : vim W H P xs
  · have HE : Hid (pxv W H P xs x y = []) := Lib.hid (by rw [HP.out, hv]; rfl)
    have HB1 := Lib.hid hB1
    clear hM hB1 HP
    go_wp2
    go_ret
    exact ⟨HB1.out, .inl ⟨rfl, HE.out⟩⟩
  · obtain ⟨W, H, P, rfl, rfl, rfl, hW1, hW, hH1, hH, hP1, hP, hln, hby⟩ := vim_nat hv
    have HLn := Lib.hid hln
    have HV := Lib.hid hv
    obtain ⟨m0, m1, m2, m3⟩ := hM.im
    have HB1 := Lib.hid hB1
    clear hv hln hby hB1
    go_wp2_with fail
    refine (iPlace_any W H P _ x y ⟨by omega, by omega⟩ ⟨by omega, by omega⟩ u1).mono ?_
    rintro e u2 ⟨rfl, hB2⟩
    have HBo := Lib.hid (HB1.out.trans (hB2.mono (by omega)))
    obtain ⟨k0, k1, k2, k3⟩ := keep4 hB2 (by exact hlt1) m0 m1 m2 m3
    have Hx2 := Lib.hid ((Hx1.out.belowTo hB2 (Nat.le_refl _)).more hB2.size)
    have hz2 : w.heap.size < u2.heap.size := by have := hB2.size; omega
    clear hM m0 m1 m2 m3 hB2
    cases ho : onIm W H x y
    · have HE : Hid (pxv W H P xs x y = []) := Lib.hid (by rw [HP.out, ho]; simp)
      clear ho HP
      go_wp2
      go_ret
      exact ⟨HBo.out, .inl ⟨rfl, HE.out⟩⟩
    · have HE : Hid (pxv W H P xs x y = pxl W P xs x.toNat y.toNat) := Lib.hid (by rw [HP.out, ho, HV.out]; simp)
      obtain ⟨a, b, rfl, rfl, ha, hb⟩ := on_nat ho
      have HE : Hid (pxv W H P xs (a : Int) (b : Int) = (List.range P).map (pxc W P xs a b)) := Lib.hid (by rw [HE.out, pxc_row]; rfl)
      clear ho HP
      go_wp2
      go_region_held3 (fun w' => w'.cell? ⟨w.heap.size, 0, none⟩ = some (.int .i64 (W : Int)) ∧ w'.cell? ⟨w.heap.size, 1, none⟩ = some (.int .i64 (H : Int)) ∧ w'.cell? ⟨w.heap.size, 2, none⟩ = some (.int .i64 (P : Int)) ∧ w'.cell? ⟨w.heap.size, 3, none⟩ = some (.slice A xs.length c))
        (first | (with_reducible exact ⟨c0, c1, c2, c3⟩) | (with_reducible exact ⟨e0, e1, e2, e3⟩) | (with_reducible exact ⟨d0, d1, d2, d3⟩) | exact ⟨k0, k1, k2, k3⟩ | go_keep)
        (first | (go_at_call 54; refine (gridOf_any W H P hW hH hP1 hP hW1 hH1 A c xs HLn.out hlc _ (by exact Hx2.out)).mono ?_; rintro e w2 ⟨v2, rfl, hO2, hB2⟩; obtain ⟨A2, c2, rfl, hc2⟩ := hO2.slice; obtain ⟨d0, d1, d2, d3⟩ := keep4 hB2 (by exact hz2) k0 k1 k2 k3; have HB2 : Hid (Below u2.heap.size u2 w2) := Lib.hid ((Below.refl u2.heap.size u2).drew.trans hB2); have hz3 : w.heap.size < w2.heap.size := (by have h := HB2.out.size; omega); have HR2 := Lib.hid hO2.rds; clear hO2 hB2) | (go_at_call 55; refine (at_any W H hW hH A2 c2 (pxc W P xs) a b ha hb _ (by exact HR2.out) hc2).mono ?_; rintro e w3 ⟨rfl, hB3⟩; obtain ⟨e0, e1, e2, e3⟩ := keep4 hB3 (by exact hz3) d0 d1 d2 d3; have HB3 : Hid (Below u2.heap.size u2 w3) := Lib.hid (HB2.out.trans (hB3.mono HB2.out.size)); have hz4 : w.heap.size < w3.heap.size := (by have h := HB3.out.size; omega); clear hB3) | (go_at_call 53; refine (pixelOf_any (pxc W P xs a b) P hP _).mono ?_; rintro e w4 ⟨rfl, hX4, hB4⟩; obtain ⟨c0, c1, c2, c3⟩ := keep4 hB4 (by exact hz4) e0 e1 e2 e3; have HX4 := Lib.hid hX4; have HB4 : Hid (Below w.heap.size w w4) := Lib.hid (HBo.out.trans ((HB3.out.trans (hB4.mono HB3.out.size)).mono (by omega))); clear hX4 hB4))
      all_goals
        clear d0 d1 d2 d3 e0 e1 e2 e3 k0 k1 k2 k3
        go_wp2
        go_ret
        exact ⟨HB4.out, .inr ⟨_, P, _, rfl, hP1, hP, HE.out, by omega, HX4.out⟩⟩
theorem i_PixelAt (W H P : Int) (A : Option Addr) (c : Nat) (xs : List Int) (x y : Int) (w : World) (hx : Rds .i64 w w.heap.size A xs) (hl : xs.length ≤ 2000000) (hlc : xs.length ≤ c) :
    Calls Try.prog 20 #[.agg #[.int .i64 W, .int .i64 H, .int .i64 P, .slice A xs.length c], .int .i64 x, .int .i64 y] w (Shows (pxv W H P xs x y) w) := by
  refine (i_PixelAtV W H P A c xs x y w hx hl hlc).mono ?_
  rintro e w' ⟨hB, ⟨rfl, h⟩ | ⟨g, p, F, rfl, hp1, hp4, h, hg, hX⟩⟩
  · rw [h]; exact Shows.nil hB
  · rw [h]
    refine ⟨_, p, by simp, by simp, bx_rds hp4 hX, hB⟩
end Go.Proofs.Ytjgcondkoaegnaa
