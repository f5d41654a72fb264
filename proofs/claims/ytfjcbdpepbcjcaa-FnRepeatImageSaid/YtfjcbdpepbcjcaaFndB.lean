/- Contract of gapBelow in the program. -/
import Derived.Test.YtfjcbdpepbcjcaaFndM
import Derived.Test.YtfjcbdpepbcjcaaGap
import Derived.Test.YtfjcbdpepbcjcaaGridD
import Derived.Test.YtfjcbdpepbcjcaaGenP
namespace Go.Proofs.Ytfjcbdpepbcjcaa
open Go.RowKit Go.Shelf
set_option linter.unusedSimpArgs false
set_option linter.unusedVariables false
set_option maxRecDepth 20000

theorem fdC_step {W P : Nat} {xs : List Int} {PW : Nat} {ps : List Int} {X0 Y0 R C : Nat} (hC : C < PW) : fdC W P xs PW ps X0 Y0 (R * PW + C + 1) = fdC W P xs PW ps X0 Y0 (R * PW + C) + cgN (pxc W P xs (X0 + C) (Y0 + R)) (pxc PW P ps C R) 4 := by
  show gapC _ _ _ _ + cgN (fun p => pxc W P xs _ _ p) _ 4 = _
  rw [row_mod hC, row_div hC]
  rfl
theorem pxc_in {W H P : Nat} {xs : List Int} (hl : xs.length = W * H * P) (hb : ∀ j, j < xs.length → 0 ≤ xs.getD j 0 ∧ xs.getD j 0 ≤ 255) {x y : Nat} (hx : x < W) (hy : y < H) : ∀ j, j < 4 → 0 ≤ pxc W P xs x y j ∧ pxc W P xs x y j ≤ 255 := by
  have h := pxc_b4 (k := y * W + x) hl hb (row_lt hx hy)
  rw [row_mod hx, row_div hx] at h
  exact h
theorem fdC_bd {W H P PW PH : Nat} {xs ps : List Int} (hl : xs.length = W * H * P) (hb : ∀ j, j < xs.length → 0 ≤ xs.getD j 0 ∧ xs.getD j 0 ≤ 255) (hp : ps.length = PW * PH * P) (hpb : ∀ j, j < ps.length → 0 ≤ ps.getD j 0 ∧ ps.getD j 0 ≤ 255) {x y : Nat} (hx : x + PW ≤ W) (hy : y + PH ≤ H) :
    ∀ k, k ≤ PW * PH → 0 ≤ fdC W P xs PW ps x y k ∧ fdC W P xs PW ps x y k ≤ 260100 * k
  | 0, _ => ⟨Int.le_refl _, by simp [fdC, gapC]⟩
  | k + 1, h => by
    have hPW : 0 < PW := Nat.pos_of_ne_zero (fun e => by rw [e, Nat.zero_mul] at h; omega)
    have ih := fdC_bd hl hb hp hpb hx hy k (by omega)
    have h1 : k % PW < PW := Nat.mod_lt _ hPW
    have h2 : k / PW < PH := (Nat.div_lt_iff_lt_mul hPW).mpr (by rw [Nat.mul_comm]; omega)
    have e := fdC_step (W := W) (P := P) (xs := xs) (ps := ps) (X0 := x) (Y0 := y) (R := k / PW) h1
    rw [show k / PW * PW + k % PW = k by rw [Nat.mul_comm]; exact Nat.div_add_mod k PW] at e
    have := cgN_bd (n := 4) (pxc_in hl hb (x := x + k % PW) (y := y + k / PW) (by omega) (by omega)) (pxc_in hp hpb h1 h2) 4 (Nat.le_refl _)
    omega
theorem fdC_mono {W H P PW PH : Nat} {xs ps : List Int} (hl : xs.length = W * H * P) (hb : ∀ j, j < xs.length → 0 ≤ xs.getD j 0 ∧ xs.getD j 0 ≤ 255) (hp : ps.length = PW * PH * P) (hpb : ∀ j, j < ps.length → 0 ≤ ps.getD j 0 ∧ ps.getD j 0 ≤ 255) {x y : Nat} (hx : x + PW ≤ W) (hy : y + PH ≤ H) (k : Nat) :
    ∀ m, k + m ≤ PW * PH → fdC W P xs PW ps x y k ≤ fdC W P xs PW ps x y (k + m)
  | 0, _ => Int.le_refl _
  | m + 1, h => by
    have hPW : 0 < PW := Nat.pos_of_ne_zero (fun e => by rw [e, Nat.zero_mul] at h; omega)
    have ih := fdC_mono hl hb hp hpb hx hy k m (by omega)
    have h1 : (k + m) % PW < PW := Nat.mod_lt _ hPW
    have h2 : (k + m) / PW < PH := (Nat.div_lt_iff_lt_mul hPW).mpr (by rw [Nat.mul_comm]; omega)
    have e := fdC_step (W := W) (P := P) (xs := xs) (ps := ps) (X0 := x) (Y0 := y) (R := (k + m) / PW) h1
    rw [show (k + m) / PW * PW + (k + m) % PW = k + m by rw [Nat.mul_comm]; exact Nat.div_add_mod (k + m) PW] at e
    have := cgN_bd (n := 4) (pxc_in hl hb (x := x + (k + m) % PW) (y := y + (k + m) / PW) (by omega) (by omega)) (pxc_in hp hpb h1 h2) 4 (Nat.le_refl _)
    rw [← Nat.add_assoc]
    omega
def GbR (g L : Int) (w : World) (e : Ending) (w' : World) : Prop := e = .returned (.tuple #[.int .i64 (if g < L then g else 0), .bool (decide (g < L))]) ∧ Below w.heap.size w w'
theorem GbR.yes {g L : Int} {w w' : World} {e : Ending} (h : g < L) (he : e = .returned (.tuple #[.int .i64 g, .bool true])) (hb : Below w.heap.size w w') : GbR g L w e w' := ⟨by rw [if_pos h, decide_eq_true h]; exact he, hb⟩
theorem GbR.no {g L : Int} {w w' : World} {e : Ending} (h : L ≤ g) (he : e = .returned (.tuple #[.int .i64 0, .bool false])) (hb : Below w.heap.size w w') : GbR g L w e w' := ⟨by rw [if_neg (by omega), decide_eq_false (by omega)]; exact he, hb⟩
set_option maxHeartbeats 16000000 in
theorem i_gapBelow (W H P X0 Y0 PW PH n n' : Nat) (L : Int) (hn : W * H = n) (hn' : PW * PH = n') (hW : W ≤ 16) (hH : H ≤ 16) (hP : P ≤ 4) (hpw : 1 ≤ PW) (hph : 1 ≤ PH) (hX : X0 + PW ≤ W) (hY : Y0 + PH ≤ H) (A A' : Option Addr) (c c' : Nat) (xs ps : List Int) (hl : xs.length = W * H * P) (hl' : ps.length = PW * PH * P)
    (hxb : ∀ j, j < xs.length → 0 ≤ xs.getD j 0 ∧ xs.getD j 0 ≤ 255) (hpb : ∀ j, j < ps.length → 0 ≤ ps.getD j 0 ∧ ps.getD j 0 ≤ 255) (w : World) (hx : Rds .i64 w w.heap.size A (img W H 4 (pxc W P xs))) (hy : Rds .i64 w w.heap.size A' (img PW PH 4 (pxc PW P ps))) (hc : n ≤ c) (hc' : n' ≤ c') :
    Calls Try.prog 32 #[.agg #[.int .i64 (W : Int), .int .i64 (H : Int), .slice A n c], .agg #[.int .i64 (PW : Int), .int .i64 (PH : Int), .slice A' n' c'], .int .i64 (X0 : Int), .int .i64 (Y0 : Int), .int .i64 L] w (GbR (fdV W P xs PW PH ps X0 Y0) L w) := by
  have HBd : Hid (∀ k, k ≤ PW * PH → 0 ≤ fdC W P xs PW ps X0 Y0 k ∧ fdC W P xs PW ps X0 Y0 k ≤ 260100 * k) := Lib.hid (fdC_bd hl hxb hl' hpb hX hY)
  have HMo : Hid (∀ k, k ≤ PW * PH → fdC W P xs PW ps X0 Y0 k ≤ fdV W P xs PW PH ps X0 Y0) := Lib.hid (fun k hk => by
    rw [fd_cells hP X0 Y0]
    have := fdC_mono hl hxb hl' hpb hX hY k (PW * PH - k) (by omega)
    rw [show k + (PW * PH - k) = PW * PH by omega] at this
    exact this)
  have HV : Hid (fdC W P xs PW ps X0 Y0 (PH * PW) = fdV W P xs PW PH ps X0 Y0) := Lib.hid (by rw [fd_cells hP X0 Y0, Nat.mul_comm])
  have HBX : Hid (∀ x y, x < W → y < H → ∀ j, j < 4 → 0 ≤ pxc W P xs x y j ∧ pxc W P xs x y j ≤ 255) := Lib.hid (fun x y h1 h2 => pxc_in hl hxb h1 h2)
  have HBY : Hid (∀ x y, x < PW → y < PH → ∀ j, j < 4 → 0 ≤ pxc PW P ps x y j ∧ pxc PW P ps x y j ≤ 255) := Lib.hid (fun x y h1 h2 => pxc_in hl' hpb h1 h2)
  have HRx : Hid (∀ wr, GS w wr [] [⟨w.heap.size + 1, 51, #[.int .i64 (PW : Int), .int .i64 (PH : Int), .slice A' n' c']⟩, ⟨w.heap.size, 51, #[.int .i64 (W : Int), .int .i64 (H : Int), .slice A n c]⟩] → Rds .i64 wr wr.heap.size A (img W H 4 (pxc W P xs))) := Lib.hid (fun wr h => h.arg hx)
  have HRy : Hid (∀ wr, GS w wr [] [⟨w.heap.size + 1, 51, #[.int .i64 (PW : Int), .int .i64 (PH : Int), .slice A' n' c']⟩, ⟨w.heap.size, 51, #[.int .i64 (W : Int), .int .i64 (H : Int), .slice A n c]⟩] → Rds .i64 wr wr.heap.size A' (img PW PH 4 (pxc PW P ps))) := Lib.hid (fun wr h => h.arg hy)
  have HS : Hid (GS w ((w.alloc (.cells #[.int .i64 (W : Int), .int .i64 (H : Int), .slice A n c] 51)).alloc (.cells #[.int .i64 (PW : Int), .int .i64 (PH : Int), .slice A' n' c'] 51)) [] [⟨w.heap.size + 1, 51, #[.int .i64 (PW : Int), .int .i64 (PH : Int), .slice A' n' c']⟩, ⟨w.heap.size, 51, #[.int .i64 (W : Int), .int .i64 (H : Int), .slice A n c]⟩]) := Lib.hid (((GS.start w).box' 51 #[.int .i64 (W : Int), .int .i64 (H : Int), .slice A n c] w.heap.size (by simp)).box' 51 #[.int .i64 (PW : Int), .int .i64 (PH : Int), .slice A' n' c'] (w.heap.size + 1) (by simp))
  obtain ⟨q0, q1, q2⟩ := HS.out.b0_3
  clear hx hy hxb hpb hl hl'
  go_enter Try.func32, Try.ntmps32
  go_wp2
  generalize (w.alloc (.cells #[.int .i64 (W : Int), .int .i64 (H : Int), .slice A n c] 51)).alloc (.cells #[.int .i64 (PW : Int), .int .i64 (PH : Int), .slice A' n' c'] 51) = u0 at *
  clear q0 q1 q2
  go_loopw [12, 17] (fun s r wr => ∃ R : Nat, R ≤ PH ∧ r = .int .i64 (R : Int) ∧ s = .int .i64 (fdC W P xs PW ps X0 Y0 (R * PW)) ∧ Hid (GS w wr [] [⟨w.heap.size + 1, 51, #[.int .i64 (PW : Int), .int .i64 (PH : Int), .slice A' n' c']⟩, ⟨w.heap.size, 51, #[.int .i64 (W : Int), .int .i64 (H : Int), .slice A n c]⟩] ∧ (0 < R * PW → fdC W P xs PW ps X0 Y0 (R * PW) < L))) (fun _ r _ => PH - (intOf r).toNat)
  case atStart => exact ⟨0, Nat.zero_le _, rfl, by rw [Nat.zero_mul]; rfl, Lib.hid ⟨HS.out, fun h => by rw [Nat.zero_mul] at h; exact absurd h (Nat.lt_irrefl _)⟩⟩
  case round =>
    clear HS
    obtain ⟨R, hR, rfl, rfl, HS⟩ := hrel
    rename World => wv
    by_cases hr1 : R < PH
    · obtain ⟨q0, q1, q2⟩ := HS.out.1.b0_3
      go_wp2
      clear q0 q1 q2
      go_loopw [12, 22] (fun s k wr => ∃ C : Nat, C ≤ PW ∧ k = .int .i64 (C : Int) ∧ s = .int .i64 (fdC W P xs PW ps X0 Y0 (R * PW + C)) ∧ Hid (GS w wr [] [⟨w.heap.size + 1, 51, #[.int .i64 (PW : Int), .int .i64 (PH : Int), .slice A' n' c']⟩, ⟨w.heap.size, 51, #[.int .i64 (W : Int), .int .i64 (H : Int), .slice A n c]⟩] ∧ (0 < R * PW + C → fdC W P xs PW ps X0 Y0 (R * PW + C) < L))) (fun _ k _ => PW - (intOf k).toNat)
      case atStart => exact ⟨0, Nat.zero_le _, rfl, rfl, HS⟩
      case round =>
        clear HS
        obtain ⟨C, hC, rfl, rfl, HS⟩ := hrel
        rename World => wr
        by_cases hc1 : C < PW
        · have S4 : Hid (GS w wr.drew _ _) := Lib.hid HS.out.1.drew
          obtain ⟨q0, q1, q2⟩ := HS.out.1.b0_3
          obtain ⟨m0, m1, m2⟩ := HS.out.1.b1_3
          have hbx := HBX.out (X0 + C) (Y0 + R) (by omega) (by omega)
          have hby := HBY.out C R hc1 hr1
          have HSt : Hid (fdC W P xs PW ps X0 Y0 (R * PW + C + 1) = fdC W P xs PW ps X0 Y0 (R * PW + C) + cgN (pxc W P xs (X0 + C) (Y0 + R)) (pxc PW P ps C R) 4) := Lib.hid (fdC_step hc1)
          have hkn : R * PW + C < PW * PH := row_lt hc1 hr1
          have hk256 : PW * PH ≤ 256 := by have := Nat.mul_le_mul (show PW ≤ 16 by omega) (show PH ≤ 16 by omega); omega
          have hb0 := HBd.out (R * PW + C) (by omega)
          have hb1 := HBd.out (R * PW + C + 1) (by omega)
          have hb2 := HSt.out
          have rw0 : IntKind.i64.wrap (fdC W P xs PW ps X0 Y0 (R * PW + C) + cgN (pxc W P xs (X0 + C) (Y0 + R)) (pxc PW P ps C R) 4) = fdC W P xs PW ps X0 Y0 (R * PW + C) + cgN (pxc W P xs (X0 + C) (Y0 + R)) (pxc PW P ps C R) 4 := IntWalk.i64_in _ (by omega)
          have rw1 : IntKind.i64.wrap ((X0 : Int) + (C : Int)) = (X0 : Int) + (C : Int) := IntWalk.i64_in _ (by omega)
          have rw2 : IntKind.i64.wrap ((Y0 : Int) + (R : Int)) = (Y0 : Int) + (R : Int) := IntWalk.i64_in _ (by omega)
          have hXc : (X0 : Int) + (C : Int) = ((X0 + C : Nat) : Int) := by omega
          have hYc : (Y0 : Int) + (R : Int) = ((Y0 + R : Nat) : Int) := by omega
          have HXc := Lib.hid hXc
          have HYc := Lib.hid hYc
          clear hb0 hb1 hb2 hXc hYc
          go_wp2_with fail
          go_upto_region 8 with fail
          refine wp_region_held_drew (S := (fun w' => w'.cell? ⟨w.heap.size, 0, none⟩ = some (.int .i64 (W : Int)) ∧ w'.cell? ⟨w.heap.size, 1, none⟩ = some (.int .i64 (H : Int)) ∧ w'.cell? ⟨w.heap.size, 2, none⟩ = some (.slice A n c) ∧ w'.cell? ⟨w.heap.size + 1, 0, none⟩ = some (.int .i64 (PW : Int)) ∧ w'.cell? ⟨w.heap.size + 1, 1, none⟩ = some (.int .i64 (PH : Int)) ∧ w'.cell? ⟨w.heap.size + 1, 2, none⟩ = some (.slice A' n' c'))) (by kernel_rfl) (by exact ⟨m0, m1, m2, q0, q1, q2⟩) (fun hHeld => ?_)
          refine' wpAnyH_take (i := 0) (oi := _) (v := _) ?hi1 (by kernel_rfl) (by kernel_rfl) (by kernel_rfl) ?hq1 (Or.inl ⟨?hw1, ?hy1⟩) (by assumption) ?rest1
          case hi1 => (simp only [List.getElem?_toArray, List.getElem?_cons_succ, List.getElem?_cons_zero]; rfl)
          case hq1 => exact fun _ _ _ h => h
          case hw1 => rfl
          case hy1 => (intro wq hSw; (try dsimp only at hSw); go_simp; (try with_reducible rfl))
          (try simp only [Act.put, List.setIfInBounds_toArray, List.set_cons_zero, List.set_cons_succ])
          refine' wpAnyH_take (i := 1) (oi := _) (v := _) ?hi2 (by kernel_rfl) (by kernel_rfl) (by kernel_rfl) ?hq2 (Or.inl ⟨?hw2, ?hy2⟩) (by assumption) ?rest2
          case hi2 => (simp only [List.getElem?_toArray, List.getElem?_cons_succ, List.getElem?_cons_zero]; rfl)
          case hq2 => exact fun _ _ _ h => h
          case hw2 => rfl
          case hy2 => (intro wq hSw; (try dsimp only at hSw); go_simp; (try with_reducible rfl))
          (try simp only [Act.put, List.setIfInBounds_toArray, List.set_cons_zero, List.set_cons_succ])
          refine' wpAnyH_take (i := 2) (oi := _) (v := _) ?hi3 (by kernel_rfl) (by kernel_rfl) (by kernel_rfl) ?hq3 (Or.inl ⟨?hw3, ?hy3⟩) (by assumption) ?rest3
          case hi3 => (simp only [List.getElem?_toArray, List.getElem?_cons_succ, List.getElem?_cons_zero]; rfl)
          case hq3 => exact fun _ _ _ h => h
          case hw3 => rfl
          case hy3 => (intro wq hSw; (try dsimp only at hSw); go_simp; (try with_reducible rfl))
          (try simp only [Act.put, List.setIfInBounds_toArray, List.set_cons_zero, List.set_cons_succ])
          refine' wpAnyH_take (i := 3) (oi := _) (v := _) ?hi4 (by kernel_rfl) (by kernel_rfl) (by kernel_rfl) ?hq4 (Or.inl ⟨?hw4, ?hy4⟩) (by assumption) ?rest4
          case hi4 => (simp only [List.getElem?_toArray, List.getElem?_cons_succ, List.getElem?_cons_zero]; rfl)
          case hq4 => exact fun _ _ _ h => h
          case hw4 => rfl
          case hy4 => (intro wq hSw; (try dsimp only at hSw); go_simp; (try with_reducible rfl))
          (try simp only [Act.put, List.setIfInBounds_toArray, List.set_cons_zero, List.set_cons_succ])
          refine' wpAnyH_take (i := 4) (oi := _) (v := _) ?hi5 (by kernel_rfl) (by kernel_rfl) (by kernel_rfl) ?hq5 (Or.inl ⟨?hw5, ?hy5⟩) (by assumption) ?rest5
          case hi5 => (simp only [List.getElem?_toArray, List.getElem?_cons_succ, List.getElem?_cons_zero]; rfl)
          case hq5 => exact fun _ _ _ h => h
          case hw5 => rfl
          case hy5 => (intro wq hSw; (try dsimp only at hSw); go_simp; (try with_reducible rfl))
          (try simp only [Act.put, List.setIfInBounds_toArray, List.set_cons_zero, List.set_cons_succ])
          refine' wpAnyH_take (i := 5) (oi := _) (v := _) ?hi6 (by kernel_rfl) (by kernel_rfl) (by kernel_rfl) ?hq6 (Or.inl ⟨?hw6, ?hy6⟩) (by assumption) ?rest6
          case hi6 => (simp only [List.getElem?_toArray, List.getElem?_cons_succ, List.getElem?_cons_zero]; rfl)
          case hq6 => exact fun _ _ _ h => h
          case hw6 => rfl
          case hy6 => (intro wq hSw; (try dsimp only at hSw); go_simp; (try with_reducible rfl))
          (try simp only [Act.put, List.setIfInBounds_toArray, List.set_cons_zero, List.set_cons_succ])
          refine' wpAnyH_take (i := 6) (oi := _) (v := _) ?hi7 (by kernel_rfl) (by kernel_rfl) (by kernel_rfl) ?hq7 (Or.inl ⟨?hw7, ?hy7⟩) (by assumption) ?rest7
          case hi7 => (simp only [List.getElem?_toArray, List.getElem?_cons_succ, List.getElem?_cons_zero]; rfl)
          case hq7 => exact fun _ _ _ h => h
          case hw7 => rfl
          case hy7 => (intro wq hSw; (try dsimp only at hSw); go_simp; (try with_reducible rfl))
          (try simp only [Act.put, List.setIfInBounds_toArray, List.set_cons_zero, List.set_cons_succ])
          refine' wpAnyH_take (i := 7) (oi := _) (v := _) ?hi8 (by kernel_rfl) (by kernel_rfl) (by kernel_rfl) ?hq8 (Or.inl ⟨?hw8, ?hy8⟩) (by assumption) ?rest8
          case hi8 => (simp only [List.getElem?_toArray, List.getElem?_cons_succ, List.getElem?_cons_zero]; rfl)
          case hq8 => exact fun _ _ _ h => h
          case hw8 => rfl
          case hy8 => (intro wq hSw; (try dsimp only at hSw); go_simp; (try with_reducible rfl))
          (try simp only [Act.put, List.setIfInBounds_toArray, List.set_cons_zero, List.set_cons_succ])
          refine' wpAnyH_take (i := 9) (oi := _) (v := _) ?hi9 (by kernel_rfl) (by kernel_rfl) (by kernel_rfl) ?hq9 (Or.inl ⟨?hw9, ?hy9⟩) (by assumption) ?rest9
          case hi9 => (simp only [List.getElem?_toArray, List.getElem?_cons_succ, List.getElem?_cons_zero]; rfl)
          case hq9 => exact fun _ _ _ h => h
          case hw9 => rfl
          case hy9 => (intro wq hSw; (try dsimp only at hSw); go_simp; (try with_reducible rfl))
          (try simp only [Act.put, List.setIfInBounds_toArray, List.set_cons_zero, List.set_cons_succ])
          refine' wpAnyH_take (i := 10) (oi := _) (v := _) ?hi10 (by kernel_rfl) (by kernel_rfl) (by kernel_rfl) ?hq10 (Or.inl ⟨?hw10, ?hy10⟩) (by assumption) ?rest10
          case hi10 => (simp only [List.getElem?_toArray, List.getElem?_cons_succ, List.getElem?_cons_zero]; rfl)
          case hq10 => exact fun _ _ _ h => h
          case hw10 => rfl
          case hy10 => (intro wq hSw; (try dsimp only at hSw); go_simp; (try with_reducible rfl))
          (try simp only [Act.put, List.setIfInBounds_toArray, List.set_cons_zero, List.set_cons_succ])
          refine' wpAnyH_take (i := 11) (oi := _) (v := _) ?hi11 (by kernel_rfl) (by kernel_rfl) (by kernel_rfl) ?hq11 (Or.inl ⟨?hw11, ?hy11⟩) (by assumption) ?rest11
          case hi11 => (simp only [List.getElem?_toArray, List.getElem?_cons_succ, List.getElem?_cons_zero]; rfl)
          case hq11 => exact fun _ _ _ h => h
          case hw11 => rfl
          case hy11 => (intro wq hSw; (try dsimp only at hSw); go_simp; (try with_reducible rfl))
          (try simp only [Act.put, List.setIfInBounds_toArray, List.set_cons_zero, List.set_cons_succ])
          refine wpAnyH_ready (rs := [8]) (by kernel_rfl) (by simp) ?_
          refine' AllReadyH.cons (o := _) ?hi12 (fun K hK => ?rest12) AllReadyH.nil
          case hi12 => (simp only [List.getElem?_toArray, List.getElem?_cons_succ, List.getElem?_cons_zero]; rfl)
          go_simp
          go_at_call 45
          rw [HXc.out, HYc.out]
          refine (at_n W H n hn hW hH A c (pxc W P xs) (X0 + C) (Y0 + R) (by omega) (by omega) _ (HRx.out wr.drew S4.out) hc).mono ?_
          rintro e W5 ⟨rfl, hB⟩
          have S5 := Lib.hid (S4.out.call hB)
          clear hB
          obtain ⟨q50, q51, q52⟩ := S5.out.b0_3
          obtain ⟨m50, m51, m52⟩ := S5.out.b1_3
          refine hK.out _ _ (by (try dsimp only); exact ⟨m50, m51, m52, q50, q51, q52⟩) (fun hHeld => ?_)
          clear hK K
          (try simp only [Act.put, List.setIfInBounds_toArray, List.set_cons_zero, List.set_cons_succ])
          refine wpAnyH_ready (rs := [12]) (by kernel_rfl) (by simp) ?_
          refine' AllReadyH.cons (o := _) ?hi13 (fun K hK => ?rest13) AllReadyH.nil
          case hi13 => (simp only [List.getElem?_toArray, List.getElem?_cons_succ, List.getElem?_cons_zero]; rfl)
          go_simp
          go_at_call 45
          refine (at_n PW PH n' hn' (by omega) (by omega) A' c' (pxc PW P ps) C R hc1 hr1 _ (HRy.out W5 S5.out) hc').mono ?_
          rintro e W6 ⟨rfl, hB⟩
          have S6 := Lib.hid (S5.out.call hB)
          clear hB
          obtain ⟨q60, q61, q62⟩ := S6.out.b0_3
          obtain ⟨m60, m61, m62⟩ := S6.out.b1_3
          refine hK.out _ _ (by (try dsimp only); exact ⟨m60, m61, m62, q60, q61, q62⟩) (fun hHeld => ?_)
          clear hK K
          (try simp only [Act.put, List.setIfInBounds_toArray, List.set_cons_zero, List.set_cons_succ])
          refine wpAnyH_ready (rs := [13]) (by kernel_rfl) (by simp) ?_
          refine' AllReadyH.cons (o := _) ?hi14 (fun K hK => ?rest14) AllReadyH.nil
          case hi14 => (simp only [List.getElem?_toArray, List.getElem?_cons_succ, List.getElem?_cons_zero]; rfl)
          go_simp
          go_at_call 47
          refine (icg_any (pxc W P xs (X0 + C) (Y0 + R)) (pxc PW P ps C R) hbx hby _).mono ?_
          rintro e W7 ⟨rfl, hB⟩
          have S7 := Lib.hid (S6.out.call hB)
          clear hB
          obtain ⟨q70, q71, q72⟩ := S7.out.b0_3
          obtain ⟨m70, m71, m72⟩ := S7.out.b1_3
          refine hK.out _ _ (by (try dsimp only); exact ⟨m70, m71, m72, q70, q71, q72⟩) (fun hHeld => ?_)
          clear hK K
          (try simp only [Act.put, List.setIfInBounds_toArray, List.set_cons_zero, List.set_cons_succ])
          refine' wpAnyH_take (i := 14) (oi := _) (v := _) ?hi15 (by kernel_rfl) (by kernel_rfl) (by kernel_rfl) ?hq15 (Or.inl ⟨?hw15, ?hy15⟩) (by assumption) ?rest15
          case hi15 => (simp only [List.getElem?_toArray, List.getElem?_cons_succ, List.getElem?_cons_zero]; rfl)
          case hq15 => exact fun _ _ _ h => h
          case hw15 => rfl
          case hy15 => (intro wq hSw; (try dsimp only at hSw); go_simp; (try with_reducible rfl))
          (try simp only [Act.put, List.setIfInBounds_toArray, List.set_cons_zero, List.set_cons_succ])
          refine' wpAnyH_take (i := 15) (oi := _) (v := _) ?hi16 (by kernel_rfl) (by kernel_rfl) (by kernel_rfl) ?hq16 (Or.inl ⟨?hw16, ?hy16⟩) (by assumption) ?rest16
          case hi16 => (simp only [List.getElem?_toArray, List.getElem?_cons_succ, List.getElem?_cons_zero]; rfl)
          case hq16 => exact fun _ _ _ h => h
          case hw16 => rfl
          case hy16 => (intro wq hSw; (try dsimp only at hSw); go_simp; (try with_reducible rfl))
          (try simp only [Act.put, List.setIfInBounds_toArray, List.set_cons_zero, List.set_cons_succ])
          refine wpAnyH_done (by kernel_rfl) ?_ _
          clear m0 m1 m2 q0 q1 q2 S4 S5 S6
          by_cases hg : L ≤ fdC W P xs PW ps X0 Y0 (R * PW + C) + cgN (pxc W P xs (X0 + C) (Y0 + R)) (pxc PW P ps C R) 4
          rotate_left
          · have hg' : fdC W P xs PW ps X0 Y0 (R * PW + C) + cgN (pxc W P xs (X0 + C) (Y0 + R)) (pxc PW P ps C R) 4 < L := by omega
            go_wp2
            go_roundw
            case rel => exact ⟨C + 1, by omega, by go_num, by rw [show R * PW + (C + 1) = R * PW + C + 1 from rfl, HSt.out], Lib.hid ⟨S7.out, fun _ => by rw [show R * PW + (C + 1) = R * PW + C + 1 from rfl, HSt.out]; exact hg'⟩⟩
            case measure => simp [intOf]; omega
          · have hno : L ≤ fdV W P xs PW PH ps X0 Y0 := by have h1 := HMo.out (R * PW + C + 1) (by omega); rw [HSt.out] at h1; omega
            have HNo := Lib.hid hno
            clear hno
            go_wp2
            exact bodyPost_ret (v := .tuple #[.int .i64 0, .bool false]) (by simp [results, Try.results32, go_sem]) rfl (GbR.no HNo.out rfl S7.out.below)
        · have e : C = PW := by omega
          subst e
          go_wp2
          go_roundw
          case rel => exact ⟨R + 1, by omega, by go_num, by rw [Nat.succ_mul], by rw [Nat.succ_mul]; exact HS⟩
          case measure => simp [intOf]; omega
    · have e : R = PH := by omega
      subst e
      have hlt : fdV W P xs PW R ps X0 Y0 < L := by rw [← HV.out]; exact HS.out.2 (Nat.mul_pos hph hpw)
      have HV' := HV
      have HLt := Lib.hid hlt
      clear hlt
      go_wp2
      exact bodyPost_ret (v := .tuple #[.int .i64 (fdC W P xs PW ps X0 Y0 (R * PW)), .bool true]) (by simp [results, Try.results32, go_sem]) rfl (GbR.yes HLt.out (by rw [HV'.out]) HS.out.1.below)
end Go.Proofs.Ytfjcbdpepbcjcaa
