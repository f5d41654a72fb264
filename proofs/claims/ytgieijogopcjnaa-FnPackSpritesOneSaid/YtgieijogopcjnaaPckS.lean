/- The model's tallFirst. -/
import Derived.Test.YtgieijogopcjnaaPckM
import Derived.BigQuiet
import Derived.Deep.RegionHeld3
namespace Go.Proofs.Ytgieijogopcjnaa
open Go.RowKit
set_option linter.unusedSimpArgs false
set_option linter.unusedVariables false
set_option maxRecDepth 20000

theorem rds_dropP {w : World} {B b : Nat} {xs : List Int} (h : Rds .i64 w B (some ⟨b, 0, none⟩) xs) (m : Nat) : Rds .i64 w B (some ⟨b, m, none⟩) (xs.drop m) := by
  rcases h with h | ⟨g, o, he, hg, hc⟩
  · exact .inl (by rw [h]; simp)
  · cases he
    refine .inr ⟨b, m, rfl, hg, fun j hj => ?_⟩
    have hj' : m + j < xs.length := by simp at hj; omega
    have := hc (m + j) hj'
    rw [Nat.zero_add] at this
    rw [this]
    simp [List.getD_eq_getElem?_getD, List.getElem?_drop]
theorem rds_nilP {w : World} {B b : Nat} {xs : List Int} {m : Nat} (h : Rds .i64 w B (some ⟨b, 0, none⟩) xs) (hm : xs.length ≤ m) : Rds .i64 w B (some ⟨b, 0, none⟩) (xs.drop m) := .inl (List.drop_eq_nil_of_le hm)
theorem cap_le {w : World} {base n c : Nat} {A : Option Addr} {xs : List Int} (h : Own w base (.slice A n c) xs) : n ≤ c := by
  obtain ⟨A', c', e, hc⟩ := h.slice
  injection e with _ e1 e2
  omega
theorem dnP {B : Nat} {a w : World} (h : Below B a w) (n : Nat) : Below B a (w.drewN n) := ⟨h.os, h.tape, h.output, h.size, h.block⟩
set_option maxHeartbeats 1000000 in
theorem s_tallFirst (A : Option Addr) (n c : Nat) (xs : List Int) (w : World) (hx : xs.length = 2 * n) (h : Rds .i64 w w.heap.size A xs) (hl : n ≤ 100) :
    Calls Try.prog 35 #[.slice A n c] w (Made (tfO xs n) w) := by
  have HX := Lib.hid h
  have HLx := Lib.hid hx
  have HI0 : Hid (Own (w.alloc (.cells #[] 3)) w.heap.size (.slice (some ⟨w.heap.size, 0, none⟩) 0 0) (tfO xs 0) ∧ Below w.heap.size w (w.alloc (.cells #[] 3))) := Lib.hid ⟨own_none w, (Below.refl _ _).alloc (Nat.le_refl _) _⟩
  clear h hx
  go_enter Try.func35, Try.ntmps35
  go_wp2
  go_loopw [3, 4] (fun v i wr => ∃ k g cc : Nat, (k ≤ n ∧ k ≤ cc) ∧ i = .int .i64 (k : Int) ∧ v = .slice (some ⟨g, 0, none⟩) k cc ∧ Hid (Own wr w.heap.size (.slice (some ⟨g, 0, none⟩) k cc) (tfO xs k) ∧ Below w.heap.size w wr)) (fun _ i _ => n - (intOf i).toNat)
  case atStart => exact ⟨0, w.heap.size, 0, by omega, rfl, rfl, HI0⟩
  case round =>
    clear HI0
    obtain ⟨k, g, cc, ⟨hk, hkc⟩, rfl, rfl, hI⟩ := hrel
    rename World => wr
    by_cases hlt : k < n
    · have hkI : (k : Int) < (n : Int) := by omega
      obtain ⟨out, hout⟩ : ∃ o, o = tfO xs k := ⟨_, rfl⟩
      have HLo : Hid (out.length = k) := Lib.hid (by rw [hout]; exact tfO_len xs k)
      have HGet : Hid (∀ j, j < k → ∃ q : Nat, q < k ∧ out.getD j 0 = (q : Int)) := Lib.hid (fun j hj => by rw [hout]; exact tfO_get xs hj)
      have HStep : Hid (tfO xs (k + 1) = out.take (tfP xs (hgt xs k) out k) ++ [(k : Int)] ++ out.drop (tfP xs (hgt xs k) out k)) := Lib.hid (by
        have e := HLo.out
        rw [hout] at e ⊢
        show (tfO xs k).take (tfP xs (hgt xs k) (tfO xs k) (tfO xs k).length) ++ [(k : Int)] ++ (tfO xs k).drop (tfP xs (hgt xs k) (tfO xs k) (tfO xs k).length) = _
        rw [e])
      rw [← hout] at hI
      clear hout
      obtain ⟨P, hP⟩ : ∃ P, P = tfP xs (hgt xs k) out k := ⟨_, rfl⟩
      have hPk : P ≤ k := by rw [hP]; exact tfP_le _ _ _ _
      rw [← hP] at HStep
      have HP := Lib.hid hP
      clear hP
      go_wp2
      go_loopw [5] (fun a wq => ∃ z : Nat, z ≤ k ∧ a = .int .i64 (z : Int) ∧ Hid (tfP xs (hgt xs k) out z = P) ∧ Hid (Own wq w.heap.size (.slice (some ⟨g, 0, none⟩) k cc) out ∧ Below w.heap.size w wq)) (fun a _ => (intOf a).toNat)
      case atStart => exact ⟨k, Nat.le_refl _, rfl, Lib.hid HP.out.symm, hI⟩
      case round =>
        clear hI
        rename World => wr0
        obtain ⟨z, hz, rfl, hT, hI⟩ := hrel
        rename World => wq
        by_cases hz0 : 0 < z
        · have d0 : decide ((0 : Int) < (z : Int)) = true := decide_eq_true (by omega)
          obtain ⟨q, hq, hg⟩ := HGet.out (z - 1) (by omega)
          have hr := hI.out.1.rds.2
          rcases hr with hr | ⟨gb, go, he, hgl, hrc⟩
          · exfalso
            have := HLo.out
            rw [hr] at this
            simp at this
            omega
          · cases he
            have c1 := hrc (z - 1) (by rw [HLo.out]; omega)
            rw [hg, Nat.zero_add] at c1
            have hXq := (HX.out.below hI.out.2)
            obtain ⟨b, off, rfl, hbl, hc⟩ := HX.out.cells_ (show k * 2 + 1 < xs.length by rw [HLx.out]; omega)
            have c2 : wq.cell? ⟨b, off + k * 2 + 1, none⟩ = some (.int .i64 (hgt xs k)) := (hI.out.2.cell (p := ⟨b, off + k * 2 + 1, none⟩) hbl).trans (by have := hc (k * 2 + 1) (by rw [HLx.out]; omega); rw [← Nat.add_assoc] at this; exact this)
            have c3 : wq.cell? ⟨b, off + q * 2 + 1, none⟩ = some (.int .i64 (hgt xs q)) := (hI.out.2.cell (p := ⟨b, off + q * 2 + 1, none⟩) hbl).trans (by have := hc (q * 2 + 1) (by rw [HLx.out]; omega); rw [← Nat.add_assoc] at this; exact this)
            have hStp : tfP xs (hgt xs k) out z = if hgt xs q < hgt xs k then tfP xs (hgt xs k) out (z - 1) else z := by
              obtain ⟨y, rfl⟩ : ∃ y, z = y + 1 := ⟨z - 1, by omega⟩
              rw [Nat.add_sub_cancel] at hg ⊢
              show (if hgt xs (out.getD y 0).toNat < hgt xs k then _ else _) = _
              rw [hg]; rfl
            have HSt := Lib.hid hStp
            have i1 : ((z : Int) - 1).toNat = z - 1 := by omega
            have i2 : (z : Int) - 1 < (k : Int) := by omega
            have i3 : (q : Int) < (n : Int) := by omega
            clear hXq hc hgl hrc hStp hg hbl
            generalize hgt xs q = hq1 at *
            obtain ⟨hk1, hhk⟩ : ∃ x, x = hgt xs k := ⟨_, rfl⟩
            rw [← hhk] at c2 HSt hT
            have HHk := Lib.hid hhk
            clear hhk
            by_cases hcmp : hq1 < hk1
            · have d1 : decide (hq1 < hk1) = true := decide_eq_true hcmp
              have HT2 : Hid (tfP xs hk1 out (z - 1) = P) := Lib.hid (by have := HSt.out; rw [if_pos hcmp] at this; rw [← this]; exact hT.out)
              rw [HHk.out] at HT2
              clear hcmp HSt hT
              go_upto_region 6 with fail
              go_quiet (fail)
              go_wp2
              go_roundw
              case rel => exact ⟨z - 1, by omega, by go_num, HT2, Lib.hid ⟨hI.out.1, dnP hI.out.2 _⟩⟩
              case measure => simp [intOf]; omega
            · have d1 : decide (hq1 < hk1) = false := decide_eq_false hcmp
              have HzP : Hid (z = P) := Lib.hid (by have := HSt.out; rw [if_neg hcmp] at this; rw [← this]; exact hT.out)
              go_upto_region 6 with fail
              go_quiet (fail)
              have hzP := HzP.out
              clear HzP
              subst hzP
              go_upto_region 8 with fail
              have HB8 := Lib.hid (dnP hI.out.2 nq)
              have HO8 : Hid (Own (wq.drewN nq) w.heap.size (.slice (some ⟨g, 0, none⟩) k cc) out) := Lib.hid hI.out.1
              generalize wq.drewN nq = W8 at *
              have HC : Hid (∀ W : World, Below W8.heap.size W8 W → Calls Try.prog 44 #[.slice (some ⟨g, 0, none⟩) z cc] W (Made (out.take z) W)) := Lib.hid (fun W hW => by
                have hr := (HO8.out.rds.2.below hW).more hW.size
                have e : (out.take z).length = z := by have := HLo.out; first | (simp; done) | (simp; omega)
                have := copyInts_any (some ⟨g, 0, none⟩) cc (out.take z) W (Rds.take hr _) (by omega)
                rw [e] at this
                exact this)
              have s1 : (z : Int) ≤ (cc : Int) := by omega
              have s2 : (z : Int) ≤ (k : Int) := by omega
              by_cases hzc : z < cc
              · have s3 : (z : Int) < (cc : Int) := by omega
                refine wp_region_held_drew (S := (fun w' => Below W8.heap.size W8 w')) (by kernel_rfl) (by exact (Below.refl _ _).drew) (fun hHeld => ?_)
                refine' wpAnyH_take (i := 0) (oi := _) (v := _) ?hi501 (by kernel_rfl) (by kernel_rfl) (by kernel_rfl) ?hq501 (Or.inl ⟨?hw501, ?hy501⟩) (by assumption) ?rest501
                case hi501 => (simp only [List.getElem?_toArray, List.getElem?_cons_succ, List.getElem?_cons_zero]; rfl)
                case hq501 => exact fun _ _ _ h => h
                case hw501 => rfl
                case hy501 => (intro wq hSw; (try dsimp only at hSw); go_simp; (try with_reducible rfl))
                (try simp only [Act.put, List.setIfInBounds_toArray, List.set_cons_zero, List.set_cons_succ])
                refine' wpAnyH_take (i := 1) (oi := _) (v := _) ?hi502 (by kernel_rfl) (by kernel_rfl) (by kernel_rfl) ?hq502 (Or.inl ⟨?hw502, ?hy502⟩) (by assumption) ?rest502
                case hi502 => (simp only [List.getElem?_toArray, List.getElem?_cons_succ, List.getElem?_cons_zero]; rfl)
                case hq502 => exact fun _ _ _ h => h
                case hw502 => rfl
                case hy502 => (intro wq hSw; (try dsimp only at hSw); go_simp; (try with_reducible rfl))
                (try simp only [Act.put, List.setIfInBounds_toArray, List.set_cons_zero, List.set_cons_succ])
                refine' wpAnyH_take (i := 2) (oi := _) (v := _) ?hi503 (by kernel_rfl) (by kernel_rfl) (by kernel_rfl) ?hq503 (Or.inl ⟨?hw503, ?hy503⟩) (by assumption) ?rest503
                case hi503 => (simp only [List.getElem?_toArray, List.getElem?_cons_succ, List.getElem?_cons_zero]; rfl)
                case hq503 => exact fun _ _ _ h => h
                case hw503 => rfl
                case hy503 => (intro wq hSw; (try dsimp only at hSw); go_simp; (try with_reducible rfl))
                (try simp only [Act.put, List.setIfInBounds_toArray, List.set_cons_zero, List.set_cons_succ])
                refine' wpAnyH_take (i := 4) (oi := _) (v := _) ?hi504 (by kernel_rfl) (by kernel_rfl) (by kernel_rfl) ?hq504 (Or.inl ⟨?hw504, ?hy504⟩) (by assumption) ?rest504
                case hi504 => (simp only [List.getElem?_toArray, List.getElem?_cons_succ, List.getElem?_cons_zero]; rfl)
                case hq504 => exact fun _ _ _ h => h
                case hw504 => rfl
                case hy504 => (intro wq hSw; (try dsimp only at hSw); go_simp; (try with_reducible rfl))
                (try simp only [Act.put, List.setIfInBounds_toArray, List.set_cons_zero, List.set_cons_succ])
                refine' wpAnyH_take (i := 7) (oi := _) (v := _) ?hi505 (by kernel_rfl) (by kernel_rfl) (by kernel_rfl) ?hq505 (Or.inl ⟨?hw505, ?hy505⟩) (by assumption) ?rest505
                case hi505 => (simp only [List.getElem?_toArray, List.getElem?_cons_succ, List.getElem?_cons_zero]; rfl)
                case hq505 => exact fun _ _ _ h => h
                case hw505 => rfl
                case hy505 => (intro wq hSw; (try dsimp only at hSw); go_simp; (try with_reducible rfl))
                (try simp only [Act.put, List.setIfInBounds_toArray, List.set_cons_zero, List.set_cons_succ])
                refine' wpAnyH_take (i := 8) (oi := _) (v := _) ?hi506 (by kernel_rfl) (by kernel_rfl) (by kernel_rfl) ?hq506 (Or.inl ⟨?hw506, ?hy506⟩) (by assumption) ?rest506
                case hi506 => (simp only [List.getElem?_toArray, List.getElem?_cons_succ, List.getElem?_cons_zero]; rfl)
                case hq506 => exact fun _ _ _ h => h
                case hw506 => rfl
                case hy506 => (intro wq hSw; (try dsimp only at hSw); go_simp; (try with_reducible rfl))
                (try simp only [Act.put, List.setIfInBounds_toArray, List.set_cons_zero, List.set_cons_succ])
                refine' wpAnyH_take (i := 9) (oi := _) (v := _) ?hi507 (by kernel_rfl) (by kernel_rfl) (by kernel_rfl) ?hq507 (Or.inl ⟨?hw507, ?hy507⟩) (by assumption) ?rest507
                case hi507 => (simp only [List.getElem?_toArray, List.getElem?_cons_succ, List.getElem?_cons_zero]; rfl)
                case hq507 => exact fun _ _ _ h => h
                case hw507 => rfl
                case hy507 => (intro wq hSw; (try dsimp only at hSw); go_simp; (try with_reducible rfl))
                (try simp only [Act.put, List.setIfInBounds_toArray, List.set_cons_zero, List.set_cons_succ])
                refine wpAnyH_ready (rs := [3, 5]) (by kernel_rfl) (by simp) ?_
                refine' AllReadyH.cons (o := _) ?hi508 (fun K hK => ?rest508) (AllReadyH.cons (o := _) ?hj508 (fun K hK => ?rist508) AllReadyH.nil)
                case hi508 => (simp only [List.getElem?_toArray, List.getElem?_cons_succ, List.getElem?_cons_zero]; rfl)
                case hj508 => (simp only [List.getElem?_toArray, List.getElem?_cons_succ, List.getElem?_cons_zero]; rfl)
                case rest508 =>
                  go_simp
                  go_at_call 44
                  refine (HC.out W8.drew ((Below.refl _ _).drew)).mono ?_
                  rintro e u1 ⟨v1, rfl, hO1, hb1⟩
                  have HB1 : Hid (Below W8.heap.size W8 u1) := Lib.hid (((Below.refl W8.heap.size W8).drew).trans hb1)
                  have HO1 : Hid (Own u1 W8.heap.size v1 (out.take z)) := Lib.hid hO1
                  clear hO1 hb1
                  go_wp2_with fail
                  refine hK.out _ _ (by (try dsimp only); exact HB1.out) (fun hHeld => ?_)
                  clear hK K
                  (try simp only [Act.put, List.setIfInBounds_toArray, List.set_cons_zero, List.set_cons_succ])
                  refine wpAnyH_ready (rs := [5]) (by kernel_rfl) (by simp) ?_
                  refine' AllReadyH.cons (o := _) ?hi509 (fun K hK => ?rest509) AllReadyH.nil
                  case hi509 => (simp only [List.getElem?_toArray, List.getElem?_cons_succ, List.getElem?_cons_zero]; rfl)
                  go_simp
                  have HB2 := Lib.hid (HB1.out.alloc HB1.out.size (.cells #[.int .i64 (k : Int)] 3))
                  have HO2 := Lib.hid (HO1.out.alloc (.cells #[.int .i64 (k : Int)] 3))
                  have HL2 := Lib.hid ((rds_one u1 (k : Int)).more (show u1.heap.size + 1 ≤ (u1.alloc (.cells #[.int .i64 (k : Int)] 3)).heap.size by simp))
                  generalize u1.alloc (.cells #[.int .i64 (k : Int)] 3) = u2 at *
                  generalize u1.heap.size = p1 at *
                  clear HB1 HO1
                  refine hK.out _ _ (by (try dsimp only); exact HB2.out) (fun hHeld => ?_)
                  clear hK K
                  (try simp only [Act.put, List.setIfInBounds_toArray, List.set_cons_zero, List.set_cons_succ])
                  refine wpAnyH_ready (rs := [6]) (by kernel_rfl) (by simp) ?_
                  refine' AllReadyH.cons (o := _) ?hi510 (fun K hK => ?rest510) AllReadyH.nil
                  case hi510 => (simp only [List.getElem?_toArray, List.getElem?_cons_succ, List.getElem?_cons_zero]; rfl)
                  refine wp_app (.tmp 39) (.tmp 41) ?_ W8.heap.size v1 _ ?_ HO2.out (some ⟨p1, 0, none⟩) 1 1 u2.heap.size [(k : Int)] ?_ rfl HL2.out ?_ HB2.out.size ?_
                  · rfl
                  · rfl
                  · rfl
                  · have := HLo.out; first | (simp; done) | (simp; omega)
                  intro v3 u3 hO3 hG3
                  have HB3 := Lib.hid (HB2.out.grown hG3 HB2.out.size (fun q hq => (HO2.out.lt q hq).1))
                  have HO3 := Lib.hid hO3
                  clear hO3 hG3 HO2 HL2 HB2
                  refine hK.out _ _ (by (try dsimp only); exact HB3.out) (fun hHeld => ?_)
                  clear hK K
                  (try simp only [Act.put, List.setIfInBounds_toArray, List.set_cons_zero, List.set_cons_succ])
                  refine wpAnyH_ready (rs := [10]) (by kernel_rfl) (by simp) ?_
                  refine' AllReadyH.cons (o := _) ?hi511 (fun K hK => ?rest511) AllReadyH.nil
                  case hi511 => (simp only [List.getElem?_toArray, List.getElem?_cons_succ, List.getElem?_cons_zero]; rfl)
                  have HD3 : Hid (Rds .i64 u3 W8.heap.size (some ⟨g, z, none⟩) (out.drop z)) := Lib.hid ((rds_dropP HO8.out.rds.2 z).below HB3.out)
                  refine wp_app (.tmp 42) (.tmp 45) ?_ W8.heap.size v3 _ ?_ HO3.out (some ⟨g, z, none⟩) (k - z) (cc - z) W8.heap.size (out.drop z) ?_ ?_ HD3.out ?_ HB3.out.size ?_
                  · rfl
                  · rfl
                  · rfl
                  · have := HLo.out; first | (simp; done) | (simp; omega)
                  · have := HLo.out; first | (simp; done) | (simp; omega)
                  intro v4 u4 hO4 hG4
                  have HB4 := Lib.hid (HB3.out.grown hG4 HB3.out.size (fun q hq => (HO3.out.lt q hq).1))
                  have HO4 := Lib.hid hO4
                  clear hO4 hG4 HO3 HB3 HD3
                  refine hK.out _ _ (by (try dsimp only); exact HB4.out) (fun hHeld => ?_)
                  clear hK K
                  (try simp only [Act.put, List.setIfInBounds_toArray, List.set_cons_zero, List.set_cons_succ])
                  refine' wpAnyH_take (i := 11) (oi := _) (v := _) ?hi512 (by kernel_rfl) (by kernel_rfl) (by kernel_rfl) ?hq512 (Or.inl ⟨?hw512, ?hy512⟩) (by assumption) ?rest512
                  case hi512 => (simp only [List.getElem?_toArray, List.getElem?_cons_succ, List.getElem?_cons_zero]; rfl)
                  case hq512 => exact fun _ _ _ h => h
                  case hw512 => rfl
                  case hy512 => (intro wq hSw; (try dsimp only at hSw); go_simp; (try with_reducible rfl))
                  (try simp only [Act.put, List.setIfInBounds_toArray, List.set_cons_zero, List.set_cons_succ])
                  refine wpAnyH_done (by kernel_rfl) ?_ _
                  have hO5 := HO4.out
                  rw [← HStep.out] at hO5
                  obtain ⟨g4, c4, rfl, hg4, _⟩ := hO5.form (by rw [tfO_len]; omega)
                  have hlen5 : (tfO xs (k + 1)).length = k + 1 := tfO_len xs (k + 1)
                  rw [hlen5] at hO5 ⊢
                  have hc4 := cap_le hO5
                  have HN : Hid (Own u4 w.heap.size (.slice (some ⟨g4, 0, none⟩) (k + 1) c4) (tfO xs (k + 1)) ∧ Below w.heap.size w u4) := Lib.hid ⟨hO5.base_le HB8.out.size, HB8.out.trans (HB4.out.mono HB8.out.size)⟩
                  clear hO5 hlen5 HO4 HB4
                  go_wp2
                  go_roundw
                  case rel => exact ⟨k + 1, g4, c4, by omega, by go_num, rfl, HN⟩
                  case measure => simp [intOf]; omega
                case rist508 =>
                  go_simp
                  have HB1 : Hid (Below W8.heap.size W8 ((W8.alloc (.cells #[.int .i64 (k : Int)] 3)).drew)) := Lib.hid (((Below.refl W8.heap.size W8).alloc (Nat.le_refl _) _).drew)
                  have HL1 : Hid (Rds .i64 ((W8.alloc (.cells #[.int .i64 (k : Int)] 3)).drew) ((W8.alloc (.cells #[.int .i64 (k : Int)] 3)).drew).heap.size (some ⟨W8.heap.size, 0, none⟩) [(k : Int)]) := Lib.hid ((rds_one W8 (k : Int)).more (show W8.heap.size + 1 ≤ ((W8.alloc (.cells #[.int .i64 (k : Int)] 3)).drew).heap.size by simp))
                  generalize (W8.alloc (.cells #[.int .i64 (k : Int)] 3)).drew = u0 at *
                  obtain ⟨p1, hp1⟩ : ∃ p, p = W8.heap.size := ⟨_, rfl⟩
                  rw [← hp1] at HL1 ⊢
                  clear hp1
                  refine hK.out _ _ (by (try dsimp only); exact HB1.out) (fun hHeld => ?_)
                  clear hK K
                  (try simp only [Act.put, List.setIfInBounds_toArray, List.set_cons_zero, List.set_cons_succ])
                  refine wpAnyH_ready (rs := [3]) (by kernel_rfl) (by simp) ?_
                  refine' AllReadyH.cons (o := _) ?hi513 (fun K hK => ?rest513) AllReadyH.nil
                  case hi513 => (simp only [List.getElem?_toArray, List.getElem?_cons_succ, List.getElem?_cons_zero]; rfl)
                  go_simp
                  go_at_call 44
                  refine (HC.out u0 HB1.out).mono ?_
                  rintro e u2 ⟨v1, rfl, hO1, hb1⟩
                  have HB2 : Hid (Below W8.heap.size W8 u2) := Lib.hid (HB1.out.trans (hb1.mono HB1.out.size))
                  have HO2 : Hid (Own u2 W8.heap.size v1 (out.take z)) := Lib.hid (hO1.base_le HB1.out.size)
                  have HL2 := Lib.hid ((HL1.out.below hb1).more hb1.size)
                  clear hO1 hb1 HB1 HL1
                  go_wp2_with fail
                  refine hK.out _ _ (by (try dsimp only); exact HB2.out) (fun hHeld => ?_)
                  clear hK K
                  (try simp only [Act.put, List.setIfInBounds_toArray, List.set_cons_zero, List.set_cons_succ])
                  refine wpAnyH_ready (rs := [6]) (by kernel_rfl) (by simp) ?_
                  refine' AllReadyH.cons (o := _) ?hi514 (fun K hK => ?rest514) AllReadyH.nil
                  case hi514 => (simp only [List.getElem?_toArray, List.getElem?_cons_succ, List.getElem?_cons_zero]; rfl)
                  refine wp_app (.tmp 39) (.tmp 41) ?_ W8.heap.size v1 _ ?_ HO2.out (some ⟨p1, 0, none⟩) 1 1 u2.heap.size [(k : Int)] ?_ rfl HL2.out ?_ HB2.out.size ?_
                  · rfl
                  · rfl
                  · rfl
                  · have := HLo.out; first | (simp; done) | (simp; omega)
                  intro v3 u3 hO3 hG3
                  have HB3 := Lib.hid (HB2.out.grown hG3 HB2.out.size (fun q hq => (HO2.out.lt q hq).1))
                  have HO3 := Lib.hid hO3
                  clear hO3 hG3 HO2 HL2 HB2
                  refine hK.out _ _ (by (try dsimp only); exact HB3.out) (fun hHeld => ?_)
                  clear hK K
                  (try simp only [Act.put, List.setIfInBounds_toArray, List.set_cons_zero, List.set_cons_succ])
                  refine wpAnyH_ready (rs := [10]) (by kernel_rfl) (by simp) ?_
                  refine' AllReadyH.cons (o := _) ?hi515 (fun K hK => ?rest515) AllReadyH.nil
                  case hi515 => (simp only [List.getElem?_toArray, List.getElem?_cons_succ, List.getElem?_cons_zero]; rfl)
                  have HD3 : Hid (Rds .i64 u3 W8.heap.size (some ⟨g, z, none⟩) (out.drop z)) := Lib.hid ((rds_dropP HO8.out.rds.2 z).below HB3.out)
                  refine wp_app (.tmp 42) (.tmp 45) ?_ W8.heap.size v3 _ ?_ HO3.out (some ⟨g, z, none⟩) (k - z) (cc - z) W8.heap.size (out.drop z) ?_ ?_ HD3.out ?_ HB3.out.size ?_
                  · rfl
                  · rfl
                  · rfl
                  · have := HLo.out; first | (simp; done) | (simp; omega)
                  · have := HLo.out; first | (simp; done) | (simp; omega)
                  intro v4 u4 hO4 hG4
                  have HB4 := Lib.hid (HB3.out.grown hG4 HB3.out.size (fun q hq => (HO3.out.lt q hq).1))
                  have HO4 := Lib.hid hO4
                  clear hO4 hG4 HO3 HB3 HD3
                  refine hK.out _ _ (by (try dsimp only); exact HB4.out) (fun hHeld => ?_)
                  clear hK K
                  (try simp only [Act.put, List.setIfInBounds_toArray, List.set_cons_zero, List.set_cons_succ])
                  refine' wpAnyH_take (i := 11) (oi := _) (v := _) ?hi516 (by kernel_rfl) (by kernel_rfl) (by kernel_rfl) ?hq516 (Or.inl ⟨?hw516, ?hy516⟩) (by assumption) ?rest516
                  case hi516 => (simp only [List.getElem?_toArray, List.getElem?_cons_succ, List.getElem?_cons_zero]; rfl)
                  case hq516 => exact fun _ _ _ h => h
                  case hw516 => rfl
                  case hy516 => (intro wq hSw; (try dsimp only at hSw); go_simp; (try with_reducible rfl))
                  (try simp only [Act.put, List.setIfInBounds_toArray, List.set_cons_zero, List.set_cons_succ])
                  refine wpAnyH_done (by kernel_rfl) ?_ _
                  have hO5 := HO4.out
                  rw [← HStep.out] at hO5
                  obtain ⟨g4, c4, rfl, hg4, _⟩ := hO5.form (by rw [tfO_len]; omega)
                  have hlen5 : (tfO xs (k + 1)).length = k + 1 := tfO_len xs (k + 1)
                  rw [hlen5] at hO5 ⊢
                  have hc4 := cap_le hO5
                  have HN : Hid (Own u4 w.heap.size (.slice (some ⟨g4, 0, none⟩) (k + 1) c4) (tfO xs (k + 1)) ∧ Below w.heap.size w u4) := Lib.hid ⟨hO5.base_le HB8.out.size, HB8.out.trans (HB4.out.mono HB8.out.size)⟩
                  clear hO5 hlen5 HO4 HB4
                  go_wp2
                  go_roundw
                  case rel => exact ⟨k + 1, g4, c4, by omega, by go_num, rfl, HN⟩
                  case measure => simp [intOf]; omega
              · obtain rfl : z = cc := by omega
                refine wp_region_held_drew (S := (fun w' => Below W8.heap.size W8 w')) (by kernel_rfl) (by exact (Below.refl _ _).drew) (fun hHeld => ?_)
                refine' wpAnyH_take (i := 0) (oi := _) (v := _) ?hi517 (by kernel_rfl) (by kernel_rfl) (by kernel_rfl) ?hq517 (Or.inl ⟨?hw517, ?hy517⟩) (by assumption) ?rest517
                case hi517 => (simp only [List.getElem?_toArray, List.getElem?_cons_succ, List.getElem?_cons_zero]; rfl)
                case hq517 => exact fun _ _ _ h => h
                case hw517 => rfl
                case hy517 => (intro wq hSw; (try dsimp only at hSw); go_simp; (try with_reducible rfl))
                (try simp only [Act.put, List.setIfInBounds_toArray, List.set_cons_zero, List.set_cons_succ])
                refine' wpAnyH_take (i := 1) (oi := _) (v := _) ?hi518 (by kernel_rfl) (by kernel_rfl) (by kernel_rfl) ?hq518 (Or.inl ⟨?hw518, ?hy518⟩) (by assumption) ?rest518
                case hi518 => (simp only [List.getElem?_toArray, List.getElem?_cons_succ, List.getElem?_cons_zero]; rfl)
                case hq518 => exact fun _ _ _ h => h
                case hw518 => rfl
                case hy518 => (intro wq hSw; (try dsimp only at hSw); go_simp; (try with_reducible rfl))
                (try simp only [Act.put, List.setIfInBounds_toArray, List.set_cons_zero, List.set_cons_succ])
                refine' wpAnyH_take (i := 2) (oi := _) (v := _) ?hi519 (by kernel_rfl) (by kernel_rfl) (by kernel_rfl) ?hq519 (Or.inl ⟨?hw519, ?hy519⟩) (by assumption) ?rest519
                case hi519 => (simp only [List.getElem?_toArray, List.getElem?_cons_succ, List.getElem?_cons_zero]; rfl)
                case hq519 => exact fun _ _ _ h => h
                case hw519 => rfl
                case hy519 => (intro wq hSw; (try dsimp only at hSw); go_simp; (try with_reducible rfl))
                (try simp only [Act.put, List.setIfInBounds_toArray, List.set_cons_zero, List.set_cons_succ])
                refine' wpAnyH_take (i := 4) (oi := _) (v := _) ?hi520 (by kernel_rfl) (by kernel_rfl) (by kernel_rfl) ?hq520 (Or.inl ⟨?hw520, ?hy520⟩) (by assumption) ?rest520
                case hi520 => (simp only [List.getElem?_toArray, List.getElem?_cons_succ, List.getElem?_cons_zero]; rfl)
                case hq520 => exact fun _ _ _ h => h
                case hw520 => rfl
                case hy520 => (intro wq hSw; (try dsimp only at hSw); go_simp; (try with_reducible rfl))
                (try simp only [Act.put, List.setIfInBounds_toArray, List.set_cons_zero, List.set_cons_succ])
                refine' wpAnyH_take (i := 7) (oi := _) (v := _) ?hi521 (by kernel_rfl) (by kernel_rfl) (by kernel_rfl) ?hq521 (Or.inl ⟨?hw521, ?hy521⟩) (by assumption) ?rest521
                case hi521 => (simp only [List.getElem?_toArray, List.getElem?_cons_succ, List.getElem?_cons_zero]; rfl)
                case hq521 => exact fun _ _ _ h => h
                case hw521 => rfl
                case hy521 => (intro wq hSw; (try dsimp only at hSw); go_simp; (try with_reducible rfl))
                (try simp only [Act.put, List.setIfInBounds_toArray, List.set_cons_zero, List.set_cons_succ])
                refine' wpAnyH_take (i := 8) (oi := _) (v := _) ?hi522 (by kernel_rfl) (by kernel_rfl) (by kernel_rfl) ?hq522 (Or.inl ⟨?hw522, ?hy522⟩) (by assumption) ?rest522
                case hi522 => (simp only [List.getElem?_toArray, List.getElem?_cons_succ, List.getElem?_cons_zero]; rfl)
                case hq522 => exact fun _ _ _ h => h
                case hw522 => rfl
                case hy522 => (intro wq hSw; (try dsimp only at hSw); go_simp; (try with_reducible rfl))
                (try simp only [Act.put, List.setIfInBounds_toArray, List.set_cons_zero, List.set_cons_succ])
                refine' wpAnyH_take (i := 9) (oi := _) (v := _) ?hi523 (by kernel_rfl) (by kernel_rfl) (by kernel_rfl) ?hq523 (Or.inl ⟨?hw523, ?hy523⟩) (by assumption) ?rest523
                case hi523 => (simp only [List.getElem?_toArray, List.getElem?_cons_succ, List.getElem?_cons_zero]; rfl)
                case hq523 => exact fun _ _ _ h => h
                case hw523 => rfl
                case hy523 => (intro wq hSw; (try dsimp only at hSw); go_simp; (try with_reducible rfl))
                (try simp only [Act.put, List.setIfInBounds_toArray, List.set_cons_zero, List.set_cons_succ])
                refine wpAnyH_ready (rs := [3, 5]) (by kernel_rfl) (by simp) ?_
                refine' AllReadyH.cons (o := _) ?hi524 (fun K hK => ?rest524) (AllReadyH.cons (o := _) ?hj524 (fun K hK => ?rist524) AllReadyH.nil)
                case hi524 => (simp only [List.getElem?_toArray, List.getElem?_cons_succ, List.getElem?_cons_zero]; rfl)
                case hj524 => (simp only [List.getElem?_toArray, List.getElem?_cons_succ, List.getElem?_cons_zero]; rfl)
                case rest524 =>
                  go_simp
                  go_at_call 44
                  refine (HC.out W8.drew ((Below.refl _ _).drew)).mono ?_
                  rintro e u1 ⟨v1, rfl, hO1, hb1⟩
                  have HB1 : Hid (Below W8.heap.size W8 u1) := Lib.hid (((Below.refl W8.heap.size W8).drew).trans hb1)
                  have HO1 : Hid (Own u1 W8.heap.size v1 (out.take z)) := Lib.hid hO1
                  clear hO1 hb1
                  go_wp2_with fail
                  refine hK.out _ _ (by (try dsimp only); exact HB1.out) (fun hHeld => ?_)
                  clear hK K
                  (try simp only [Act.put, List.setIfInBounds_toArray, List.set_cons_zero, List.set_cons_succ])
                  refine wpAnyH_ready (rs := [5]) (by kernel_rfl) (by simp) ?_
                  refine' AllReadyH.cons (o := _) ?hi525 (fun K hK => ?rest525) AllReadyH.nil
                  case hi525 => (simp only [List.getElem?_toArray, List.getElem?_cons_succ, List.getElem?_cons_zero]; rfl)
                  go_simp
                  have HB2 := Lib.hid (HB1.out.alloc HB1.out.size (.cells #[.int .i64 (k : Int)] 3))
                  have HO2 := Lib.hid (HO1.out.alloc (.cells #[.int .i64 (k : Int)] 3))
                  have HL2 := Lib.hid ((rds_one u1 (k : Int)).more (show u1.heap.size + 1 ≤ (u1.alloc (.cells #[.int .i64 (k : Int)] 3)).heap.size by simp))
                  generalize u1.alloc (.cells #[.int .i64 (k : Int)] 3) = u2 at *
                  generalize u1.heap.size = p1 at *
                  clear HB1 HO1
                  refine hK.out _ _ (by (try dsimp only); exact HB2.out) (fun hHeld => ?_)
                  clear hK K
                  (try simp only [Act.put, List.setIfInBounds_toArray, List.set_cons_zero, List.set_cons_succ])
                  refine wpAnyH_ready (rs := [6]) (by kernel_rfl) (by simp) ?_
                  refine' AllReadyH.cons (o := _) ?hi526 (fun K hK => ?rest526) AllReadyH.nil
                  case hi526 => (simp only [List.getElem?_toArray, List.getElem?_cons_succ, List.getElem?_cons_zero]; rfl)
                  refine wp_app (.tmp 39) (.tmp 41) ?_ W8.heap.size v1 _ ?_ HO2.out (some ⟨p1, 0, none⟩) 1 1 u2.heap.size [(k : Int)] ?_ rfl HL2.out ?_ HB2.out.size ?_
                  · rfl
                  · rfl
                  · rfl
                  · have := HLo.out; first | (simp; done) | (simp; omega)
                  intro v3 u3 hO3 hG3
                  have HB3 := Lib.hid (HB2.out.grown hG3 HB2.out.size (fun q hq => (HO2.out.lt q hq).1))
                  have HO3 := Lib.hid hO3
                  clear hO3 hG3 HO2 HL2 HB2
                  refine hK.out _ _ (by (try dsimp only); exact HB3.out) (fun hHeld => ?_)
                  clear hK K
                  (try simp only [Act.put, List.setIfInBounds_toArray, List.set_cons_zero, List.set_cons_succ])
                  refine wpAnyH_ready (rs := [10]) (by kernel_rfl) (by simp) ?_
                  refine' AllReadyH.cons (o := _) ?hi527 (fun K hK => ?rest527) AllReadyH.nil
                  case hi527 => (simp only [List.getElem?_toArray, List.getElem?_cons_succ, List.getElem?_cons_zero]; rfl)
                  have HD3 : Hid (Rds .i64 u3 W8.heap.size (some ⟨g, 0, none⟩) (out.drop z)) := Lib.hid ((rds_nilP HO8.out.rds.2 (by have := HLo.out; omega)).below HB3.out)
                  refine wp_app (.tmp 42) (.tmp 45) ?_ W8.heap.size v3 _ ?_ HO3.out (some ⟨g, 0, none⟩) 0 0 W8.heap.size (out.drop z) ?_ ?_ HD3.out ?_ HB3.out.size ?_
                  · rfl
                  · rfl
                  · rfl
                  · have := HLo.out; first | (simp; done) | (simp; omega)
                  · have := HLo.out; first | (simp; done) | (simp; omega)
                  intro v4 u4 hO4 hG4
                  have HB4 := Lib.hid (HB3.out.grown hG4 HB3.out.size (fun q hq => (HO3.out.lt q hq).1))
                  have HO4 := Lib.hid hO4
                  clear hO4 hG4 HO3 HB3 HD3
                  refine hK.out _ _ (by (try dsimp only); exact HB4.out) (fun hHeld => ?_)
                  clear hK K
                  (try simp only [Act.put, List.setIfInBounds_toArray, List.set_cons_zero, List.set_cons_succ])
                  refine' wpAnyH_take (i := 11) (oi := _) (v := _) ?hi528 (by kernel_rfl) (by kernel_rfl) (by kernel_rfl) ?hq528 (Or.inl ⟨?hw528, ?hy528⟩) (by assumption) ?rest528
                  case hi528 => (simp only [List.getElem?_toArray, List.getElem?_cons_succ, List.getElem?_cons_zero]; rfl)
                  case hq528 => exact fun _ _ _ h => h
                  case hw528 => rfl
                  case hy528 => (intro wq hSw; (try dsimp only at hSw); go_simp; (try with_reducible rfl))
                  (try simp only [Act.put, List.setIfInBounds_toArray, List.set_cons_zero, List.set_cons_succ])
                  refine wpAnyH_done (by kernel_rfl) ?_ _
                  have hO5 := HO4.out
                  rw [← HStep.out] at hO5
                  obtain ⟨g4, c4, rfl, hg4, _⟩ := hO5.form (by rw [tfO_len]; omega)
                  have hlen5 : (tfO xs (k + 1)).length = k + 1 := tfO_len xs (k + 1)
                  rw [hlen5] at hO5 ⊢
                  have hc4 := cap_le hO5
                  have HN : Hid (Own u4 w.heap.size (.slice (some ⟨g4, 0, none⟩) (k + 1) c4) (tfO xs (k + 1)) ∧ Below w.heap.size w u4) := Lib.hid ⟨hO5.base_le HB8.out.size, HB8.out.trans (HB4.out.mono HB8.out.size)⟩
                  clear hO5 hlen5 HO4 HB4
                  go_wp2
                  go_roundw
                  case rel => exact ⟨k + 1, g4, c4, by omega, by go_num, rfl, HN⟩
                  case measure => simp [intOf]; omega
                case rist524 =>
                  go_simp
                  have HB1 : Hid (Below W8.heap.size W8 ((W8.alloc (.cells #[.int .i64 (k : Int)] 3)).drew)) := Lib.hid (((Below.refl W8.heap.size W8).alloc (Nat.le_refl _) _).drew)
                  have HL1 : Hid (Rds .i64 ((W8.alloc (.cells #[.int .i64 (k : Int)] 3)).drew) ((W8.alloc (.cells #[.int .i64 (k : Int)] 3)).drew).heap.size (some ⟨W8.heap.size, 0, none⟩) [(k : Int)]) := Lib.hid ((rds_one W8 (k : Int)).more (show W8.heap.size + 1 ≤ ((W8.alloc (.cells #[.int .i64 (k : Int)] 3)).drew).heap.size by simp))
                  generalize (W8.alloc (.cells #[.int .i64 (k : Int)] 3)).drew = u0 at *
                  obtain ⟨p1, hp1⟩ : ∃ p, p = W8.heap.size := ⟨_, rfl⟩
                  rw [← hp1] at HL1 ⊢
                  clear hp1
                  refine hK.out _ _ (by (try dsimp only); exact HB1.out) (fun hHeld => ?_)
                  clear hK K
                  (try simp only [Act.put, List.setIfInBounds_toArray, List.set_cons_zero, List.set_cons_succ])
                  refine wpAnyH_ready (rs := [3]) (by kernel_rfl) (by simp) ?_
                  refine' AllReadyH.cons (o := _) ?hi529 (fun K hK => ?rest529) AllReadyH.nil
                  case hi529 => (simp only [List.getElem?_toArray, List.getElem?_cons_succ, List.getElem?_cons_zero]; rfl)
                  go_simp
                  go_at_call 44
                  refine (HC.out u0 HB1.out).mono ?_
                  rintro e u2 ⟨v1, rfl, hO1, hb1⟩
                  have HB2 : Hid (Below W8.heap.size W8 u2) := Lib.hid (HB1.out.trans (hb1.mono HB1.out.size))
                  have HO2 : Hid (Own u2 W8.heap.size v1 (out.take z)) := Lib.hid (hO1.base_le HB1.out.size)
                  have HL2 := Lib.hid ((HL1.out.below hb1).more hb1.size)
                  clear hO1 hb1 HB1 HL1
                  go_wp2_with fail
                  refine hK.out _ _ (by (try dsimp only); exact HB2.out) (fun hHeld => ?_)
                  clear hK K
                  (try simp only [Act.put, List.setIfInBounds_toArray, List.set_cons_zero, List.set_cons_succ])
                  refine wpAnyH_ready (rs := [6]) (by kernel_rfl) (by simp) ?_
                  refine' AllReadyH.cons (o := _) ?hi530 (fun K hK => ?rest530) AllReadyH.nil
                  case hi530 => (simp only [List.getElem?_toArray, List.getElem?_cons_succ, List.getElem?_cons_zero]; rfl)
                  refine wp_app (.tmp 39) (.tmp 41) ?_ W8.heap.size v1 _ ?_ HO2.out (some ⟨p1, 0, none⟩) 1 1 u2.heap.size [(k : Int)] ?_ rfl HL2.out ?_ HB2.out.size ?_
                  · rfl
                  · rfl
                  · rfl
                  · have := HLo.out; first | (simp; done) | (simp; omega)
                  intro v3 u3 hO3 hG3
                  have HB3 := Lib.hid (HB2.out.grown hG3 HB2.out.size (fun q hq => (HO2.out.lt q hq).1))
                  have HO3 := Lib.hid hO3
                  clear hO3 hG3 HO2 HL2 HB2
                  refine hK.out _ _ (by (try dsimp only); exact HB3.out) (fun hHeld => ?_)
                  clear hK K
                  (try simp only [Act.put, List.setIfInBounds_toArray, List.set_cons_zero, List.set_cons_succ])
                  refine wpAnyH_ready (rs := [10]) (by kernel_rfl) (by simp) ?_
                  refine' AllReadyH.cons (o := _) ?hi531 (fun K hK => ?rest531) AllReadyH.nil
                  case hi531 => (simp only [List.getElem?_toArray, List.getElem?_cons_succ, List.getElem?_cons_zero]; rfl)
                  have HD3 : Hid (Rds .i64 u3 W8.heap.size (some ⟨g, 0, none⟩) (out.drop z)) := Lib.hid ((rds_nilP HO8.out.rds.2 (by have := HLo.out; omega)).below HB3.out)
                  refine wp_app (.tmp 42) (.tmp 45) ?_ W8.heap.size v3 _ ?_ HO3.out (some ⟨g, 0, none⟩) 0 0 W8.heap.size (out.drop z) ?_ ?_ HD3.out ?_ HB3.out.size ?_
                  · rfl
                  · rfl
                  · rfl
                  · have := HLo.out; first | (simp; done) | (simp; omega)
                  · have := HLo.out; first | (simp; done) | (simp; omega)
                  intro v4 u4 hO4 hG4
                  have HB4 := Lib.hid (HB3.out.grown hG4 HB3.out.size (fun q hq => (HO3.out.lt q hq).1))
                  have HO4 := Lib.hid hO4
                  clear hO4 hG4 HO3 HB3 HD3
                  refine hK.out _ _ (by (try dsimp only); exact HB4.out) (fun hHeld => ?_)
                  clear hK K
                  (try simp only [Act.put, List.setIfInBounds_toArray, List.set_cons_zero, List.set_cons_succ])
                  refine' wpAnyH_take (i := 11) (oi := _) (v := _) ?hi532 (by kernel_rfl) (by kernel_rfl) (by kernel_rfl) ?hq532 (Or.inl ⟨?hw532, ?hy532⟩) (by assumption) ?rest532
                  case hi532 => (simp only [List.getElem?_toArray, List.getElem?_cons_succ, List.getElem?_cons_zero]; rfl)
                  case hq532 => exact fun _ _ _ h => h
                  case hw532 => rfl
                  case hy532 => (intro wq hSw; (try dsimp only at hSw); go_simp; (try with_reducible rfl))
                  (try simp only [Act.put, List.setIfInBounds_toArray, List.set_cons_zero, List.set_cons_succ])
                  refine wpAnyH_done (by kernel_rfl) ?_ _
                  have hO5 := HO4.out
                  rw [← HStep.out] at hO5
                  obtain ⟨g4, c4, rfl, hg4, _⟩ := hO5.form (by rw [tfO_len]; omega)
                  have hlen5 : (tfO xs (k + 1)).length = k + 1 := tfO_len xs (k + 1)
                  rw [hlen5] at hO5 ⊢
                  have hc4 := cap_le hO5
                  have HN : Hid (Own u4 w.heap.size (.slice (some ⟨g4, 0, none⟩) (k + 1) c4) (tfO xs (k + 1)) ∧ Below w.heap.size w u4) := Lib.hid ⟨hO5.base_le HB8.out.size, HB8.out.trans (HB4.out.mono HB8.out.size)⟩
                  clear hO5 hlen5 HO4 HB4
                  go_wp2
                  go_roundw
                  case rel => exact ⟨k + 1, g4, c4, by omega, by go_num, rfl, HN⟩
                  case measure => simp [intOf]; omega
        · obtain rfl : z = 0 := by omega
          have hzP : 0 = P := hT.out
          subst hzP
          go_upto_region 6 with fail
          go_quiet (fail)
          go_upto_region 8 with fail
          have HB8 := Lib.hid (dnP hI.out.2 nq)
          have HO8 : Hid (Own (wq.drewN nq) w.heap.size (.slice (some ⟨g, 0, none⟩) k cc) out) := Lib.hid hI.out.1
          generalize wq.drewN nq = W8 at *
          have HC : Hid (∀ W : World, Below W8.heap.size W8 W → Calls Try.prog 44 #[.slice (some ⟨g, 0, none⟩) 0 cc] W (Made (out.take 0) W)) := Lib.hid (fun W hW => by
            have hr := (HO8.out.rds.2.below hW).more hW.size
            have e : (out.take 0).length = 0 := by have := HLo.out; first | (simp; done) | (simp; omega)
            have := copyInts_any (some ⟨g, 0, none⟩) cc (out.take 0) W (Rds.take hr _) (by omega)
            rw [e] at this
            exact this)
          refine wp_region_held_drew (S := (fun w' => Below W8.heap.size W8 w')) (by kernel_rfl) (by exact (Below.refl _ _).drew) (fun hHeld => ?_)
          refine' wpAnyH_take (i := 0) (oi := _) (v := _) ?hi533 (by kernel_rfl) (by kernel_rfl) (by kernel_rfl) ?hq533 (Or.inl ⟨?hw533, ?hy533⟩) (by assumption) ?rest533
          case hi533 => (simp only [List.getElem?_toArray, List.getElem?_cons_succ, List.getElem?_cons_zero]; rfl)
          case hq533 => exact fun _ _ _ h => h
          case hw533 => rfl
          case hy533 => (intro wq hSw; (try dsimp only at hSw); go_simp; (try with_reducible rfl))
          (try simp only [Act.put, List.setIfInBounds_toArray, List.set_cons_zero, List.set_cons_succ])
          refine' wpAnyH_take (i := 1) (oi := _) (v := _) ?hi534 (by kernel_rfl) (by kernel_rfl) (by kernel_rfl) ?hq534 (Or.inl ⟨?hw534, ?hy534⟩) (by assumption) ?rest534
          case hi534 => (simp only [List.getElem?_toArray, List.getElem?_cons_succ, List.getElem?_cons_zero]; rfl)
          case hq534 => exact fun _ _ _ h => h
          case hw534 => rfl
          case hy534 => (intro wq hSw; (try dsimp only at hSw); go_simp; (try with_reducible rfl))
          (try simp only [Act.put, List.setIfInBounds_toArray, List.set_cons_zero, List.set_cons_succ])
          refine' wpAnyH_take (i := 2) (oi := _) (v := _) ?hi535 (by kernel_rfl) (by kernel_rfl) (by kernel_rfl) ?hq535 (Or.inl ⟨?hw535, ?hy535⟩) (by assumption) ?rest535
          case hi535 => (simp only [List.getElem?_toArray, List.getElem?_cons_succ, List.getElem?_cons_zero]; rfl)
          case hq535 => exact fun _ _ _ h => h
          case hw535 => rfl
          case hy535 => (intro wq hSw; (try dsimp only at hSw); go_simp; (try with_reducible rfl))
          (try simp only [Act.put, List.setIfInBounds_toArray, List.set_cons_zero, List.set_cons_succ])
          refine' wpAnyH_take (i := 4) (oi := _) (v := _) ?hi536 (by kernel_rfl) (by kernel_rfl) (by kernel_rfl) ?hq536 (Or.inl ⟨?hw536, ?hy536⟩) (by assumption) ?rest536
          case hi536 => (simp only [List.getElem?_toArray, List.getElem?_cons_succ, List.getElem?_cons_zero]; rfl)
          case hq536 => exact fun _ _ _ h => h
          case hw536 => rfl
          case hy536 => (intro wq hSw; (try dsimp only at hSw); go_simp; (try with_reducible rfl))
          (try simp only [Act.put, List.setIfInBounds_toArray, List.set_cons_zero, List.set_cons_succ])
          refine' wpAnyH_take (i := 7) (oi := _) (v := _) ?hi537 (by kernel_rfl) (by kernel_rfl) (by kernel_rfl) ?hq537 (Or.inl ⟨?hw537, ?hy537⟩) (by assumption) ?rest537
          case hi537 => (simp only [List.getElem?_toArray, List.getElem?_cons_succ, List.getElem?_cons_zero]; rfl)
          case hq537 => exact fun _ _ _ h => h
          case hw537 => rfl
          case hy537 => (intro wq hSw; (try dsimp only at hSw); go_simp; (try with_reducible rfl))
          (try simp only [Act.put, List.setIfInBounds_toArray, List.set_cons_zero, List.set_cons_succ])
          refine' wpAnyH_take (i := 8) (oi := _) (v := _) ?hi538 (by kernel_rfl) (by kernel_rfl) (by kernel_rfl) ?hq538 (Or.inl ⟨?hw538, ?hy538⟩) (by assumption) ?rest538
          case hi538 => (simp only [List.getElem?_toArray, List.getElem?_cons_succ, List.getElem?_cons_zero]; rfl)
          case hq538 => exact fun _ _ _ h => h
          case hw538 => rfl
          case hy538 => (intro wq hSw; (try dsimp only at hSw); go_simp; (try with_reducible rfl))
          (try simp only [Act.put, List.setIfInBounds_toArray, List.set_cons_zero, List.set_cons_succ])
          refine' wpAnyH_take (i := 9) (oi := _) (v := _) ?hi539 (by kernel_rfl) (by kernel_rfl) (by kernel_rfl) ?hq539 (Or.inl ⟨?hw539, ?hy539⟩) (by assumption) ?rest539
          case hi539 => (simp only [List.getElem?_toArray, List.getElem?_cons_succ, List.getElem?_cons_zero]; rfl)
          case hq539 => exact fun _ _ _ h => h
          case hw539 => rfl
          case hy539 => (intro wq hSw; (try dsimp only at hSw); go_simp; (try with_reducible rfl))
          (try simp only [Act.put, List.setIfInBounds_toArray, List.set_cons_zero, List.set_cons_succ])
          refine wpAnyH_ready (rs := [3, 5]) (by kernel_rfl) (by simp) ?_
          refine' AllReadyH.cons (o := _) ?hi540 (fun K hK => ?rest540) (AllReadyH.cons (o := _) ?hj540 (fun K hK => ?rist540) AllReadyH.nil)
          case hi540 => (simp only [List.getElem?_toArray, List.getElem?_cons_succ, List.getElem?_cons_zero]; rfl)
          case hj540 => (simp only [List.getElem?_toArray, List.getElem?_cons_succ, List.getElem?_cons_zero]; rfl)
          case rest540 =>
            go_simp
            go_at_call 44
            refine (HC.out W8.drew ((Below.refl _ _).drew)).mono ?_
            rintro e u1 ⟨v1, rfl, hO1, hb1⟩
            have HB1 : Hid (Below W8.heap.size W8 u1) := Lib.hid (((Below.refl W8.heap.size W8).drew).trans hb1)
            have HO1 : Hid (Own u1 W8.heap.size v1 (out.take 0)) := Lib.hid hO1
            clear hO1 hb1
            go_wp2_with fail
            refine hK.out _ _ (by (try dsimp only); exact HB1.out) (fun hHeld => ?_)
            clear hK K
            (try simp only [Act.put, List.setIfInBounds_toArray, List.set_cons_zero, List.set_cons_succ])
            refine wpAnyH_ready (rs := [5]) (by kernel_rfl) (by simp) ?_
            refine' AllReadyH.cons (o := _) ?hi541 (fun K hK => ?rest541) AllReadyH.nil
            case hi541 => (simp only [List.getElem?_toArray, List.getElem?_cons_succ, List.getElem?_cons_zero]; rfl)
            go_simp
            have HB2 := Lib.hid (HB1.out.alloc HB1.out.size (.cells #[.int .i64 (k : Int)] 3))
            have HO2 := Lib.hid (HO1.out.alloc (.cells #[.int .i64 (k : Int)] 3))
            have HL2 := Lib.hid ((rds_one u1 (k : Int)).more (show u1.heap.size + 1 ≤ (u1.alloc (.cells #[.int .i64 (k : Int)] 3)).heap.size by simp))
            generalize u1.alloc (.cells #[.int .i64 (k : Int)] 3) = u2 at *
            generalize u1.heap.size = p1 at *
            clear HB1 HO1
            refine hK.out _ _ (by (try dsimp only); exact HB2.out) (fun hHeld => ?_)
            clear hK K
            (try simp only [Act.put, List.setIfInBounds_toArray, List.set_cons_zero, List.set_cons_succ])
            refine wpAnyH_ready (rs := [6]) (by kernel_rfl) (by simp) ?_
            refine' AllReadyH.cons (o := _) ?hi542 (fun K hK => ?rest542) AllReadyH.nil
            case hi542 => (simp only [List.getElem?_toArray, List.getElem?_cons_succ, List.getElem?_cons_zero]; rfl)
            refine wp_app (.tmp 39) (.tmp 41) ?_ W8.heap.size v1 _ ?_ HO2.out (some ⟨p1, 0, none⟩) 1 1 u2.heap.size [(k : Int)] ?_ rfl HL2.out ?_ HB2.out.size ?_
            · rfl
            · rfl
            · rfl
            · have := HLo.out; first | (simp; done) | (simp; omega)
            intro v3 u3 hO3 hG3
            have HB3 := Lib.hid (HB2.out.grown hG3 HB2.out.size (fun q hq => (HO2.out.lt q hq).1))
            have HO3 := Lib.hid hO3
            clear hO3 hG3 HO2 HL2 HB2
            refine hK.out _ _ (by (try dsimp only); exact HB3.out) (fun hHeld => ?_)
            clear hK K
            (try simp only [Act.put, List.setIfInBounds_toArray, List.set_cons_zero, List.set_cons_succ])
            refine wpAnyH_ready (rs := [10]) (by kernel_rfl) (by simp) ?_
            refine' AllReadyH.cons (o := _) ?hi543 (fun K hK => ?rest543) AllReadyH.nil
            case hi543 => (simp only [List.getElem?_toArray, List.getElem?_cons_succ, List.getElem?_cons_zero]; rfl)
            have HD3 : Hid (Rds .i64 u3 W8.heap.size (some ⟨g, 0, none⟩) (out.drop 0)) := Lib.hid ((HO8.out.rds.2).below HB3.out)
            refine wp_app (.tmp 42) (.tmp 45) ?_ W8.heap.size v3 _ ?_ HO3.out (some ⟨g, 0, none⟩) k cc W8.heap.size (out.drop 0) ?_ ?_ HD3.out ?_ HB3.out.size ?_
            · rfl
            · rfl
            · rfl
            · have := HLo.out; first | (simp; done) | (simp; omega)
            · have := HLo.out; first | (simp; done) | (simp; omega)
            intro v4 u4 hO4 hG4
            have HB4 := Lib.hid (HB3.out.grown hG4 HB3.out.size (fun q hq => (HO3.out.lt q hq).1))
            have HO4 := Lib.hid hO4
            clear hO4 hG4 HO3 HB3 HD3
            refine hK.out _ _ (by (try dsimp only); exact HB4.out) (fun hHeld => ?_)
            clear hK K
            (try simp only [Act.put, List.setIfInBounds_toArray, List.set_cons_zero, List.set_cons_succ])
            refine' wpAnyH_take (i := 11) (oi := _) (v := _) ?hi544 (by kernel_rfl) (by kernel_rfl) (by kernel_rfl) ?hq544 (Or.inl ⟨?hw544, ?hy544⟩) (by assumption) ?rest544
            case hi544 => (simp only [List.getElem?_toArray, List.getElem?_cons_succ, List.getElem?_cons_zero]; rfl)
            case hq544 => exact fun _ _ _ h => h
            case hw544 => rfl
            case hy544 => (intro wq hSw; (try dsimp only at hSw); go_simp; (try with_reducible rfl))
            (try simp only [Act.put, List.setIfInBounds_toArray, List.set_cons_zero, List.set_cons_succ])
            refine wpAnyH_done (by kernel_rfl) ?_ _
            have hO5 := HO4.out
            rw [← HStep.out] at hO5
            obtain ⟨g4, c4, rfl, hg4, _⟩ := hO5.form (by rw [tfO_len]; omega)
            have hlen5 : (tfO xs (k + 1)).length = k + 1 := tfO_len xs (k + 1)
            rw [hlen5] at hO5 ⊢
            have hc4 := cap_le hO5
            have HN : Hid (Own u4 w.heap.size (.slice (some ⟨g4, 0, none⟩) (k + 1) c4) (tfO xs (k + 1)) ∧ Below w.heap.size w u4) := Lib.hid ⟨hO5.base_le HB8.out.size, HB8.out.trans (HB4.out.mono HB8.out.size)⟩
            clear hO5 hlen5 HO4 HB4
            go_wp2
            go_roundw
            case rel => exact ⟨k + 1, g4, c4, by omega, by go_num, rfl, HN⟩
            case measure => simp [intOf]; omega
          case rist540 =>
            go_simp
            have HB1 : Hid (Below W8.heap.size W8 ((W8.alloc (.cells #[.int .i64 (k : Int)] 3)).drew)) := Lib.hid (((Below.refl W8.heap.size W8).alloc (Nat.le_refl _) _).drew)
            have HL1 : Hid (Rds .i64 ((W8.alloc (.cells #[.int .i64 (k : Int)] 3)).drew) ((W8.alloc (.cells #[.int .i64 (k : Int)] 3)).drew).heap.size (some ⟨W8.heap.size, 0, none⟩) [(k : Int)]) := Lib.hid ((rds_one W8 (k : Int)).more (show W8.heap.size + 1 ≤ ((W8.alloc (.cells #[.int .i64 (k : Int)] 3)).drew).heap.size by simp))
            generalize (W8.alloc (.cells #[.int .i64 (k : Int)] 3)).drew = u0 at *
            obtain ⟨p1, hp1⟩ : ∃ p, p = W8.heap.size := ⟨_, rfl⟩
            rw [← hp1] at HL1 ⊢
            clear hp1
            refine hK.out _ _ (by (try dsimp only); exact HB1.out) (fun hHeld => ?_)
            clear hK K
            (try simp only [Act.put, List.setIfInBounds_toArray, List.set_cons_zero, List.set_cons_succ])
            refine wpAnyH_ready (rs := [3]) (by kernel_rfl) (by simp) ?_
            refine' AllReadyH.cons (o := _) ?hi545 (fun K hK => ?rest545) AllReadyH.nil
            case hi545 => (simp only [List.getElem?_toArray, List.getElem?_cons_succ, List.getElem?_cons_zero]; rfl)
            go_simp
            go_at_call 44
            refine (HC.out u0 HB1.out).mono ?_
            rintro e u2 ⟨v1, rfl, hO1, hb1⟩
            have HB2 : Hid (Below W8.heap.size W8 u2) := Lib.hid (HB1.out.trans (hb1.mono HB1.out.size))
            have HO2 : Hid (Own u2 W8.heap.size v1 (out.take 0)) := Lib.hid (hO1.base_le HB1.out.size)
            have HL2 := Lib.hid ((HL1.out.below hb1).more hb1.size)
            clear hO1 hb1 HB1 HL1
            go_wp2_with fail
            refine hK.out _ _ (by (try dsimp only); exact HB2.out) (fun hHeld => ?_)
            clear hK K
            (try simp only [Act.put, List.setIfInBounds_toArray, List.set_cons_zero, List.set_cons_succ])
            refine wpAnyH_ready (rs := [6]) (by kernel_rfl) (by simp) ?_
            refine' AllReadyH.cons (o := _) ?hi546 (fun K hK => ?rest546) AllReadyH.nil
            case hi546 => (simp only [List.getElem?_toArray, List.getElem?_cons_succ, List.getElem?_cons_zero]; rfl)
            refine wp_app (.tmp 39) (.tmp 41) ?_ W8.heap.size v1 _ ?_ HO2.out (some ⟨p1, 0, none⟩) 1 1 u2.heap.size [(k : Int)] ?_ rfl HL2.out ?_ HB2.out.size ?_
            · rfl
            · rfl
            · rfl
            · have := HLo.out; first | (simp; done) | (simp; omega)
            intro v3 u3 hO3 hG3
            have HB3 := Lib.hid (HB2.out.grown hG3 HB2.out.size (fun q hq => (HO2.out.lt q hq).1))
            have HO3 := Lib.hid hO3
            clear hO3 hG3 HO2 HL2 HB2
            refine hK.out _ _ (by (try dsimp only); exact HB3.out) (fun hHeld => ?_)
            clear hK K
            (try simp only [Act.put, List.setIfInBounds_toArray, List.set_cons_zero, List.set_cons_succ])
            refine wpAnyH_ready (rs := [10]) (by kernel_rfl) (by simp) ?_
            refine' AllReadyH.cons (o := _) ?hi547 (fun K hK => ?rest547) AllReadyH.nil
            case hi547 => (simp only [List.getElem?_toArray, List.getElem?_cons_succ, List.getElem?_cons_zero]; rfl)
            have HD3 : Hid (Rds .i64 u3 W8.heap.size (some ⟨g, 0, none⟩) (out.drop 0)) := Lib.hid ((HO8.out.rds.2).below HB3.out)
            refine wp_app (.tmp 42) (.tmp 45) ?_ W8.heap.size v3 _ ?_ HO3.out (some ⟨g, 0, none⟩) k cc W8.heap.size (out.drop 0) ?_ ?_ HD3.out ?_ HB3.out.size ?_
            · rfl
            · rfl
            · rfl
            · have := HLo.out; first | (simp; done) | (simp; omega)
            · have := HLo.out; first | (simp; done) | (simp; omega)
            intro v4 u4 hO4 hG4
            have HB4 := Lib.hid (HB3.out.grown hG4 HB3.out.size (fun q hq => (HO3.out.lt q hq).1))
            have HO4 := Lib.hid hO4
            clear hO4 hG4 HO3 HB3 HD3
            refine hK.out _ _ (by (try dsimp only); exact HB4.out) (fun hHeld => ?_)
            clear hK K
            (try simp only [Act.put, List.setIfInBounds_toArray, List.set_cons_zero, List.set_cons_succ])
            refine' wpAnyH_take (i := 11) (oi := _) (v := _) ?hi548 (by kernel_rfl) (by kernel_rfl) (by kernel_rfl) ?hq548 (Or.inl ⟨?hw548, ?hy548⟩) (by assumption) ?rest548
            case hi548 => (simp only [List.getElem?_toArray, List.getElem?_cons_succ, List.getElem?_cons_zero]; rfl)
            case hq548 => exact fun _ _ _ h => h
            case hw548 => rfl
            case hy548 => (intro wq hSw; (try dsimp only at hSw); go_simp; (try with_reducible rfl))
            (try simp only [Act.put, List.setIfInBounds_toArray, List.set_cons_zero, List.set_cons_succ])
            refine wpAnyH_done (by kernel_rfl) ?_ _
            have hO5 := HO4.out
            rw [← HStep.out] at hO5
            obtain ⟨g4, c4, rfl, hg4, _⟩ := hO5.form (by rw [tfO_len]; omega)
            have hlen5 : (tfO xs (k + 1)).length = k + 1 := tfO_len xs (k + 1)
            rw [hlen5] at hO5 ⊢
            have hc4 := cap_le hO5
            have HN : Hid (Own u4 w.heap.size (.slice (some ⟨g4, 0, none⟩) (k + 1) c4) (tfO xs (k + 1)) ∧ Below w.heap.size w u4) := Lib.hid ⟨hO5.base_le HB8.out.size, HB8.out.trans (HB4.out.mono HB8.out.size)⟩
            clear hO5 hlen5 HO4 HB4
            go_wp2
            go_roundw
            case rel => exact ⟨k + 1, g4, c4, by omega, by go_num, rfl, HN⟩
            case measure => simp [intOf]; omega
    · obtain rfl : k = n := by omega
      have hkI : ¬ (k : Int) < (k : Int) := by omega
      go_wp2
      go_ret
      exact ⟨_, rfl, hI.out.1, hI.out.2⟩
end Go.Proofs.Ytgieijogopcjnaa
