/- Contract of UnfilterImage in the model. -/
import Derived.Test.YtolifmgkkkclkaaUfM
import Derived.Test.YtolifmgkkkclkaaChn
import Derived.Test.YtolifmgkkkclkaaImgA
import Derived.Test.YtolifmgkkkclkaaSpecM
import Derived.Test.YtolifmgkkkclkaaInvI
import Derived.Deep.RegionHeld3
import Derived.Deep.Cut
import Derived.RegionTactic
import Derived.BigRegion
namespace Go.Proofs.Ytolifmgkkkclkaa
open Go.RowKit Go.Shelf
set_option linter.unusedSimpArgs false
set_option linter.unusedVariables false
set_option maxRecDepth 20000

theorem gs_drop1 {W0 w : World} {a b : Rg} {L : List Rg} {Bs : List Bxg} (h : GS W0 w (a :: b :: L) Bs) : GS W0 w (a :: L) Bs := by
  have hs : (a :: L).Sublist (a :: b :: L) := .cons_cons _ (.cons _ (List.Sublist.refl _))
  exact ⟨h.1, fun t ht => h.2.1 t (hs.subset ht), h.2.2.1.sublist hs, fun b hb => ⟨(h.2.2.2.1 b hb).1, (h.2.2.2.1 b hb).2.1, fun t ht => (h.2.2.2.1 b hb).2.2 t (hs.subset ht)⟩, h.2.2.2.2⟩
set_option maxHeartbeats 16000000 in
theorem s_unfilterImage (W H P n T : Nat) (hn : n = W * P) (hn1 : 1 ≤ n) (hn64 : n ≤ 64) (hW : W ≤ 16) (hH1 : 1 ≤ H) (hH : H ≤ 16) (hP1 : 1 ≤ P) (hP : P ≤ 4) (b off c : Nat) (l : List Int) (hT : T = l.length) (hl : l.length = H * (n + 1)) (hlc : T ≤ c) (hby : Byt l) (w : World) (hx : Rds .i64 w w.heap.size (some ⟨b, off, none⟩) l) :
    Calls Try.prog 39 #[.int .i64 (W : Int), .int .i64 (H : Int), .int .i64 (P : Int), .slice (some ⟨b, off, none⟩) T c] w (UfR (unOk n H l) W H P (unL n P l H) w) := by
  have HX := Lib.hid hx
  have HT := Lib.hid hT
  have HL := Lib.hid hl
  have HBy := Lib.hid hby
  have hT2 : T ≤ 16 * 65 := by rw [hT, hl]; exact Nat.mul_le_mul hH (by omega)
  obtain ⟨N, hN⟩ : ∃ N, N = H * n := ⟨_, rfl⟩
  have hN1 : N ≤ 16 * 64 := by rw [hN]; exact Nat.mul_le_mul hH hn64
  have hN0 : 0 < N := by rw [hN]; exact Nat.mul_pos hH1 hn1
  have hWHP : W * H * P = N := by rw [hN, hn, Nat.mul_comm W H, Nat.mul_assoc]
  have HWHP := Lib.hid hWHP
  have HN := Lib.hid hN
  have i1 : (W : Int) * (P : Int) = (n : Int) := by rw [hn]; simp
  have w1 : IntKind.i64.wrap (n : Int) = (n : Int) := IntWalk.i64_in _ (by omega)
  have S0 : GS w (w.alloc (.cells #[.int .i64 0, .int .i64 0, .int .i64 0, .slice none 0 0] 25)) [] [⟨w.heap.size, 25, #[.int .i64 0, .int .i64 0, .int .i64 0, .slice none 0 0]⟩] := GS.box' (GS.start w) _ _ w.heap.size (by simp)
  clear hx hT hl hn hby hN hWHP
  go_enter Try.func39, Try.ntmps39
  go_wp2_with fail
  generalize w.alloc (.cells #[.int .i64 0, .int .i64 0, .int .i64 0, .slice none 0 0] 25) = u0 at *
  refine (newImage_any W H P hW hH hP u0).mono ?_
  rintro e u3 ⟨v3, rfl, hO3, hB3⟩
  have hzl : (zeros (W * H * P)).length = N := by simp [zeros, HWHP.out]
  obtain ⟨g, c2, rfl, hg1, hg2⟩ := hO3.form (by rw [hzl]; exact hN0)
  have S3 := S0.add hO3 hB3
  rw [hzl] at S3 ⊢
  obtain ⟨TL, hTL⟩ : ∃ TL, TL = unL n P l H := ⟨_, rfl⟩
  have hTl : TL.length = N := by rw [hTL, unL_len, HN.out]
  obtain ⟨UP, hUP⟩ : ∃ UP, UP = unP n P l := ⟨_, rfl⟩
  obtain ⟨lo3, hlo3⟩ : ∃ lo3, lo3 = u0.heap.size := ⟨_, rfl⟩
  obtain ⟨hi3, hhi3⟩ : ∃ hi3, hi3 = u3.heap.size := ⟨_, rfl⟩
  obtain ⟨b3, hb3⟩ : ∃ b3, b3 = u3.heap.size := ⟨_, rfl⟩
  rw [← hlo3, ← hhi3, HWHP.out] at S3
  have hwg : w.heap.size ≠ g := by have := S0.l0; omega
  have hwg2 : w.heap.size ≤ g := by have := S0.l0; omega
  have hb3g : ¬ b3 = g := by omega
  have HI0 : Hid (GS w (u3.alloc (.cells #[.int .i64 (W : Int), .int .i64 (H : Int), .int .i64 (P : Int), .slice (some ⟨g, 0, none⟩) N c2] 25)) [ri lo3 hi3 (.slice (some ⟨g, 0, none⟩) N c2) (TL.take 0 ++ zeros (N - 0))] [⟨b3, 25, #[.int .i64 (W : Int), .int .i64 (H : Int), .int .i64 (P : Int), .slice (some ⟨g, 0, none⟩) N c2]⟩, ⟨w.heap.size, 25, #[.int .i64 0, .int .i64 0, .int .i64 0, .slice none 0 0]⟩]) := Lib.hid (by simpa using GS.box' S3 _ _ b3 hb3)
  have HTL := Lib.hid hTL
  have HTl := Lib.hid hTl
  have HUP := Lib.hid hUP
  have HB3 := Lib.hid hb3
  obtain ⟨i, hi, hz, hsz, hbb2⟩ := info_parts info_int
  have Hi := Lib.hid hi
  have Hz := Lib.hid hz
  have Hs := Lib.hid hsz
  have Hb := Lib.hid hbb2
  have Hsz : Hid ((u3.alloc (.cells #[.int .i64 (W : Int), .int .i64 (H : Int), .int .i64 (P : Int), .slice (some ⟨g, 0, none⟩) N c2] 25)).heap.size = b3 + 1) := Lib.hid (by simp [hb3])
  have hwgN := Lib.hid hwg
  clear hO3 hB3 S0 S3 hzl hTL hTl hUP hlo3 hhi3 hb3 hg1 hg2 hi hz hsz hbb2
  go_wp2_with (refine wpList_make_full _ rfl (.tmp 24) (.tmp 24) 23 rfl (b3 + 1) 3 i _ 1 Try.underlying23 Hi.out Hz.out Hs.out .i64 .i64 _ _ n rfl rfl rfl rfl (by rw [Hb.out]; omega) (by unfold maxLen; omega) (by rw [Hsz.out]; exact Nat.le_refl _) ?_; intro wm hO1 hG1; rw [Hsz.out] at hO1)
  (try rw [← HB3.out])
  (try rw [Hsz.out])
  have HIm : Hid (GS w wm [ri (b3 + 1) wm.heap.size (.slice (some ⟨b3 + 1, 0, none⟩) n n) (UP 0), ri lo3 hi3 (.slice (some ⟨g, 0, none⟩) N c2) (TL.take 0 ++ zeros (N - 0))] [⟨b3, 25, #[.int .i64 (W : Int), .int .i64 (H : Int), .int .i64 (P : Int), .slice (some ⟨g, 0, none⟩) N c2]⟩, ⟨w.heap.size, 25, #[.int .i64 0, .int .i64 0, .int .i64 0, .slice none 0 0]⟩]) := Lib.hid (by
    have hOz : Own wm (b3 + 1) (.slice (some ⟨b3 + 1, 0, none⟩) n n) (zeros n) := by have h := own_zeros hO1; unfold Own; simpa using h
    have h := HI0.out.add (by rw [Hsz.out]; exact hOz) (bel_grown0 hG1)
    rw [Hsz.out] at h
    rw [HUP.out]
    exact h)
  clear hO1 hG1 HI0 Hi Hz Hs Hb Hsz i1 w1
  go_loopw [12, 13] (fun s12 s13 wr => ∃ (y j lo4 hi4 : Nat) (A4 : Option Addr) (c4 : Nat), s12 = .slice A4 n c4 ∧ y ≤ H ∧ s13 = .int .i64 y ∧ n ≤ c4 ∧ Hid (j = y * n) ∧ j ≤ N ∧ Hid (GS w wr [ri lo4 hi4 (.slice A4 n c4) (UP y), ri lo3 hi3 (.slice (some ⟨g, 0, none⟩) N c2) (TL.take j ++ zeros (N - j))] [⟨b3, 25, #[.int .i64 (W : Int), .int .i64 (H : Int), .int .i64 (P : Int), .slice (some ⟨g, 0, none⟩) N c2]⟩, ⟨w.heap.size, 25, #[.int .i64 0, .int .i64 0, .int .i64 0, .slice none 0 0]⟩]) ∧ Hid (∀ x, x < y → ptOk n l x = true)) (fun _ s13 _ => H - (intOf s13).toNat)
  case atStart => exact ⟨0, 0, b3 + 1, wm.heap.size, _, n, rfl, Nat.zero_le _, rfl, Nat.le_refl _, Lib.hid (by simp), Nat.zero_le _, HIm, Lib.hid (fun x hx => by omega)⟩
  case round =>
    clear HIm
    obtain ⟨y, j, lo4, hi4, A4, c4, rfl, hy, rfl, hc4, HJ, hjN, hG, HA⟩ := hrel
    by_cases hlt : y < H
    · obtain ⟨a, ha⟩ : ∃ a, a = y * (n + 1) := ⟨_, rfl⟩
      obtain ⟨a1, ha1⟩ : ∃ a1, a1 = a + 1 := ⟨_, rfl⟩
      obtain ⟨e, he⟩ : ∃ e, e = a1 + n := ⟨_, rfl⟩
      have heT : e ≤ T := by
        have := row_end HL.out hlt
        rw [← HT.out, ← ha] at this
        omega
      obtain ⟨b', off', hA', hb, hcx⟩ := HX.out.cells_ (j := 0) (by rw [← HT.out]; omega)
      injection hA' with hA'
      injection hA' with e1 e2
      subst e1 e2
      have xa := hcx a (by rw [← HT.out]; omega)
      have HRl : Hid (Rds .i64 w w.heap.size (some ⟨b, off + a1, none⟩) (ptR n l y)) := Lib.hid (.inr ⟨b, off + a1, rfl, hb, fun k hk => by
        rw [ptR_len HL.out hlt] at hk
        rw [ptR_get hk, Nat.add_assoc, ← ha, ← ha1]
        exact hcx (a1 + k) (by rw [← HT.out]; omega)⟩)
      obtain ⟨kd, hkd⟩ : ∃ kd, kd = l.getD a 0 := ⟨_, rfl⟩
      rw [← hkd] at xa
      have Hkp : Hid (kd = ptK n l y) := Lib.hid (by unfold ptK; rw [← ha]; exact hkd)
      have hnI : (n : Int) + 1 = ((n + 1 : Nat) : Int) := by simp
      have i1 : (y : Int) * ((n : Int) + 1) = (a : Int) := by rw [ha, hnI]; simp
      have i2 : (a : Int) + 1 = (a1 : Int) := by rw [ha1]; simp
      have i3 : (a1 : Int) + (n : Int) = (e : Int) := by rw [he]; simp
      have w0 : IntKind.i64.wrap ((n : Int) + 1) = (n : Int) + 1 := IntWalk.i64_in _ (by omega)
      have w1 : IntKind.i64.wrap (a : Int) = (a : Int) := IntWalk.i64_in _ (by omega)
      have w2 : IntKind.i64.wrap (a1 : Int) = (a1 : Int) := IntWalk.i64_in _ (by omega)
      have w3 : IntKind.i64.wrap (e : Int) = (e : Int) := IntWalk.i64_in _ (by omega)
      have k0 : (a : Int) < (T : Int) := by omega
      have k1 : (a1 : Int) ≤ (e : Int) := by omega
      have k2 : (e : Int) ≤ (c : Int) := by omega
      have k3 : ¬ c = a1 := by omega
      have k4 : e - a1 = n := by omega
      have HC := hG
      have xr := (HC.out.below.cell (p := ⟨b, off + a, none⟩) hb).trans xa
      clear hcx hkd hnI ha ha1 he
      go_wp2_with fail
      refine (sIn_any kd 0 4 _).mono ?_
      rintro e9 u9 ⟨rfl, rfl⟩
      by_cases hk4 : 0 ≤ kd ∧ kd ≤ 4
      case neg =>
        rw [decide_eq_false hk4]
        rw [Hkp.out] at hk4
        have Hv : Hid (unOk n H l = false) := Lib.hid (unOk_no hlt (ptOk_no hk4))
        obtain ⟨r0, r1, r2, r3⟩ := HC.out.b1_4
        have f0 := HC.out.f1 0
        have f1 := HC.out.f1 1
        have f2 := HC.out.f1 2
        have f3 := HC.out.f1 3
        have HE := Lib.hid (HC.out.e1_4 (.int .i64 0) (.int .i64 0) (.int .i64 0) (.slice none 0 0))
        clear HC hG xa hk4
        go_wp2
        exact bodyPost_ret (v := .tuple #[.agg #[.int .i64 0, .int .i64 0, .int .i64 0, .slice none 0 0], .bool false]) (by simp [results, Try.results39, go_sem, r0, r1, r2, r3]) rfl (UfR.no Hv.out HE.out.1)
      case pos =>
        rw [decide_eq_true hk4]
        have HPk : Hid (ptOk n l y = true) := Lib.hid (ptOk_of HBy.out (by rw [← Hkp.out]; exact hk4))
        have hlen := ptR_len HL.out hlt
        have hul : (UP y).length = n := by rw [HUP.out]; exact unP_len _ _ _ y
        have hub : Byt (UP y) := by rw [HUP.out]; exact unP_byt _ _ _ y
        have HUl : Hid ((UP (y + 1)).length = n) := Lib.hid (by rw [HUP.out]; exact unP_len _ _ _ _)
        have hpb := ptR_all (H := 0) HBy.out (n := n) y
        have HUF : Hid (∀ u, Rds .i64 u u.heap.size (some ⟨b, off + a1, none⟩) (ptR n l y) → Rds .i64 u u.heap.size A4 (UP y) → Calls Try.prog 58 #[.int .i64 kd, .slice (some ⟨b, off + a1, none⟩) n (c - a1), .slice A4 n c4, .int .i64 (P : Int)] u (Made (UP (y + 1)) u)) := Lib.hid (fun u h1 h2 => by
          have h := s_unfilterRow kd (some ⟨b, off + a1, none⟩) A4 (c - a1) c4 (ptR n l y) (UP y) P u h1 h2 (by omega) (by omega) hP1 hP hpb hub
          rw [hlen, hul] at h
          rw [show UP (y + 1) = unf kd (ptR n l y) (UP y) P n by rw [HUP.out, Hkp.out]; rfl]
          exact h)
        clear hlen hul hub hpb hk4 xr
        have HC := Lib.hid hG.out.drew
        clear hG
        go_upto_region 10 with fail
        refine wp_region_held_drew (S := (fun w' => w'.cell? ⟨b, off + a, none⟩ = some (.int .i64 kd))) (by kernel_rfl) (by exact (HC.out.below.cell (p := ⟨b, off + a, none⟩) hb).trans xa) (fun hHeld => ?_)
        refine' wpAnyH_take (i := 0) (oi := _) (v := _) ?hi1 (by kernel_rfl) (by kernel_rfl) (by kernel_rfl) ?hq1 (Or.inl ⟨?hw1, ?hy1⟩) (by assumption) ?rest1
        case hi1 => (simp only [List.getElem?_toArray, List.getElem?_cons_succ, List.getElem?_cons_zero]; rfl)
        case hq1 => exact fun _ _ _ h => h
        case hw1 => rfl
        case hy1 => (intro wq hSw; (try dsimp only at hSw); go_simp; (try with_reducible rfl))
        (try simp only [Act.put, List.setIfInBounds_toArray, List.set_cons_zero, List.set_cons_succ])
        refine' wpAnyH_take (i := 1) (oi := _) (v := _) ?hi2 (by kernel_rfl) (by kernel_rfl) (by kernel_rfl) ?hq2 (Or.inl ⟨?hw2, ?hy2⟩) (by assumption) ?rest2
        case hi2 => (simp only [List.getElem?_toArray, List.getElem?_cons_succ, List.getElem?_cons_zero]; rfl)
        case hq2 => exact fun _ _ _ h => h
        case hw2 => rfl
        case hy2 => (intro wq hSw; (try dsimp only at hSw); go_simp; (try with_reducible rfl))
        (try simp only [Act.put, List.setIfInBounds_toArray, List.set_cons_zero, List.set_cons_succ])
        refine' wpAnyH_take (i := 2) (oi := _) (v := _) ?hi3 (by kernel_rfl) (by kernel_rfl) (by kernel_rfl) ?hq3 (Or.inl ⟨?hw3, ?hy3⟩) (by assumption) ?rest3
        case hi3 => (simp only [List.getElem?_toArray, List.getElem?_cons_succ, List.getElem?_cons_zero]; rfl)
        case hq3 => exact fun _ _ _ h => h
        case hw3 => rfl
        case hy3 => (intro wq hSw; (try dsimp only at hSw); go_simp; (try with_reducible rfl))
        (try simp only [Act.put, List.setIfInBounds_toArray, List.set_cons_zero, List.set_cons_succ])
        refine' wpAnyH_take (i := 3) (oi := _) (v := _) ?hi4 (by kernel_rfl) (by kernel_rfl) (by kernel_rfl) ?hq4 (Or.inl ⟨?hw4, ?hy4⟩) (by assumption) ?rest4
        case hi4 => (simp only [List.getElem?_toArray, List.getElem?_cons_succ, List.getElem?_cons_zero]; rfl)
        case hq4 => exact fun _ _ _ h => h
        case hw4 => rfl
        case hy4 => (intro wq hSw; (try dsimp only at hSw); go_simp; (try with_reducible rfl))
        (try simp only [Act.put, List.setIfInBounds_toArray, List.set_cons_zero, List.set_cons_succ])
        refine' wpAnyH_take (i := 4) (oi := _) (v := _) ?hi5 (by kernel_rfl) (by kernel_rfl) (by kernel_rfl) ?hq5 (Or.inl ⟨?hw5, ?hy5⟩) (by assumption) ?rest5
        case hi5 => (simp only [List.getElem?_toArray, List.getElem?_cons_succ, List.getElem?_cons_zero]; rfl)
        case hq5 => exact fun _ _ _ h => h
        case hw5 => rfl
        case hy5 => (intro wq hSw; (try dsimp only at hSw); go_simp; (try with_reducible rfl))
        (try simp only [Act.put, List.setIfInBounds_toArray, List.set_cons_zero, List.set_cons_succ])
        refine' wpAnyH_take (i := 5) (oi := _) (v := _) ?hi6 (by kernel_rfl) (by kernel_rfl) (by kernel_rfl) ?hq6 (Or.inl ⟨?hw6, ?hy6⟩) (by assumption) ?rest6
        case hi6 => (simp only [List.getElem?_toArray, List.getElem?_cons_succ, List.getElem?_cons_zero]; rfl)
        case hq6 => exact fun _ _ _ h => h
        case hw6 => rfl
        case hy6 => (intro wq hSw; (try dsimp only at hSw); go_simp; (try with_reducible rfl))
        (try simp only [Act.put, List.setIfInBounds_toArray, List.set_cons_zero, List.set_cons_succ])
        refine' wpAnyH_take (i := 6) (oi := _) (v := _) ?hi7 (by kernel_rfl) (by kernel_rfl) (by kernel_rfl) ?hq7 (Or.inl ⟨?hw7, ?hy7⟩) (by assumption) ?rest7
        case hi7 => (simp only [List.getElem?_toArray, List.getElem?_cons_succ, List.getElem?_cons_zero]; rfl)
        case hq7 => exact fun _ _ _ h => h
        case hw7 => rfl
        case hy7 => (intro wq hSw; (try dsimp only at hSw); go_simp; (try with_reducible rfl))
        (try simp only [Act.put, List.setIfInBounds_toArray, List.set_cons_zero, List.set_cons_succ])
        refine' wpAnyH_take (i := 7) (oi := _) (v := _) ?hi8 (by kernel_rfl) (by kernel_rfl) (by kernel_rfl) ?hq8 (Or.inl ⟨?hw8, ?hy8⟩) (by assumption) ?rest8
        case hi8 => (simp only [List.getElem?_toArray, List.getElem?_cons_succ, List.getElem?_cons_zero]; rfl)
        case hq8 => exact fun _ _ _ h => h
        case hw8 => rfl
        case hy8 => (intro wq hSw; (try dsimp only at hSw); go_simp; (try with_reducible rfl))
        (try simp only [Act.put, List.setIfInBounds_toArray, List.set_cons_zero, List.set_cons_succ])
        refine' wpAnyH_take (i := 8) (oi := _) (v := _) ?hi9 (by kernel_rfl) (by kernel_rfl) (by kernel_rfl) ?hq9 (Or.inl ⟨?hw9, ?hy9⟩) (by assumption) ?rest9
        case hi9 => (simp only [List.getElem?_toArray, List.getElem?_cons_succ, List.getElem?_cons_zero]; rfl)
        case hq9 => exact fun _ _ _ h => h
        case hw9 => rfl
        case hy9 => (intro wq hSw; (try dsimp only at hSw); go_simp; (try with_reducible rfl))
        (try simp only [Act.put, List.setIfInBounds_toArray, List.set_cons_zero, List.set_cons_succ])
        refine' wpAnyH_take (i := 9) (oi := _) (v := _) ?hi10 (by kernel_rfl) (by kernel_rfl) (by kernel_rfl) ?hq10 (Or.inl ⟨?hw10, ?hy10⟩) (by assumption) ?rest10
        case hi10 => (simp only [List.getElem?_toArray, List.getElem?_cons_succ, List.getElem?_cons_zero]; rfl)
        case hq10 => exact fun _ _ _ h => h
        case hw10 => rfl
        case hy10 => (intro wq hSw; (try dsimp only at hSw); go_simp; (try with_reducible rfl))
        (try simp only [Act.put, List.setIfInBounds_toArray, List.set_cons_zero, List.set_cons_succ])
        refine' wpAnyH_take (i := 10) (oi := _) (v := _) ?hi11 (by kernel_rfl) (by kernel_rfl) (by kernel_rfl) ?hq11 (Or.inl ⟨?hw11, ?hy11⟩) (by assumption) ?rest11
        case hi11 => (simp only [List.getElem?_toArray, List.getElem?_cons_succ, List.getElem?_cons_zero]; rfl)
        case hq11 => exact fun _ _ _ h => h
        case hw11 => rfl
        case hy11 => (intro wq hSw; (try dsimp only at hSw); go_simp; (try with_reducible rfl))
        (try simp only [Act.put, List.setIfInBounds_toArray, List.set_cons_zero, List.set_cons_succ])
        refine' wpAnyH_take (i := 11) (oi := _) (v := _) ?hi12 (by kernel_rfl) (by kernel_rfl) (by kernel_rfl) ?hq12 (Or.inl ⟨?hw12, ?hy12⟩) (by assumption) ?rest12
        case hi12 => (simp only [List.getElem?_toArray, List.getElem?_cons_succ, List.getElem?_cons_zero]; rfl)
        case hq12 => exact fun _ _ _ h => h
        case hw12 => rfl
        case hy12 => (intro wq hSw; (try dsimp only at hSw); go_simp; (try with_reducible rfl))
        (try simp only [Act.put, List.setIfInBounds_toArray, List.set_cons_zero, List.set_cons_succ])
        refine' wpAnyH_take (i := 12) (oi := _) (v := _) ?hi13 (by kernel_rfl) (by kernel_rfl) (by kernel_rfl) ?hq13 (Or.inl ⟨?hw13, ?hy13⟩) (by assumption) ?rest13
        case hi13 => (simp only [List.getElem?_toArray, List.getElem?_cons_succ, List.getElem?_cons_zero]; rfl)
        case hq13 => exact fun _ _ _ h => h
        case hw13 => rfl
        case hy13 => (intro wq hSw; (try dsimp only at hSw); go_simp; (try with_reducible rfl))
        (try simp only [Act.put, List.setIfInBounds_toArray, List.set_cons_zero, List.set_cons_succ])
        refine' wpAnyH_take (i := 13) (oi := _) (v := _) ?hi14 (by kernel_rfl) (by kernel_rfl) (by kernel_rfl) ?hq14 (Or.inl ⟨?hw14, ?hy14⟩) (by assumption) ?rest14
        case hi14 => (simp only [List.getElem?_toArray, List.getElem?_cons_succ, List.getElem?_cons_zero]; rfl)
        case hq14 => exact fun _ _ _ h => h
        case hw14 => rfl
        case hy14 => (intro wq hSw; (try dsimp only at hSw); go_simp; (try with_reducible rfl))
        (try simp only [Act.put, List.setIfInBounds_toArray, List.set_cons_zero, List.set_cons_succ])
        refine wpAnyH_ready (rs := [14]) (by kernel_rfl) (by simp) ?_
        refine' AllReadyH.cons (o := _) ?hi15 (fun K hK => ?rest15) AllReadyH.nil
        case hi15 => (simp only [List.getElem?_toArray, List.getElem?_cons_succ, List.getElem?_cons_zero]; rfl)
        go_simp
        refine (HUF.out _ ((HC.out.arg HRl.out)) HC.out.r0).mono ?_
        rintro e u5 ⟨v5, rfl, hO5, hB5⟩
        obtain ⟨A6, c6, rfl, hc6⟩ := hO5.slice
        rw [HUl.out] at hO5 hc6 ⊢
        have HD := Lib.hid (gs_drop1 (HC.out.add hO5 hB5))
        obtain ⟨lo6, hlo6⟩ : ∃ k, k = wr.drew.heap.size := ⟨_, rfl⟩
        obtain ⟨hi6, hhi6⟩ : ∃ k, k = u5.heap.size := ⟨_, rfl⟩
        rw [← hlo6, ← hhi6] at HD
        clear hlo6 hhi6
        clear HC hO5 hB5
        have HC := HD
        clear HD
        go_wp2_with fail
        refine hK.out _ _ (by (try dsimp only); exact (HC.out.below.cell (p := ⟨b, off + a, none⟩) hb).trans xa) (fun hHeld => ?_)
        clear hK K
        (try simp only [Act.put, List.setIfInBounds_toArray, List.set_cons_zero, List.set_cons_succ])
        refine' wpAnyH_take (i := 15) (oi := _) (v := _) ?hi16 (by kernel_rfl) (by kernel_rfl) (by kernel_rfl) ?hq16 (Or.inl ⟨?hw16, ?hy16⟩) (by assumption) ?rest16
        case hi16 => (simp only [List.getElem?_toArray, List.getElem?_cons_succ, List.getElem?_cons_zero]; rfl)
        case hq16 => exact fun _ _ _ h => h
        case hw16 => rfl
        case hy16 => (intro wq hSw; (try dsimp only at hSw); go_simp; (try with_reducible rfl))
        (try simp only [Act.put, List.setIfInBounds_toArray, List.set_cons_zero, List.set_cons_succ])
        refine wpAnyH_done (by kernel_rfl) ?_ _
        go_wp2
        have HUs : Hid (∀ k, k < n → TL.getD (j + k) 0 = (UP (y + 1)).getD k 0) := Lib.hid (fun k hk => by rw [HTL.out, HJ.out, HUP.out]; exact unL_at hlt hk)
        have hjn : j + n ≤ N := by
          have := row_end HN.out hlt
          rw [HJ.out]; exact this
        go_loopw [16] (fun s16 wx => ∃ k : Nat, k ≤ n ∧ s16 = .int .i64 k ∧ Hid (GS w wx [ri lo6 hi6 (.slice A6 n c6) (UP (y + 1)), ri lo3 hi3 (.slice (some ⟨g, 0, none⟩) N c2) (TL.take (j + k) ++ zeros (N - (j + k)))] [⟨b3, 25, #[.int .i64 (W : Int), .int .i64 (H : Int), .int .i64 (P : Int), .slice (some ⟨g, 0, none⟩) N c2]⟩, ⟨w.heap.size, 25, #[.int .i64 0, .int .i64 0, .int .i64 0, .slice none 0 0]⟩])) (fun s16 _ => n - (intOf s16).toNat)
        case atStart => exact ⟨0, Nat.zero_le _, rfl, HC⟩
        case round =>
          clear HC
          obtain ⟨k, hk, rfl, hI⟩ := hrel
          obtain ⟨o0, o1, o2, o3⟩ := hI.out.drew.b0_4
          by_cases hkn : k < n
          · have hlj : (TL.take (j + k) ++ zeros (N - (j + k))).length = N := by simp [zeros, HTl.out]; omega
            obtain ⟨bi, oi, rfl, hbi, hci⟩ := (hI.out.r0).cells_ (j := k) (by rw [HUl.out]; exact hkn)
            have hcq := hci k (by rw [HUl.out]; exact hkn)
            have hown := hI.out.o1
            obtain ⟨p, hp⟩ : ∃ p, p = j + k := ⟨_, rfl⟩
            rw [← hp] at hlj hown
            have hpN : p < N := by omega
            have hcw := hown.cell hlj.symm (j := p) (by omega)
            have hfw := hown.frozen hlj.symm p
            have hput := (show Own wr.drew lo3 (.slice (some ⟨g, 0, none⟩) N c2) (TL.take p ++ zeros (N - p)) from hown).put hlj.symm p (TL.getD p 0)
            have hset := take_set_next TL p (by rw [HTl.out]; exact hpN)
            rw [HTl.out] at hset
            rw [hset] at hput
            have HI2 := hI.out.drew
            rw [← hp] at HI2
            have HNx := Lib.hid (HI2.mark1 hput.1 (by simp [zeros, HTl.out]; omega) hput.2)
            have hv : (UP (y + 1)).getD k 0 = TL.getD p 0 := by rw [hp]; exact (HUs.out k hkn).symm
            rw [hv] at hcq
            have hne := hI.out.ne01
            have hne2 : ¬ bi = g := hne _ rfl
            have hne3 : ¬ b3 = g := hb3g
            have j1 : (y : Int) * (n : Int) = (j : Int) := by rw [HJ.out]; simp
            have j2 : (j : Int) + (k : Int) = (p : Int) := by rw [hp]; simp
            have jw1 : IntKind.i64.wrap (j : Int) = (j : Int) := IntWalk.i64_in _ (by omega)
            have jw2 : IntKind.i64.wrap (p : Int) = (p : Int) := IntWalk.i64_in _ (by omega)
            have hkc : k < c6 := by omega
            have hpI : (p : Int) < (N : Int) := by omega
            have HPp : Hid (p + 1 = j + (k + 1)) := Lib.hid (by omega)
            clear hci hput hlj hown hset hp hv hne HI2 hI
            generalize TL.getD p 0 = v at *
            generalize (List.getD (TL.take p ++ zeros (N - p)) p 0) = z at *
            go_wp2
            go_region
            all_goals
              (try go_wp2)
              go_roundw
              case rel => exact ⟨k + 1, by omega, by go_num, by rw [← HPp.out]; exact HNx⟩
              case measure => simp [intOf]; omega
          · obtain rfl : k = n := by omega
            have HJ2 : Hid (j + k = (y + 1) * k) := Lib.hid (by rw [HJ.out, Nat.add_mul, Nat.one_mul])
            have HA2 : Hid (∀ x, x < y + 1 → ptOk k l x = true) := Lib.hid (fun x hx => by
              by_cases e : x = y
              · subst e; exact HPk.out
              · exact HA.out x (by omega))
            clear o0 o1 o2 o3
            go_wp2
            go_roundw
            case rel => exact ⟨y + 1, j + k, lo6, hi6, A6, c6, rfl, by omega, by go_num, hc6, HJ2, hjn, hI, HA2⟩
            case measure => simp [intOf]; omega
    · have hyH : y = H := by omega
      have hjN2 : j = N := by rw [HJ.out, HN.out, hyH]
      have hok : unOk n H l = true := unOk_yes (by rw [← hyH]; exact HA.out)
      have Hok := Lib.hid hok
      have hE1 : TL.take j ++ zeros (N - j) = unL n P l H := by rw [hjN2, Nat.sub_self, List.take_of_length_le (by rw [HTl.out]; exact Nat.le_refl _), HTL.out]; simp [zeros]
      have hG2 := hG.out
      rw [hE1] at hG2
      obtain ⟨q0, q1, q2, q3⟩ := hG2.b0_4
      obtain ⟨r0, r1, r2, r3⟩ := hG2.b1_4
      have f0 := hG2.f1 0
      have f1 := hG2.f1 1
      have f2 := hG2.f1 2
      have f3 := hG2.f1 3
      have HE := Lib.hid (hG2.e1_4 (.int .i64 (W : Int)) (.int .i64 (H : Int)) (.int .i64 (P : Int)) (.slice (some ⟨g, 0, none⟩) N c2))
      clear hG hG2 hE1 hok hjN2 hyH
      go_wp2
      exact bodyPost_ret (v := .tuple #[.agg #[.int .i64 (W : Int), .int .i64 (H : Int), .int .i64 (P : Int), .slice (some ⟨g, 0, none⟩) N c2], .bool true]) (by simp [results, Try.results39, go_sem, r0, r1, r2, r3]) rfl (UfR.yes Hok.out (HE.out.2 _ (List.Mem.tail _ (List.Mem.head _))) HE.out.1)
set_option maxHeartbeats 8000000 in
theorem s_UnfilterImage (W H P : Int) (A : Option Addr) (c : Nat) (l : List Int) (w : World) (hx : Rds .i64 w w.heap.size A l) (hl : l.length ≤ 2000000) (hlc : l.length ≤ c) :
    Calls Try.prog 14 #[.int .i64 W, .int .i64 H, .int .i64 P, .slice A l.length c] w (UfR (ufOk W H P l) W H P (ufL W H P l) w) := by
  have HX := Lib.hid hx
  clear hx
  have S0 : GS w (w.alloc (.cells #[.int .i64 0, .int .i64 0, .int .i64 0, .slice none 0 0] 25)) [] [⟨w.heap.size, 25, #[.int .i64 0, .int .i64 0, .int .i64 0, .slice none 0 0]⟩] := GS.box' (GS.start w) _ _ w.heap.size (by simp)
  obtain ⟨T, hT⟩ : ∃ T, T = l.length := ⟨_, rfl⟩
  have HT := Lib.hid hT
  rw [← hT] at hl hlc ⊢
  clear hT
  go_enter Try.func14, Try.ntmps14
  go_wp2_with fail
  generalize w.alloc (.cells #[.int .i64 0, .int .i64 0, .int .i64 0, .slice none 0 0] 25) = u0 at *
  refine (sShape_any W H P u0).mono ?_
  rintro e u1 ⟨rfl, rfl⟩
  cases hv : vsh W H P
  · have Hv : Hid (ufOk W H P l = false) := Lib.hid (ufOk_v hv)
    clear hv
    obtain ⟨r0, r1, r2, r3⟩ := S0.b0_4
    have f0 := S0.f0 0
    have f1 := S0.f0 1
    have f2 := S0.f0 2
    have f3 := S0.f0 3
    have HE := Lib.hid (S0.e0_4 (.int .i64 0) (.int .i64 0) (.int .i64 0) (.slice none 0 0))
    clear S0
    go_wp2
    exact bodyPost_ret (v := .tuple #[.agg #[.int .i64 0, .int .i64 0, .int .i64 0, .slice none 0 0], .bool false]) (by simp [results, Try.results14, go_sem, r0, r1, r2, r3]) rfl (UfR.no Hv.out HE.out.1)
  · obtain ⟨W, H, P, rfl, rfl, rfl, ⟨hW1, hW⟩, ⟨hH1, hH⟩, hP1, hP⟩ := vsh_natU hv
    have HV := Lib.hid hv
    clear hv
    obtain ⟨n, hn⟩ : ∃ n, n = W * P := ⟨_, rfl⟩
    obtain ⟨m, hm⟩ : ∃ m, m = H * (n + 1) := ⟨_, rfl⟩
    have hn64 : n ≤ 64 := by rw [hn]; exact Nat.mul_le_mul hW hP
    have hn1 : 1 ≤ n := by rw [hn]; exact Nat.mul_pos hW1 hP1
    have hm2 : m ≤ 16 * 65 := by rw [hm]; exact Nat.mul_le_mul hH (by omega)
    have hnI : (n : Int) + 1 = ((n + 1 : Nat) : Int) := by simp
    have i1 : (W : Int) * (P : Int) = (n : Int) := by rw [hn]; simp
    have i2 : (H : Int) * ((n : Int) + 1) = (m : Int) := by rw [hm, hnI]; simp
    have w0 : IntKind.i64.wrap (n : Int) = (n : Int) := IntWalk.i64_in _ (by omega)
    have w1 : IntKind.i64.wrap ((n : Int) + 1) = (n : Int) + 1 := IntWalk.i64_in _ (by omega)
    have w2 : IntKind.i64.wrap (m : Int) = (m : Int) := IntWalk.i64_in _ (by omega)
    have hlm : (l.length : Int) = (H : Int) * ((W : Int) * (P : Int) + 1) ↔ T = m := by
      rw [i1, i2, HT.out]; omega
    have HLM := Lib.hid hlm
    have HNn := Lib.hid hn
    have HMm := Lib.hid hm
    clear hnI hlm hn hm
    by_cases hTm : T = m
    case neg =>
      have Hv : Hid (ufOk W H P l = false) := Lib.hid (ufOk_n (fun h => hTm (HLM.out.1 h)))
      have hTi : ¬ (T : Int) = (m : Int) := by omega
      obtain ⟨r0, r1, r2, r3⟩ := S0.b0_4
      have f0 := S0.f0 0
      have f1 := S0.f0 1
      have f2 := S0.f0 2
      have f3 := S0.f0 3
      have HE := Lib.hid (S0.e0_4 (.int .i64 0) (.int .i64 0) (.int .i64 0) (.slice none 0 0))
      clear S0
      go_wp2
      exact bodyPost_ret (v := .tuple #[.agg #[.int .i64 0, .int .i64 0, .int .i64 0, .slice none 0 0], .bool false]) (by simp [results, Try.results14, go_sem, r0, r1, r2, r3]) rfl (UfR.no Hv.out HE.out.1)
    case pos =>
      have hTi : (T : Int) = (m : Int) := by omega
      have hll : l.length = H * (W * P + 1) := by rw [← HT.out, hTm, HMm.out, HNn.out]
      have hbb : allB 0 255 l = false → ufOk W H P l = false := ufOk_b hll
      have HBB := Lib.hid hbb
      have HLL := Lib.hid hll
      have HYy := Lib.hid (ufOk_y HV.out (HLM.out.2 hTm))
      have HTm := Lib.hid hTm
      have hAl := sAllIn_any A c _ l 0 255 u0 (S0.arg HX.out) (by rw [← HT.out]; omega)
      rw [← HT.out] at hAl
      have HAl := Lib.hid hAl
      clear hll hbb hAl
      subst hTm
      clear hTi
      go_wp2_with fail
      refine HAl.out.mono ?_
      rintro e u2 ⟨rfl, rfl⟩
      cases hb : allB 0 255 l
      · have Hv : Hid (ufOk W H P l = false) := Lib.hid (HBB.out hb)
        clear hb
        obtain ⟨r0, r1, r2, r3⟩ := S0.b0_4
        have f0 := S0.f0 0
        have f1 := S0.f0 1
        have f2 := S0.f0 2
        have f3 := S0.f0 3
        have HE := Lib.hid (S0.e0_4 (.int .i64 0) (.int .i64 0) (.int .i64 0) (.slice none 0 0))
        clear S0
        go_wp2
        exact bodyPost_ret (v := .tuple #[.agg #[.int .i64 0, .int .i64 0, .int .i64 0, .slice none 0 0], .bool false]) (by simp [results, Try.results14, go_sem, r0, r1, r2, r3]) rfl (UfR.no Hv.out HE.out.1)
      · have hT0 : 0 < l.length := by rw [HLL.out]; exact Nat.mul_pos hH1 (by omega)
        obtain ⟨b, off, rfl, hbw, hcx⟩ := HX.out.cells_ (j := 0) hT0
        have HC := Lib.hid (s_unfilterImage W H P n T HNn.out hn1 hn64 hW hH1 hH hP1 hP b off c l HT.out (by rw [HLL.out, HNn.out]) hlc (byt_of_all hb) u0 (S0.arg HX.out))
        clear hb hT0 hcx
        go_wp2_with fail
        refine HC.out.mono ?_
        rintro e u3 ⟨v3, rfl, hO3, hB3⟩
        have hY := HYy.out
        rw [← HNn.out] at hY
        have HU : Hid (ufL W H P l = unL n P l H) := Lib.hid (by unfold ufL; rw [HNn.out]; rfl)
        obtain ⟨A5, c5, rfl, _⟩ := hO3.slice
        have S3 := S0.add hO3 hB3
        obtain ⟨n5, hn5⟩ : ∃ n5, n5 = (cond (unOk n H l) (unL n P l H) []).length := ⟨_, rfl⟩
        rw [← hn5] at S3 ⊢
        clear hn5
        have HYo := Lib.hid hY
        clear hO3 hB3 HC HBB HLL HYy hY HLM HTm HAl i1 i2 w0 w1 w2
        generalize unOk n H l = ok at *
        generalize unL n P l H = yl at *
        obtain ⟨xW, hxW⟩ : ∃ x, x = cond ok (W : Int) 0 := ⟨_, rfl⟩
        obtain ⟨xH, hxH⟩ : ∃ x, x = cond ok (H : Int) 0 := ⟨_, rfl⟩
        obtain ⟨xP, hxP⟩ : ∃ x, x = cond ok (P : Int) 0 := ⟨_, rfl⟩
        have HxW := Lib.hid hxW
        have HxH := Lib.hid hxH
        have HxP := Lib.hid hxP
        rw [← hxW, ← hxH, ← hxP]
        clear hxW hxH hxP
        obtain ⟨r0, r1, r2, r3⟩ := S3.b0_4
        have f0 := S3.f0 0
        have f1 := S3.f0 1
        have f2 := S3.f0 2
        have f3 := S3.f0 3
        have HE := Lib.hid (S3.e0_4 (.int .i64 xW) (.int .i64 xH) (.int .i64 xP) (.slice A5 n5 c5))
        clear S0 S3
        go_wp2
        exact bodyPost_ret (v := .tuple #[.agg #[.int .i64 xW, .int .i64 xH, .int .i64 xP, .slice A5 n5 c5], .bool ok]) (by simp [results, Try.results14, go_sem, r0, r1, r2, r3]) rfl (by rw [HxW.out, HxH.out, HxP.out] at HE ⊢; rw [HYo.out, HU.out]; exact ⟨.slice A5 n5 c5, rfl, HE.out.2 _ (List.Mem.head _), HE.out.1⟩)
end Go.Proofs.Ytolifmgkkkclkaa
