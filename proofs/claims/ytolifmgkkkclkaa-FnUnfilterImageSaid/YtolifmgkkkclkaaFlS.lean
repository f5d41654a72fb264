/- Contract of FilterImage in the model. -/
import Derived.Test.YtolifmgkkkclkaaFlM
import Derived.Test.YtolifmgkkkclkaaChn
import Derived.Test.YtolifmgkkkclkaaImgA
import Derived.Test.YtolifmgkkkclkaaSpecM
import Derived.Test.YtolifmgkkkclkaaGridF
import Derived.Deep.RegionHeld3
namespace Go.Proofs.Ytolifmgkkkclkaa
open Go.RowKit Go.Shelf
set_option linter.unusedSimpArgs false
set_option linter.unusedVariables false
set_option maxRecDepth 20000

set_option maxHeartbeats 4000000 in
theorem s_rowData (W H P n y T : Nat) (hn : n = W * P) (hn1 : 1 ≤ n) (hn64 : n ≤ 64) (hH : H ≤ 16) (hy : y < H) (b off c : Nat) (xs : List Int) (hT : T = xs.length) (hl : xs.length = H * n) (hlc : T ≤ c) (w : World) (hx : Rds .i64 w w.heap.size (some ⟨b, off, none⟩) xs) :
    Calls Try.prog 51 #[.agg #[.int .i64 (W : Int), .int .i64 (H : Int), .int .i64 (P : Int), .slice (some ⟨b, off, none⟩) T c], .int .i64 (y : Int)] w (Made (rwL n xs y) w) := by
  have hend := row_end hl hy
  obtain ⟨a, ha⟩ : ∃ a, a = y * n := ⟨_, rfl⟩
  obtain ⟨e, he⟩ : ∃ e, e = a + n := ⟨_, rfl⟩
  have hT1 : T ≤ 1024 := by rw [hT, hl]; exact Nat.mul_le_mul hH hn64
  have heT : e ≤ T := by rw [he, ha, hT]; exact hend
  have i1 : (W : Int) * (P : Int) = (n : Int) := by rw [hn]; simp
  have i2 : (y : Int) * (n : Int) = (a : Int) := by rw [ha]; simp
  have i3 : ((y : Int) + 1) * (n : Int) = (e : Int) := by rw [he, ha, Int.add_mul, Int.one_mul]; simp
  have w1 : IntKind.i64.wrap (n : Int) = (n : Int) := IntWalk.i64_in _ (by omega)
  have w2 : IntKind.i64.wrap (a : Int) = (a : Int) := IntWalk.i64_in _ (by omega)
  have w3 : IntKind.i64.wrap ((y : Int) + 1) = (y : Int) + 1 := IntWalk.i64_in _ (by omega)
  have w4 : IntKind.i64.wrap (e : Int) = (e : Int) := IntWalk.i64_in _ (by omega)
  have k1 : (a : Int) ≤ (e : Int) := by omega
  have k2 : (e : Int) ≤ (c : Int) := by omega
  have k3 : ¬ c = a := by omega
  have k4 : e - a = n := by omega
  have hrl := rwL_len hl hy
  have HR : Hid (Rds .i64 (w.alloc (.cells #[.int .i64 (W : Int), .int .i64 (H : Int), .int .i64 (P : Int), .slice (some ⟨b, off, none⟩) T c] 25)) (w.alloc (.cells #[.int .i64 (W : Int), .int .i64 (H : Int), .int .i64 (P : Int), .slice (some ⟨b, off, none⟩) T c] 25)).heap.size (some ⟨b, off + a, none⟩) (rwL n xs y)) := Lib.hid (by
    obtain ⟨b', off', hA, hb, hc⟩ := ((hx.alloc (Nat.le_refl _) (.cells #[.int .i64 (W : Int), .int .i64 (H : Int), .int .i64 (P : Int), .slice (some ⟨b, off, none⟩) T c] 25)).more (show w.heap.size ≤ (w.alloc (.cells #[.int .i64 (W : Int), .int .i64 (H : Int), .int .i64 (P : Int), .slice (some ⟨b, off, none⟩) T c] 25)).heap.size by simp)).cells_ (j := 0) (by rw [← hT]; omega)
    injection hA with hA; injection hA with h1 h2; subst h1 h2
    refine .inr ⟨b, off + a, rfl, hb, fun j hj => ?_⟩
    rw [hrl] at hj
    rw [rwL_get hj, Nat.add_assoc, ha]
    exact hc (y * n + j) (by rw [← hT]; omega))
  have HB : Hid (Below w.heap.size w (w.alloc (.cells #[.int .i64 (W : Int), .int .i64 (H : Int), .int .i64 (P : Int), .slice (some ⟨b, off, none⟩) T c] 25))) := Lib.hid ((Below.refl _ _).alloc (Nat.le_refl _) _)
  clear ha he hT hl hend hn hx
  go_enter Try.func51, Try.ntmps51
  go_wp2_with fail
  have hcp := copyInts_any (some ⟨b, off + a, none⟩) (c - a) (rwL n xs y) _ HR.out (by omega)
  rw [hrl] at hcp
  (try rw [k4])
  refine hcp.mono ?_
  rintro e w2 ⟨v, rfl, hO, hb⟩
  have HF : Hid (Made (rwL n xs y) w (.returned v) w2) := Lib.hid ⟨v, rfl, hO.base_le HB.out.size, HB.out.trans (hb.mono HB.out.size)⟩
  clear hO hb hcp
  go_wp2
  go_ret
  exact HF.out
set_option maxHeartbeats 16000000 in
theorem s_filterImage (W H P n T : Nat) (hn : n = W * P) (hn1 : 1 ≤ n) (hn64 : n ≤ 64) (hH1 : 1 ≤ H) (hH : H ≤ 16) (hP1 : 1 ≤ P) (hP : P ≤ 4) (b off c : Nat) (xs : List Int) (hT : T = xs.length) (hl : xs.length = H * n) (hlc : T ≤ c) (hby : Byt xs) (w : World) (hx : Rds .i64 w w.heap.size (some ⟨b, off, none⟩) xs) :
    Calls Try.prog 31 #[.agg #[.int .i64 (W : Int), .int .i64 (H : Int), .int .i64 (P : Int), .slice (some ⟨b, off, none⟩) T c]] w (Made (fiL n P xs H) w) := by
  have HX := Lib.hid hx
  have HT := Lib.hid hT
  have HL := Lib.hid hl
  have HN := Lib.hid hn
  have HBy := Lib.hid hby
  obtain ⟨b2, hb2⟩ : ∃ b2, b2 = w.heap.size := ⟨_, rfl⟩
  obtain ⟨g0, hg0⟩ : ∃ g0, g0 = w.heap.size + 1 := ⟨_, rfl⟩
  have i1 : (W : Int) * (P : Int) = (n : Int) := by rw [hn]; simp
  have w1 : IntKind.i64.wrap (n : Int) = (n : Int) := IntWalk.i64_in _ (by omega)
  have S0 : GS w (w.alloc (.cells #[.int .i64 (W : Int), .int .i64 (H : Int), .int .i64 (P : Int), .slice (some ⟨b, off, none⟩) T c] 25)) [] [⟨b2, 25, #[.int .i64 (W : Int), .int .i64 (H : Int), .int .i64 (P : Int), .slice (some ⟨b, off, none⟩) T c]⟩] := GS.box' (GS.start w) _ _ b2 hb2
  obtain ⟨bb, hbb⟩ : ∃ bb, bb = w.heap.size + 1 := ⟨_, rfl⟩
  have hG0 : GA w ((w.alloc (.cells #[.int .i64 (W : Int), .int .i64 (H : Int), .int .i64 (P : Int), .slice (some ⟨b, off, none⟩) T c] 25)).alloc (.cells #[] 3)) bb (.slice (some ⟨g0, 0, none⟩) 0 0) [] [] [⟨b2, 25, #[.int .i64 (W : Int), .int .i64 (H : Int), .int .i64 (P : Int), .slice (some ⟨b, off, none⟩) T c]⟩] := by
    have hO := own_none (w.alloc (.cells #[.int .i64 (W : Int), .int .i64 (H : Int), .int .i64 (P : Int), .slice (some ⟨b, off, none⟩) T c] 25))
    have e : (w.alloc (.cells #[.int .i64 (W : Int), .int .i64 (H : Int), .int .i64 (P : Int), .slice (some ⟨b, off, none⟩) T c] 25)).heap.size = bb := by rw [hbb]; simp
    rw [e] at hO
    have h := GR.start (E := 3) (C := 1) S0 (World.grownBy_alloc _ (.cells #[] 3) none) (by rw [e]; exact hO)
    rw [e] at h
    rw [show g0 = bb by omega]
    exact h
  have HG0 := Lib.hid hG0
  have Hsz : Hid (((w.alloc (.cells #[.int .i64 (W : Int), .int .i64 (H : Int), .int .i64 (P : Int), .slice (some ⟨b, off, none⟩) T c] 25)).alloc (.cells #[] 3)).heap.size = w.heap.size + 2) := Lib.hid (by simp)
  have HB2 := Lib.hid hb2
  have Hg0 := Lib.hid hg0
  obtain ⟨i, hi, hz, hsz, hbb2⟩ := info_parts info_int
  have Hi := Lib.hid hi
  have Hz := Lib.hid hz
  have Hs := Lib.hid hsz
  have Hb := Lib.hid hbb2
  have Hbb := Lib.hid hbb
  have Hbw : Hid (w.heap.size ≤ bb) := Lib.hid (by omega)
  clear hx hT hl hn hby S0 hG0 hi hz hsz hbb2 hg0 hb2 hbb
  go_enter Try.func31, Try.ntmps31
  go_wp2_with (refine wpList_make_full _ rfl (.tmp 13) (.tmp 13) 23 rfl (w.heap.size + 2) 3 i _ 1 Try.underlying23 Hi.out Hz.out Hs.out .i64 .i64 _ _ n rfl rfl rfl rfl (by rw [Hb.out]; omega) (by unfold maxLen; omega) (by rw [Hsz.out]; exact Nat.le_refl _) ?_; intro wm hO1 hG1; rw [Hsz.out] at hO1)
  (try rw [show w.heap.size + 1 + 1 = w.heap.size + 2 by omega])
  (try rw [Hsz.out])
  have hOz : Own wm (w.heap.size + 2) (.slice (some ⟨w.heap.size + 2, 0, none⟩) n n) (zeros n) := by have h := own_zeros hO1; unfold Own; simpa using h
  have HGm := Lib.hid (GA.call HG0.out (bel_grown0 hG1))
  have HRm : Hid (Rsp wm (.slice (some ⟨g0, 0, none⟩) 0 0) (some ⟨w.heap.size + 2, 0, none⟩) (rwB n xs 0)) := Lib.hid ⟨hOz.rds.2, fun a ha => by
    injection ha with ha; subst ha
    have h1 := hOz.lt _ rfl
    refine ⟨h1.2, fun e => ?_⟩
    simp only [Value.ownBlock, Option.some.injEq] at e
    have := Hg0.out; omega⟩
  have HF0 : Hid (fiL n P xs 0 = []) := Lib.hid rfl
  obtain ⟨F, hF⟩ : ∃ F, F = fiL n P xs := ⟨_, rfl⟩
  obtain ⟨Bf, hBf⟩ : ∃ Bf, Bf = rwB n xs := ⟨_, rfl⟩
  rw [← hF] at HF0 ⊢
  rw [← hBf] at HRm
  have HFF := Lib.hid hF
  have HBf := Lib.hid hBf
  (try rw [← Hg0.out])
  (try rw [← HB2.out])
  (try rw [← HB2.out] at HRm)
  clear hO1 hG1 hOz HG0 Hi Hz Hs Hb hF hBf i1 w1
  go_loopw [3, 4, 5] (fun s3 s4 s5 wr => ∃ (y : Nat) (vv : Value) (Ab : Option Addr) (cb : Nat), vv = s3 ∧ s4 = .slice Ab n cb ∧ y ≤ H ∧ s5 = .int .i64 y ∧ Hid (GA w wr bb vv (F y) [] [⟨b2, 25, #[.int .i64 (W : Int), .int .i64 (H : Int), .int .i64 (P : Int), .slice (some ⟨b, off, none⟩) T c]⟩]) ∧ Hid (Rsp wr vv Ab (Bf y)) ∧ n ≤ cb) (fun _ _ s5 _ => H - (intOf s5).toNat)
  case atStart => exact ⟨0, .slice (some ⟨g0, 0, none⟩) 0 0, _, _, rfl, rfl, Nat.zero_le _, rfl, by rw [HF0.out]; exact HGm, HRm, Nat.le_refl _⟩
  case round =>
    clear HGm HRm
    obtain ⟨y, vv, Ab, cb, hv3, rfl, hy, rfl, hG, HRb, hcb⟩ := hrel
    subst hv3
    obtain ⟨m0, m1, m2, m3⟩ := hG.out.1.c4 (g := b2) (T := 25) (a0 := .int .i64 (W : Int)) (a1 := .int .i64 (H : Int)) (a2 := .int .i64 (P : Int)) (a3 := .slice (some ⟨b, off, none⟩) T c) (by simp)
    by_cases hlt : y < H
    · go_wp2_with fail
      refine (s_rowData W H P n y T HN.out hn1 hn64 hH hlt b off c xs HT.out HL.out hlc wr (hG.out.1.arg HX.out)).mono ?_
      rintro e w2 ⟨v2, rfl, hO2, hB2⟩
      obtain ⟨A2, c2, rfl, hc2⟩ := hO2.slice
      have hrl := rwL_len HL.out hlt
      have hbl : (Bf y).length = n := by rw [HBf.out]; exact rwB_len HL.out (by omega)
      have hbB : Byt (Bf y) := by rw [HBf.out]; exact rwB_byt HBy.out y
      have HBn : Hid (rwL n xs y = Bf (y + 1)) := Lib.hid (by rw [HBf.out]; rfl)
      have HNx0 : Hid (F (y + 1) = F y ++ [bst (rwL n xs y) (Bf y) P 4] ++ flt (bst (rwL n xs y) (Bf y) P 4) (rwL n xs y) (Bf y) P n) := Lib.hid (by rw [HFF.out, HBf.out]; rfl)
      have hrB := rwL_byt HBy.out (n := n) y
      have HLen : Hid ((F y).length ≤ 2000) := Lib.hid (by rw [HFF.out, fiL_len]; have := Nat.mul_le_mul (show y ≤ 16 by omega) (show n + 1 ≤ 65 by omega); omega)
      rw [hrl] at hO2 hc2 ⊢
      have HRw := Lib.hid (Rsp.new (v := vv) hO2 (fun g hg => (hG.out.own.lt g hg).2))
      have HG2 := Lib.hid (GA.call hG.out hB2)
      have HRb2 := Lib.hid (HRb.out.call hB2)
      obtain ⟨rr, hrr⟩ : ∃ rr, rr = rwL n xs y := ⟨_, rfl⟩
      obtain ⟨bf, hbf⟩ : ∃ bf, bf = Bf y := ⟨_, rfl⟩
      rw [← hrr] at HRw HBn HNx0 hrl hrB
      rw [← hbf] at HRb2 HNx0 hbl hbB
      obtain ⟨kd, hkd⟩ : ∃ kd, kd = bst rr bf P 4 := ⟨_, rfl⟩
      rw [← hkd] at HNx0
      have HNext : Hid (F y ++ [kd] ++ flt kd rr bf P n = F (y + 1)) := Lib.hid HNx0.out.symm
      have hkb : 0 ≤ kd ∧ kd ≤ 4 := by rw [hkd]; exact bst_range _ _ _ 4
      have HBF : Hid (∀ u, Rds .i64 u u.heap.size A2 rr → Rds .i64 u u.heap.size Ab bf → Calls Try.prog 52 #[.slice A2 n c2, .slice Ab n cb, .int .i64 (P : Int)] u fun e w' => e = .returned (.int .i64 kd) ∧ Below u.heap.size u w') := Lib.hid (fun u h1 h2 => by
        have h := s_bestFilter A2 Ab c2 cb rr bf P u h1 h2 (by omega) (by omega) hP1 hP hrB hbB
        rw [hrl, hbl, ← hkd] at h
        exact h)
      have HFR : Hid (∀ u, Rds .i64 u u.heap.size A2 rr → Rds .i64 u u.heap.size Ab bf → Calls Try.prog 53 #[.int .i64 kd, .slice A2 n c2, .slice Ab n cb, .int .i64 (P : Int)] u (Made (flt kd rr bf P n) u)) := Lib.hid (fun u h1 h2 => by
        have h := s_filterRow kd A2 Ab c2 cb rr bf P u h1 h2 (by omega) (by omega) hP1 hP hrB hbB
        rw [hrl, hbl] at h
        exact h)
      clear hO2 hB2 hG HRb HNx0 hrr hbf hkd hrl hbl hrB hbB m0 m1 m2 m3
      obtain ⟨m0, m1, m2, m3⟩ := HG2.out.1.c4 (g := b2) (T := 25) (a0 := .int .i64 (W : Int)) (a1 := .int .i64 (H : Int)) (a2 := .int .i64 (P : Int)) (a3 := .slice (some ⟨b, off, none⟩) T c) (by simp)
      go_wp2_with fail
      refine (HBF.out w2 HRw.out.1 HRb2.out.1).mono ?_
      rintro e w3 ⟨rfl, hB3⟩
      have HS0 := Lib.hid (GA.call HG2.out hB3)
      have HS := Lib.hid (GA.drew HS0.out)
      have HRw3 := Lib.hid (HRw.out.call hB3)
      clear HRw
      have HRw : Hid (Rsp w3.drew vv A2 rr) := Lib.hid HRw3.out
      have HRb : Hid (Rsp w3.drew vv Ab bf) := Lib.hid (HRb2.out.call hB3).drew
      clear HRw3 HRb2 HG2 hB3 HS0 m0 m1 m2 m3
      have q2 := (HS.out.1.c4 (g := b2) (T := 25) (a0 := .int .i64 (W : Int)) (a1 := .int .i64 (H : Int)) (a2 := .int .i64 (P : Int)) (a3 := .slice (some ⟨b, off, none⟩) T c) (by simp)).2.2.1
      go_upto_region 8 with fail
      refine wp_region_held_drew (S := (fun w' => w'.cell? ⟨b2, 2, none⟩ = some (.int .i64 (P : Int)))) (by kernel_rfl) (by exact q2) (fun hHeld => ?_)
      refine' wpAnyH_take (i := 0) (oi := _) (v := _) ?hi1 (by kernel_rfl) (by kernel_rfl) (by kernel_rfl) ?hq1 (Or.inl ⟨?hw1, ?hy1⟩) (by assumption) ?rest1
      case hi1 => (simp only [List.getElem?_toArray, List.getElem?_cons_succ, List.getElem?_cons_zero]; rfl)
      case hq1 => exact fun _ _ _ h => h
      case hw1 => rfl
      case hy1 => (intro wq hSw; (try dsimp only at hSw); go_simp; (try with_reducible rfl))
      (try simp only [Act.put, List.setIfInBounds_toArray, List.set_cons_zero, List.set_cons_succ])
      refine' wpAnyH_take (i := 1) (oi := _) (v := _) ?hi2 (by kernel_rfl) (by kernel_rfl) (by kernel_rfl) ?hq2 (Or.inl ⟨?hw2, ?hy2⟩) (by assumption) ?rest2
      case hi2 => (simp only [List.getElem?_toArray, List.getElem?_cons_succ, List.getElem?_cons_zero]; rfl)
      case hq2 => exact fun _ _ _ h => h
      case hw2 => rfl
      case hy2 => (intro wq hSw; (try dsimp only at hSw); go_simp; (try with_reducible rfl))
      (try simp only [Act.put, List.setIfInBounds_toArray, List.set_cons_zero, List.set_cons_succ])
      refine' wpAnyH_take (i := 4) (oi := _) (v := _) ?hi3 (by kernel_rfl) (by kernel_rfl) (by kernel_rfl) ?hq3 (Or.inl ⟨?hw3, ?hy3⟩) (by assumption) ?rest3
      case hi3 => (simp only [List.getElem?_toArray, List.getElem?_cons_succ, List.getElem?_cons_zero]; rfl)
      case hq3 => exact fun _ _ _ h => h
      case hw3 => rfl
      case hy3 => (intro wq hSw; (try dsimp only at hSw); go_simp; (try with_reducible rfl))
      (try simp only [Act.put, List.setIfInBounds_toArray, List.set_cons_zero, List.set_cons_succ])
      refine' wpAnyH_take (i := 5) (oi := _) (v := _) ?hi4 (by kernel_rfl) (by kernel_rfl) (by kernel_rfl) ?hq4 (Or.inl ⟨?hw4, ?hy4⟩) (by assumption) ?rest4
      case hi4 => (simp only [List.getElem?_toArray, List.getElem?_cons_succ, List.getElem?_cons_zero]; rfl)
      case hq4 => exact fun _ _ _ h => h
      case hw4 => rfl
      case hy4 => (intro wq hSw; (try dsimp only at hSw); go_simp; (try with_reducible rfl))
      (try simp only [Act.put, List.setIfInBounds_toArray, List.set_cons_zero, List.set_cons_succ])
      refine' wpAnyH_take (i := 6) (oi := _) (v := _) ?hi5 (by kernel_rfl) (by kernel_rfl) (by kernel_rfl) ?hq5 (Or.inl ⟨?hw5, ?hy5⟩) (by assumption) ?rest5
      case hi5 => (simp only [List.getElem?_toArray, List.getElem?_cons_succ, List.getElem?_cons_zero]; rfl)
      case hq5 => exact fun _ _ _ h => h
      case hw5 => rfl
      case hy5 => (intro wq hSw; (try dsimp only at hSw); go_simp; (try with_reducible rfl))
      (try simp only [Act.put, List.setIfInBounds_toArray, List.set_cons_zero, List.set_cons_succ])
      refine' wpAnyH_take (i := 7) (oi := _) (v := _) ?hi6 (by kernel_rfl) (by kernel_rfl) (by kernel_rfl) ?hq6 (Or.inl ⟨?hw6, ?hy6⟩) (by assumption) ?rest6
      case hi6 => (simp only [List.getElem?_toArray, List.getElem?_cons_succ, List.getElem?_cons_zero]; rfl)
      case hq6 => exact fun _ _ _ h => h
      case hw6 => rfl
      case hy6 => (intro wq hSw; (try dsimp only at hSw); go_simp; (try with_reducible rfl))
      (try simp only [Act.put, List.setIfInBounds_toArray, List.set_cons_zero, List.set_cons_succ])
      refine' wpAnyH_take (i := 8) (oi := _) (v := _) ?hi7 (by kernel_rfl) (by kernel_rfl) (by kernel_rfl) ?hq7 (Or.inl ⟨?hw7, ?hy7⟩) (by assumption) ?rest7
      case hi7 => (simp only [List.getElem?_toArray, List.getElem?_cons_succ, List.getElem?_cons_zero]; rfl)
      case hq7 => exact fun _ _ _ h => h
      case hw7 => rfl
      case hy7 => (intro wq hSw; (try dsimp only at hSw); go_simp; (try with_reducible rfl))
      (try simp only [Act.put, List.setIfInBounds_toArray, List.set_cons_zero, List.set_cons_succ])
      refine wpAnyH_ready (rs := [2]) (by kernel_rfl) (by simp) ?_
      refine' (AllReadyH.cons (o := _) ?hj1_2 (fun K hK => ?rj1_2) AllReadyH.nil)
      case hj1_2 => (simp only [List.getElem?_toArray, List.getElem?_cons_succ, List.getElem?_cons_zero]; rfl)
      case rj1_2 =>
        go_simp
        have HS2 := Lib.hid (GA.alloc HS.out (.cells #[.int .i64 kd] 3))
        have hbz : Below w3.drew.heap.size w3.drew (w3.drew.alloc (.cells #[.int .i64 kd] 3)) := (Below.refl _ _).alloc (Nat.le_refl _) _
        have HRw2 := Lib.hid (HRw.out.call hbz)
        have HRk : Hid (Rsp (w3.drew.alloc (.cells #[.int .i64 kd] 3)) vv (some ⟨w3.drew.heap.size, 0, none⟩) [kd]) := Lib.hid ⟨.inr ⟨w3.drew.heap.size, 0, rfl, by simp, fun j hj => by
          obtain rfl : j = 0 := by simpa using hj
          exact cell_of_row _ _ 0 _ _ _ (Bx.new w3.drew 3 #[.int .i64 kd])⟩, fun a ha => by
          injection ha with ha; subst ha
          exact ⟨by simp, fun e => by have := (HS.out.own.lt _ e).2; (try simp only at this); exact absurd this (Nat.lt_irrefl _)⟩⟩
        have HRb2 := Lib.hid (HRb.out.call hbz)
        clear HRb
        have HRb := HRb2
        clear HRb2
        clear HS HRw hbz q2
        have HS := HS2
        have HRw := HRw2
        clear HS2 HRw2
        have q2 := (HS.out.1.c4 (g := b2) (T := 25) (a0 := .int .i64 (W : Int)) (a1 := .int .i64 (H : Int)) (a2 := .int .i64 (P : Int)) (a3 := .slice (some ⟨b, off, none⟩) T c) (by simp)).2.2.1
        refine hK.out _ _ (by (try dsimp only); exact q2) (fun hHeld => ?_)
        clear hK K
        (try simp only [Act.put, List.setIfInBounds_toArray, List.set_cons_zero, List.set_cons_succ])
        refine wpAnyH_ready (rs := [3]) (by kernel_rfl) (by simp) ?_
        refine' (AllReadyH.cons (o := _) ?hj2_3 (fun K hK => ?rj2_3) AllReadyH.nil)
        case hj2_3 => (simp only [List.getElem?_toArray, List.getElem?_cons_succ, List.getElem?_cons_zero]; rfl)
        case rj2_3 =>
          (rw [if_pos (by first | rfl | kernel_rfl)])
          refine wp_appF (.tmp 29) (.tmp 31) rfl bb vv (F y) rfl HS.out.own (some ⟨w3.drew.heap.size, 0, none⟩) 1 _ _ [kd] rfl rfl (by simp) HRk.out.1 (by have := HLen.out; simp; omega) HS.out.bs ?_
          intro v3 w3 hO3 hG3 hf3
          obtain ⟨A3, c3, rfl, _⟩ := hO3.slice
          obtain ⟨n3, hn3⟩ : ∃ n3, n3 = (F y ++ [kd]).length := ⟨_, rfl⟩
          rw [← hn3] at hO3 hf3 ⊢
          clear hn3
          have HS2 := Lib.hid (GA.app HS.out hO3 hG3)
          have HRw2 := Lib.hid (HRw.out.app hG3 hf3)
          have HRb2 := Lib.hid (HRb.out.app hG3 hf3)
          clear HRb
          have HRb := HRb2
          clear HRb2
          clear HS HRw HRk hO3 hG3 hf3 q2
          have HS := HS2
          have HRw := HRw2
          clear HS2 HRw2
          have q2 := (HS.out.1.c4 (g := b2) (T := 25) (a0 := .int .i64 (W : Int)) (a1 := .int .i64 (H : Int)) (a2 := .int .i64 (P : Int)) (a3 := .slice (some ⟨b, off, none⟩) T c) (by simp)).2.2.1
          refine hK.out _ _ (by (try dsimp only); exact q2) (fun hHeld => ?_)
          clear hK K
          (try simp only [Act.put, List.setIfInBounds_toArray, List.set_cons_zero, List.set_cons_succ])
          refine wpAnyH_ready (rs := [9]) (by kernel_rfl) (by simp) ?_
          refine' (AllReadyH.cons (o := _) ?hj3_9 (fun K hK => ?rj3_9) AllReadyH.nil)
          case hj3_9 => (simp only [List.getElem?_toArray, List.getElem?_cons_succ, List.getElem?_cons_zero]; rfl)
          case rj3_9 =>
            go_simp
            go_at_call 53
            refine (HFR.out _ HRw.out.1 HRb.out.1).mono ?_
            rintro e w9 ⟨v9, rfl, hO9, hB9⟩
            obtain ⟨A9, c9, rfl, _⟩ := hO9.slice
            have HR4 : Hid (Rsp w9 (.slice A3 n3 c3) A9 (flt kd rr bf P n)) := Lib.hid (Rsp.new hO9 (fun g hg => (HS.out.own.lt g hg).2))
            have HS2 := Lib.hid (GA.call HS.out hB9)
            have HRw2 := Lib.hid (HRw.out.call hB9)
            clear HS HRw HRb hB9 hO9 q2
            have HS := HS2
            have HRw := HRw2
            clear HS2 HRw2
            have q2 := (HS.out.1.c4 (g := b2) (T := 25) (a0 := .int .i64 (W : Int)) (a1 := .int .i64 (H : Int)) (a2 := .int .i64 (P : Int)) (a3 := .slice (some ⟨b, off, none⟩) T c) (by simp)).2.2.1
            go_wp2_with fail
            refine hK.out _ _ (by (try dsimp only); exact q2) (fun hHeld => ?_)
            clear hK K
            (try simp only [Act.put, List.setIfInBounds_toArray, List.set_cons_zero, List.set_cons_succ])
            refine wpAnyH_ready (rs := [10]) (by kernel_rfl) (by simp) ?_
            refine' (AllReadyH.cons (o := _) ?hj4_10 (fun K hK => ?rj4_10) AllReadyH.nil)
            case hj4_10 => (simp only [List.getElem?_toArray, List.getElem?_cons_succ, List.getElem?_cons_zero]; rfl)
            case rj4_10 =>
              (rw [if_pos (by first | rfl | kernel_rfl)])
              refine wp_appF (.tmp 32) (.tmp 38) rfl bb (.slice A3 n3 c3) (F y ++ [kd]) rfl HS.out.own A9 _ _ _ (flt kd rr bf P n) rfl rfl (by rw [flt_len]; exact hn1) HR4.out.1 (by have := HLen.out; rw [flt_len]; simp; omega) HS.out.bs ?_
              intro v5 w5 hO5 hG5 hf5
              obtain ⟨A5, c5, rfl, _⟩ := hO5.slice
              obtain ⟨n5, hn5⟩ : ∃ n5, n5 = (F y ++ [kd] ++ flt kd rr bf P n).length := ⟨_, rfl⟩
              rw [← hn5] at hO5 hf5 ⊢
              clear hn5
              have HS2 := Lib.hid (GA.app HS.out hO5 hG5)
              have HRw2 := Lib.hid (HRw.out.app hG5 hf5)
              clear HS HRw HR4 hO5 hG5 hf5 q2
              have HS := HS2
              have HRw := HRw2
              clear HS2 HRw2
              have q2 := (HS.out.1.c4 (g := b2) (T := 25) (a0 := .int .i64 (W : Int)) (a1 := .int .i64 (H : Int)) (a2 := .int .i64 (P : Int)) (a3 := .slice (some ⟨b, off, none⟩) T c) (by simp)).2.2.1
              refine hK.out _ _ (by (try dsimp only); exact q2) (fun hHeld => ?_)
              clear hK K
              (try simp only [Act.put, List.setIfInBounds_toArray, List.set_cons_zero, List.set_cons_succ])
              refine' wpAnyH_take (i := 11) (oi := _) (v := _) ?hi8 (by kernel_rfl) (by kernel_rfl) (by kernel_rfl) ?hq8 (Or.inl ⟨?hw8, ?hy8⟩) (by assumption) ?rest8
              case hi8 => (simp only [List.getElem?_toArray, List.getElem?_cons_succ, List.getElem?_cons_zero]; rfl)
              case hq8 => exact fun _ _ _ h => h
              case hw8 => rfl
              case hy8 => (intro wq hSw; (try dsimp only at hSw); go_simp; (try with_reducible rfl))
              (try simp only [Act.put, List.setIfInBounds_toArray, List.set_cons_zero, List.set_cons_succ])
              refine wpAnyH_done (by kernel_rfl) ?_ _
              rw [HNext.out] at HS
              rw [HBn.out] at HRw
              clear q2
              go_wp2
              go_roundw
              case rel => exact ⟨y + 1, _, _, c2, rfl, rfl, by omega, by go_num, HS, HRw, hc2⟩
              case measure => simp [intOf]; omega
    · have hyH : y = H := by omega
      have HO := Lib.hid (hG.out.own.base_le Hbw.out)
      have HBw := Lib.hid hG.out.1.1
      clear hG HRb
      go_wp2
      go_ret
      rw [hyH, HFF.out] at HO
      (try rw [HFF.out])
      exact ⟨_, rfl, HO.out, HBw.out⟩
set_option maxHeartbeats 8000000 in
theorem s_FilterImage (W H P : Int) (A : Option Addr) (c : Nat) (xs : List Int) (w : World) (hx : Rds .i64 w w.heap.size A xs) (hl : xs.length ≤ 2000000) (hlc : xs.length ≤ c) :
    Calls Try.prog 10 #[.agg #[.int .i64 W, .int .i64 H, .int .i64 P, .slice A xs.length c]] w (Made (fimV W H P xs) w) := by
  have HX := Lib.hid hx
  clear hx
  have S0 : GS w (w.alloc (.cells #[.int .i64 W, .int .i64 H, .int .i64 P, .slice A xs.length c] 25)) [] [⟨w.heap.size, 25, #[.int .i64 W, .int .i64 H, .int .i64 P, .slice A xs.length c]⟩] := GS.box' (GS.start w) _ _ w.heap.size (by simp)
  go_enter Try.func10, Try.ntmps10
  go_wp2_with fail
  generalize (w.alloc (.cells #[.int .i64 W, .int .i64 H, .int .i64 P, .slice A xs.length c] 25)) = u0 at *
  refine (sVimg_any W H P A c xs u0 (S0.arg HX.out) hl).mono ?_
  rintro e u1 ⟨rfl, hB⟩
  have S1 := S0.call hB
  clear hB S0
  cases hv : vim W H P xs
  · have HE : Hid (fimV W H P xs = []) := Lib.hid (by unfold fimV; rw [hv]; rfl)
    have HB := Lib.hid S1.below
    clear S1 hv
    go_wp2
    go_ret
    rw [HE.out]
    exact ⟨_, rfl, World.ownsRow_nil _ _ _ _, HB.out⟩
  · obtain ⟨W, H, P, rfl, rfl, rfl, hW1, hW, hH1, hH, hP1, hP, hln, hby⟩ := vim_nat hv
    have HE : Hid (fimV (W : Int) (H : Int) (P : Int) xs = fiL (W * P) P xs H) := Lib.hid (by unfold fimV; rw [hv]; rfl)
    have hlT : xs.length = H * (W * P) := by rw [hln, Nat.mul_comm W H, Nat.mul_assoc]
    have hn1 : 1 ≤ W * P := Nat.mul_pos hW1 hP1
    have hn64 : W * P ≤ 64 := Nat.mul_le_mul hW hP
    have hbyt : Byt xs := fun j => by
      by_cases hj : j < xs.length
      · exact hby j hj
      · have : xs.getD j 0 = 0 := by simp [List.getD_eq_getElem?_getD, List.getElem?_eq_none (show xs.length ≤ j by omega)]
        rw [this]; omega
    obtain ⟨b, off, rfl, hb, hcx⟩ := HX.out.cells_ (j := 0) (by rw [hlT]; exact Nat.mul_pos hH1 hn1)
    have HC := Lib.hid (s_filterImage W H P (W * P) xs.length rfl hn1 hn64 hH1 hH hP1 hP b off c xs rfl hlT hlc hbyt u1 (S1.arg HX.out))
    obtain ⟨m0, m1, m2, m3⟩ := S1.b0_4
    have HB := Lib.hid S1.below
    clear hv hby hbyt hln hlT hn1 hn64 hcx S1
    go_wp2_with fail
    refine HC.out.mono ?_
    rintro e w2 ⟨v, rfl, hO, hb2⟩
    have HF : Hid (Made (fimV (W : Int) (H : Int) (P : Int) xs) w (.returned v) w2) := Lib.hid (by rw [HE.out]; exact ⟨v, rfl, hO.base_le HB.out.size, HB.out.trans (hb2.mono HB.out.size)⟩)
    clear hO hb2 m0 m1 m2 m3 HC
    go_wp2
    go_ret
    exact HF.out
end Go.Proofs.Ytolifmgkkkclkaa
