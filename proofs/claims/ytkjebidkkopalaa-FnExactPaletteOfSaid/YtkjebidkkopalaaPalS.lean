/- PaletteOf of the model: the colors of an image, each once. -/
import Derived.Test.YtkjebidkkopalaaLss
import Derived.Test.YtkjebidkkopalaaNcL
import Derived.Test.YtkjebidkkopalaaImgA
import Derived.Test.YtkjebidkkopalaaGridF
import Derived.Test.YtkjebidkkopalaaGenP
import Derived.Deep.QuietTactic
import Derived.BigQuiet
namespace Go.Proofs.Ytkjebidkkopalaa
open Go.RowKit
set_option linter.unusedSimpArgs false
set_option linter.unusedVariables false
set_option maxRecDepth 20000

/-- Pixel number k. -/
def pxk (P : Nat) (xs : List Int) (k : Nat) : List Int := (xs.drop (k * P)).take P
theorem pxk_len {P : Nat} {xs : List Int} {k : Nat} (h : k * P + P ≤ xs.length) : (pxk P xs k).length = P := by simp [pxk]; omega
theorem pxk_get {P : Nat} {xs : List Int} {k j : Nat} (h : j < P) : (pxk P xs k).getD j 0 = xs.getD (k * P + j) 0 := by
  unfold pxk
  simp [List.getD_eq_getElem?_getD, List.getElem?_take, List.getElem?_drop, h]
/-- The colors of the first k pixels, each once. -/
def acL (P : Nat) (xs : List Int) : Nat → List (List Int)
  | 0 => []
  | k + 1 => if pxk P xs k ∈ acL P xs k then acL P xs k else acL P xs k ++ [pxk P xs k]
theorem acL_len (P : Nat) (xs : List Int) : ∀ k, (acL P xs k).length ≤ k
  | 0 => Nat.le_refl _
  | k + 1 => by
    have ih := acL_len P xs k
    unfold acL
    split
    · omega
    · simp; omega
theorem acL_row {P : Nat} {xs : List Int} : ∀ {k : Nat}, k * P ≤ xs.length → ∀ ys ∈ acL P xs k, ∃ i, i < k ∧ ys = pxk P xs i
  | 0, _, ys, h => by simp [acL] at h
  | k + 1, hk, ys, h => by
    have hk' : k * P ≤ xs.length := by rw [Nat.add_mul] at hk; omega
    unfold acL at h
    split at h
    · obtain ⟨i, hi, e⟩ := acL_row hk' ys h
      exact ⟨i, by omega, e⟩
    · rcases List.mem_append.1 h with h | h
      · obtain ⟨i, hi, e⟩ := acL_row hk' ys h
        exact ⟨i, by omega, e⟩
      · simp at h
        exact ⟨k, by omega, h⟩
theorem Lss.base_le {w : World} {base base' : Nat} {v : Value} {xss : List (List Int)} (h : Lss w base v xss) (hb : base' ≤ base) : Lss w base' v xss := by
  obtain ⟨h1, cs, hO, hR⟩ := h
  refine ⟨Nat.le_trans hb h1, cs, ?_, fun i hi => ?_⟩
  · refine ⟨hO.1, ?_⟩
    rcases hO.2 with h2 | ⟨g, cap, cur, hv, hbg, r⟩
    · exact .inl h2
    · exact .inr ⟨g, cap, cur, hv, by omega, r⟩
  · obtain ⟨Ai, ci, k1, k2, k3, k4⟩ := hR i hi
    exact ⟨Ai, ci, k1, k2, k3, fun h0 a ha => ⟨Nat.le_trans hb (k4 h0 a ha).1, (k4 h0 a ha).2⟩⟩
set_option maxHeartbeats 4000000 in
theorem sCat_any (A A' : Option Addr) (c c' n n' : Nat) (xss : List (List Int)) (ys : List Int) (w : World) (hn : n = xss.length) (hn' : n' = ys.length) (h : Rdss w w.heap.size A xss) (hy : Rds .i64 w w.heap.size A' ys) (hl : tot xss ≤ 2000000) (hl' : ys.length ≤ 2000000) :
    Calls Try.prog 81 #[.slice A n c, .slice A' n' c'] w fun e w' => ∃ q : Int, e = .returned (.int .i64 q) ∧ (q < 0 ↔ ys ∉ xss) ∧ ∃ m, w' = w.drewN m := by
  have Hh := Lib.hid h
  have HY := Lib.hid hy
  have Hn := Lib.hid hn
  have Hn' := Lib.hid hn'
  have Hl' := Lib.hid hl'
  have HL : Hid (∀ i, i < xss.length → (xss.getD i []).length ≤ 2000000) := Lib.hid fun i hi => Nat.le_trans (len_le_tot hi) hl
  have hnl : n ≤ 2000000 := by rw [hn]; unfold tot at hl; omega
  clear h hy hn hn' hl hl'
  go_enter Try.func81, Try.ntmps81
  go_wp2
  go_loopw [5] (fun i wr => ∃ k : Nat, k ≤ n ∧ i = .int .i64 (k : Int) ∧ Hid (∀ i, i < k → xss.getD i [] ≠ ys) ∧ Hid (∃ m, wr = w.drewN m)) (fun i _ => n - (intOf i).toNat)
  case atStart => exact ⟨0, Nat.zero_le _, rfl, Lib.hid (fun i hi => by omega), Lib.hid ⟨0, rfl⟩⟩
  case round =>
    obtain ⟨k, hk, rfl, HN, HW⟩ := hrel
    by_cases hlt : k < n
    · have hkl : k < xss.length := by have := Hn.out; omega
      have hkp : ∀ p, wr.cell? p = w.cell? p := by obtain ⟨m, e⟩ := HW.out; intro p; rw [e]; rfl
      obtain ⟨b, off, Ai, ci, rfl, hb, hci, hc0, hr0⟩ := Hh.out.at hkl
      have hc := (hkp _).trans hc0
      have HR := Lib.hid (hr0.keep (w' := wr) fun p _ => hkp p)
      have HYw := Lib.hid (HY.out.keep (w' := wr) fun p _ => hkp p)
      have hml := HL.out k hkl
      have HE := Lib.hid (sEqualInts_any Ai A' ci c' (xss.getD k []) ys _ _ wr HR.out HYw.out (by omega) (by have := Hl'.out; omega))
      rw [← Hn'.out] at HE
      have HX : Hid (xss.getD k [] = ys → ys ∈ xss) := Lib.hid (fun e => by rw [← e, List.getD_eq_getElem?_getD, List.getElem?_eq_getElem hkl]; exact List.getElem_mem hkl)
      have HK : Hid (xss.getD k [] ≠ ys → ∀ i, i < k + 1 → xss.getD i [] ≠ ys) := Lib.hid (fun h i hi => by
        by_cases e : i = k
        · subst e; exact h
        · exact HN.out i (by omega))
      obtain ⟨xs, hxs⟩ : ∃ xs, xs = xss.getD k [] := ⟨_, rfl⟩
      rw [← hxs] at HK HX HE hc hml
      clear hc0 hr0 hkp hci hxs HR
      go_wp2_with fail
      refine HE.out.mono ?_
      rintro e w2 ⟨rfl, m2, rfl⟩
      by_cases hxy : xs = ys
      · rw [decide_eq_true hxy]
        have HM := Lib.hid (HX.out hxy)
        clear hxy HE
        go_wp2
        go_ret
        exact ⟨(k : Int), rfl, ⟨fun h => by omega, fun h => absurd HM.out h⟩, by obtain ⟨m, e⟩ := HW.out; exact ⟨m + m2, by rw [e]; exact World.drewN_drewN _ _ _⟩⟩
      · rw [decide_eq_false hxy]
        have HN2 : Hid (xs ≠ ys) := Lib.hid hxy
        clear hxy HE HX
        have HWn : Hid (∃ m, wr.drewN m2 = w.drewN m) := Lib.hid (by obtain ⟨m, e⟩ := HW.out; exact ⟨m + m2, by rw [e]; exact World.drewN_drewN _ _ _⟩)
        have HNn := Lib.hid (HK.out HN2.out)
        go_wp2
        go_roundw
        case rel => exact ⟨k + 1, by omega, by go_num, HNn, HWn⟩
        case measure => simp [intOf]; omega
    · have hk' : k = n := by omega
      have HF : Hid (ys ∉ xss) := Lib.hid (fun hm => by
        obtain ⟨i, hi, e⟩ := List.mem_iff_getElem.1 hm
        have := HN.out i (by have := Hn.out; omega)
        rw [List.getD_eq_getElem?_getD, List.getElem?_eq_getElem hi] at this
        exact this e)
      go_wp2
      go_ret
      exact ⟨-1, rfl, ⟨fun _ => HF.out, fun _ => by omega⟩, HW.out⟩
set_option maxHeartbeats 8000000 in
theorem sAll_any (W H P : Nat) (hW1 : 1 ≤ W) (hW : W ≤ 16) (hH1 : 1 ≤ H) (hH : H ≤ 16) (hP1 : 1 ≤ P) (hP4 : P ≤ 4) (A : Option Addr) (c : Nat) (xs : List Int) (hln : xs.length = W * H * P) (hlc : xs.length ≤ c) (w : World) (hx : Rds .i64 w w.heap.size A xs) :
    Calls Try.prog 45 #[.agg #[.int .i64 (W : Int), .int .i64 (H : Int), .int .i64 (P : Int), .slice A xs.length c]] w fun e w' => ∃ v, e = .returned v ∧ Lss w' (w.heap.size + 1) v (acL P xs (W * H)) ∧ Below w.heap.size w w' := by
  obtain ⟨N, hN⟩ : ∃ N, N = W * H := ⟨_, rfl⟩
  have hN256 : N ≤ 256 := by rw [hN]; exact Nat.mul_le_mul hW hH
  have hNpos : 0 < N := by rw [hN]; exact Nat.mul_pos hW1 hH1
  have hpos : 0 < xs.length := by rw [hln, ← hN]; exact Nat.mul_pos hNpos hP1
  obtain ⟨b, off, rfl, hb, hcx⟩ := hx.cells_ hpos
  have HX := Lib.hid hx
  have HCx := Lib.hid hcx
  obtain ⟨n1, hn1⟩ : ∃ n1, n1 = xs.length := ⟨_, rfl⟩
  have HLn : Hid (n1 = N * P) := Lib.hid (by rw [hn1, hln, hN])
  have Hn1 := Lib.hid hn1
  have hn1b : n1 ≤ 1024 := by rw [hn1, hln, ← hN]; have := Nat.mul_le_mul hN256 hP4; omega
  have hlc2 : n1 ≤ c := by rw [hn1]; exact hlc
  have HB0 : Hid (Bx ((w.alloc (.cells #[.int .i64 (W : Int), .int .i64 (H : Int), .int .i64 (P : Int), .slice (some ⟨b, off, none⟩) n1 c] 25)).alloc (.cells #[] 23)) w.heap.size 25 #[.int .i64 (W : Int), .int .i64 (H : Int), .int .i64 (P : Int), .slice (some ⟨b, off, none⟩) n1 c] ∧ Below w.heap.size w ((w.alloc (.cells #[.int .i64 (W : Int), .int .i64 (H : Int), .int .i64 (P : Int), .slice (some ⟨b, off, none⟩) n1 c] 25)).alloc (.cells #[] 23)) ∧ Lss ((w.alloc (.cells #[.int .i64 (W : Int), .int .i64 (H : Int), .int .i64 (P : Int), .slice (some ⟨b, off, none⟩) n1 c] 25)).alloc (.cells #[] 23)) (w.heap.size + 1) (.slice (some ⟨w.heap.size + 1, 0, none⟩) 0 0) []) := Lib.hid (by
    have h1 := Lss.none (w.alloc (.cells #[.int .i64 (W : Int), .int .i64 (H : Int), .int .i64 (P : Int), .slice (some ⟨b, off, none⟩) n1 c] 25))
    refine ⟨(Bx.new w _ _).alloc _, ((Below.refl _ _).alloc (Nat.le_refl _) _).alloc (by simp) _, ?_⟩
    simpa using h1)
  rw [← hn1, ← hN]
  clear hx hcx hln hlc hpos hn1 hN HX
  go_enter Try.func45, Try.ntmps45
  go_wp2
  go_loopw [3, 4, 5] (fun v i x wr => ∃ k : Nat, k ≤ N ∧ i = .int .i64 ((k * P : Nat) : Int) ∧ Hid (Bx wr w.heap.size 25 #[.int .i64 (W : Int), .int .i64 (H : Int), .int .i64 (P : Int), .slice (some ⟨b, off, none⟩) n1 c] ∧ Below w.heap.size w wr ∧ Lss wr (w.heap.size + 1) v (acL P xs k))) (fun _ i _ _ => n1 - (intOf i).toNat)
  case atStart => exact ⟨0, Nat.zero_le _, by rw [Nat.zero_mul]; rfl, HB0⟩
  case round =>
    obtain ⟨k, hk, rfl, hI⟩ := hrel
    clear HB0
    obtain ⟨m0, m1, m2, m3⟩ := bx4 (T := 25) hI.out.1
    obtain ⟨A3, c3, rfl, hc3⟩ := hI.out.2.2.slice
    by_cases hlt : k < N
    · obtain ⟨q, hq⟩ : ∃ q, q = k * P := ⟨_, rfl⟩
      obtain ⟨q2, hq2⟩ : ∃ q2, q2 = (k + 1) * P := ⟨_, rfl⟩
      have hqq : q2 = q + P := by rw [hq, hq2, Nat.add_mul, Nat.one_mul]
      have hq2n : q2 ≤ n1 := by rw [hq2, HLn.out]; exact Nat.mul_le_mul_right P hlt
      have hqn : q < n1 := by omega
      rw [← hq]
      have hlp : q + P ≤ xs.length := by have := Hn1.out; omega
      have HLy : Hid ((pxk P xs k).length = P) := Lib.hid (pxk_len (by rw [← hq]; exact hlp))
      have hmem : Rds .i64 wr wr.heap.size (some ⟨b, off + q, none⟩) (pxk P xs k) := by
        refine .inr ⟨b, off + q, rfl, Nat.lt_of_lt_of_le hb hI.out.2.1.size, fun j hj => ?_⟩
        have hjP : j < P := by rw [HLy.out] at hj; exact hj
        rw [pxk_get hjP, ← hq, Nat.add_assoc]
        exact (hI.out.2.1.cell (p := ⟨b, off + (q + j), none⟩) hb).trans (HCx.out (q + j) (by omega))
      have HCP := Lib.hid (copyInts_any (some ⟨b, off + q, none⟩) (c - q) (pxk P xs k) wr hmem (by rw [HLy.out]; omega))
      rw [HLy.out] at HCP
      have HSt : Hid (acL P xs (k + 1) = if pxk P xs k ∈ acL P xs k then acL P xs k else acL P xs k ++ [pxk P xs k]) := Lib.hid rfl
      have HRow : Hid (∀ i, i < (acL P xs k).length → ((acL P xs k).getD i []).length ≤ 4) := Lib.hid (fun i hi => by
        obtain ⟨j, hj, e⟩ := acL_row (P := P) (xs := xs) (k := k) (by rw [← hq]; omega) ((acL P xs k).getD i []) (by rw [List.getD_eq_getElem?_getD, List.getElem?_eq_getElem hi]; exact List.getElem_mem hi)
        rw [e]
        unfold pxk
        rw [List.length_take]; omega)
      have hal := acL_len P xs k
      have i2 : (q : Int) + (P : Int) = (q2 : Int) := by rw [hqq]; simp
      have hw2 : IntKind.i64.wrap ((q2 : Nat) : Int) = (q2 : Int) := IntWalk.i64_in _ (by omega)
      have k1 : q ≤ q2 := by omega
      have k2 : q2 ≤ c := by omega
      have k3 : ¬ (c = q) := by omega
      have k4 : (q : Int) ≤ (q2 : Int) := by omega
      have k5 : (q2 : Int) ≤ (c : Int) := by omega
      have k6 : (q : Int) < (n1 : Int) := by omega
      have hqP : q2 - q = P := by omega
      have HQ : Hid ((q2 : Int) = (((k + 1) * P : Nat) : Int)) := Lib.hid (by rw [hq2])
      clear hmem hlp hq hqq hq2
      obtain ⟨ys, hys⟩ : ∃ ys, ys = pxk P xs k := ⟨_, rfl⟩
      rw [← hys] at HLy HCP HSt
      clear hys
      generalize acL P xs k = L at *
      go_wp2_with fail
      refine HCP.out.mono ?_
      rintro e w2 ⟨v2, rfl, hO2, hB2⟩
      obtain ⟨A5, c5, rfl, hc5⟩ := hO2.slice
      have hL2 := hI.out.2.2.below hB2
      have hX2 := hI.out.1.below hB2
      have hBw := hI.out.2.1.trans (hB2.mono hI.out.2.1.size)
      have htl : tot L ≤ 2000000 := by have := tot_le HRow.out; omega
      have HCA := Lib.hid (sCat_any A3 A5 c3 c5 L.length ys.length L ys w2 rfl rfl hL2.rdss hO2.rds.2 htl (by rw [HLy.out]; omega))
      have hsep0 : 0 < ys.length → ∀ a : Addr, A5 = some a → wr.heap.size ≤ a.block ∧ a.block < w2.heap.size := by
        intro h0 a ha
        obtain ⟨g1, cap, e1, h2, h3⟩ := hO2.form h0
        injection e1 with e1
        rw [e1] at ha
        injection ha with ha
        subst ha
        exact ⟨h2, h3⟩
      have hown : ∀ g, (Value.slice A3 L.length c3).ownBlock = some g → g < wr.heap.size := by
        obtain ⟨_, cs, hO5, _⟩ := hI.out.2.2
        exact fun g e => (World.ownsRow.lt hO5 _ e).2
      have hws : w.heap.size + 1 ≤ wr.heap.size := hI.out.1.lt
      clear hI hB2
      go_wp2_with fail
      refine HCA.out.mono ?_
      rintro e w3 ⟨z, rfl, hz, m3', rfl⟩
      have HL3 := Lib.hid (hL2.move (w' := w2.drewN m3') (Nat.le_refl _) fun _ _ _ => rfl)
      have HO3 := Lib.hid (hO2.drewN m3')
      have HX3 : Hid (Bx (w2.drewN m3') w.heap.size 25 #[.int .i64 (W : Int), .int .i64 (H : Int), .int .i64 (P : Int), .slice (some ⟨b, off, none⟩) n1 c]) := Lib.hid hX2
      have HB3 : Hid (Below w.heap.size w (w2.drewN m3')) := Lib.hid ⟨hBw.os, hBw.tape, hBw.output, hBw.size, hBw.block⟩
      have hs3 : (w2.drewN m3').heap.size = w2.heap.size := rfl
      rw [← hs3] at hsep0
      clear hL2 hO2 hX2 hBw HCA hs3 HCP
      generalize w2.drewN m3' = w4 at *
      have HZ := Lib.hid hz
      clear hz
      by_cases hzn : z < 0
      · have HLn2 : Hid (acL P xs (k + 1) = L ++ [ys]) := Lib.hid (by rw [HSt.out, if_neg (HZ.out.1 hzn)])
        have HLi := Lib.hid (HL3.out.alloc (.cells #[.slice A5 ys.length c5] 23))
        have HSz : Hid (w4.heap.size < (w4.alloc (.cells #[.slice A5 ys.length c5] 23)).heap.size) := Lib.hid (by simp)
        have HXr := Lib.hid ((HO3.out.rds.2.alloc (Nat.le_refl _) (.cells #[.slice A5 ys.length c5] 23)).more (Nat.le_of_lt HSz.out))
        have HS := Lib.hid (fun h0 a ha => show w.heap.size + 1 ≤ a.block ∧ a.block < (w4.alloc (.cells #[.slice A5 ys.length c5] 23)).heap.size ∧ (Value.slice A3 L.length c3).ownBlock ≠ some a.block from ⟨by have := (hsep0 h0 a ha).1; omega, Nat.lt_trans (hsep0 h0 a ha).2 HSz.out, fun e => by have h1 := hown _ e; have h2 := (hsep0 h0 a ha).1; omega⟩)
        have HCl : Hid ((w4.alloc (.cells #[.slice A5 ys.length c5] 23)).cell? ⟨w4.heap.size, 0, none⟩ = some (.slice A5 ys.length c5)) := Lib.hid (cell_of_row _ _ _ _ _ _ (heap_alloc_new w4 _))
        have HXi := Lib.hid (HX3.out.alloc (.cells #[.slice A5 ys.length c5] 23))
        have HBi := Lib.hid (HB3.out.alloc HB3.out.size (.cells #[.slice A5 ys.length c5] 23))
        have hx1000 : L.length ≤ 1000 := by omega
        clear hsep0 hown HL3 HO3 HX3 HB3 HSz
        obtain ⟨m0, m1, m2, m3⟩ := bx4 (T := 25) HXi.out
        clear m0 m1 m2 m3
        go_wp2_with (at_builtin; refine wpList_appL rfl (.tmp 29) (.tmp 31) rfl (w.heap.size + 1) (.slice A3 L.length c3) L rfl HLi.out w4.heap.size 1 A5 ys ys.length c5 rfl rfl HCl.out hc5 HXr.out HS.out hx1000 ?_; intro v3 w5 hL5 hG5 hlo; have m5 := (bx4 (T := 25) ((hG5.block w.heap.size HXi.out.lt (fun e => by have := hlo _ e.symm; omega)).trans HXi.out)).2.2.1)
        have HNew : Hid (Bx w5 w.heap.size 25 #[.int .i64 (W : Int), .int .i64 (H : Int), .int .i64 (P : Int), .slice (some ⟨b, off, none⟩) n1 c] ∧ Below w.heap.size w w5 ∧ Lss w5 (w.heap.size + 1) v3 (acL P xs (k + 1))) := Lib.hid ⟨(hG5.block w.heap.size HXi.out.lt (fun e => by have := hlo _ e.symm; omega)).trans HXi.out, HBi.out.grown hG5 HBi.out.size (fun j hj => by have := hlo j hj; omega), by rw [HLn2.out]; exact hL5⟩
        clear hL5 hG5 hlo HLi HXr HS HCl HXi HBi m5
        go_roundw
        case rel => exact ⟨k + 1, by omega, by rw [← HQ.out], HNew⟩
        case measure => simp [intOf]; omega
      · have HLn2 : Hid (acL P xs (k + 1) = L) := Lib.hid (by
          rw [HSt.out]
          by_cases hm : ys ∈ L
          · rw [if_pos hm]
          · exact absurd (HZ.out.2 hm) hzn)
        have HNew : Hid (Bx w4 w.heap.size 25 #[.int .i64 (W : Int), .int .i64 (H : Int), .int .i64 (P : Int), .slice (some ⟨b, off, none⟩) n1 c] ∧ Below w.heap.size w w4 ∧ Lss w4 (w.heap.size + 1) (.slice A3 L.length c3) (acL P xs (k + 1))) := Lib.hid ⟨HX3.out, HB3.out, by rw [HLn2.out]; exact HL3.out⟩
        obtain ⟨m0, m1, m2, m3⟩ := bx4 (T := 25) HX3.out
        clear hsep0 hown HL3 HO3 HX3 HB3
        go_wp2
        go_roundw
        case rel => exact ⟨k + 1, by omega, by rw [← HQ.out], HNew⟩
        case measure => simp [intOf]; omega
    · have hk' : k = N := by omega
      have hlen : n1 = k * P := by rw [hk']; exact HLn.out
      have hnl : ¬ ((k * P : Nat) : Int) < (n1 : Int) := by omega
      subst hk'
      obtain ⟨q, hq⟩ : ∃ q, q = k * P := ⟨_, rfl⟩
      rw [← hq] at hnl ⊢
      clear hlen hq
      go_wp2
      go_ret
      exact ⟨_, rfl, hI.out.2.2, hI.out.2.1⟩
end Go.Proofs.Ytkjebidkkopalaa
