/- PaletteOf of the model: its answer owns its memory. -/
import Derived.Test.YtkjebidkkopalaaPalS
import Derived.Test.YtkjebidkkopalaaLsg
namespace Go.Proofs.Ytkjebidkkopalaa
open Go.RowKit
set_option linter.unusedSimpArgs false
set_option linter.unusedVariables false
set_option maxRecDepth 20000

theorem GS.tailR {W0 w : World} {t : Rg} {L : List Rg} {Bs : List Bxg} (h : GS W0 w (t :: L) Bs) : GS W0 w L Bs :=
  ⟨h.1, fun s hs => h.2.1 s (by simp [hs]), (List.pairwise_cons.1 h.2.2.1).2, fun b hm => ⟨(h.2.2.2.1 b hm).1, (h.2.2.2.1 b hm).2.1, fun s hs => (h.2.2.2.1 b hm).2.2 s (by simp [hs])⟩, h.2.2.2.2⟩
set_option maxHeartbeats 8000000 in
theorem sAllG_any (W H P : Nat) (hW1 : 1 ≤ W) (hW : W ≤ 16) (hH1 : 1 ≤ H) (hH : H ≤ 16) (hP1 : 1 ≤ P) (hP4 : P ≤ 4) (A : Option Addr) (c : Nat) (xs : List Int) (hln : xs.length = W * H * P) (hlc : xs.length ≤ c) (w : World) (hx : Rds .i64 w w.heap.size A xs) :
    Calls Try.prog 45 #[.agg #[.int .i64 (W : Int), .int .i64 (H : Int), .int .i64 (P : Int), .slice A xs.length c]] w fun e w' => ∃ v, e = .returned v ∧ LsG w w' v (acL P xs (W * H)) [] 0 := by
  obtain ⟨N, hN⟩ : ∃ N, N = W * H := ⟨_, rfl⟩
  have hN256 : N ≤ 256 := by rw [hN]; exact Nat.mul_le_mul hW hH
  have hNpos : 0 < N := by rw [hN]; exact Nat.mul_pos hW1 hH1
  have hpos : 0 < xs.length := by rw [hln, ← hN]; exact Nat.mul_pos hNpos hP1
  obtain ⟨b, off, rfl, hb, hcx⟩ := hx.cells_ hpos
  have HX := Lib.hid hx
  have HCx := Lib.hid hcx
  obtain ⟨n1, hn1⟩ : ∃ n1, n1 = xs.length := ⟨_, rfl⟩
  have HLn : Hid (n1 = N * P) := Lib.hid (by rw [hn1, hln, hN])
  have Hn1 := Lib.hid hn1
  have hn1b : n1 ≤ 1024 := by rw [hn1, hln, ← hN]; have := Nat.mul_le_mul hN256 hP4; omega
  have hlc2 : n1 ≤ c := by rw [hn1]; exact hlc
  have HB0 : Hid (LsG w ((w.alloc (.cells #[.int .i64 (W : Int), .int .i64 (H : Int), .int .i64 (P : Int), .slice (some ⟨b, off, none⟩) n1 c] 25)).alloc (.cells #[] 23)) (.slice (some ⟨w.heap.size + 1, 0, none⟩) 0 0) [] [⟨w.heap.size, 25, #[.int .i64 (W : Int), .int .i64 (H : Int), .int .i64 (P : Int), .slice (some ⟨b, off, none⟩) n1 c]⟩] 0) := Lib.hid (by
    have h1 := LsG.none (GS.box' (GS.start w) 25 #[.int .i64 (W : Int), .int .i64 (H : Int), .int .i64 (P : Int), .slice (some ⟨b, off, none⟩) n1 c] w.heap.size rfl) (Nat.zero_le _)
    simpa using h1)
  rw [← hn1, ← hN]
  clear hx hcx hln hlc hpos hn1 hN HX
  go_enter Try.func45, Try.ntmps45
  go_wp2
  go_loopw [3, 4, 5] (fun v i x wr => ∃ k : Nat, k ≤ N ∧ i = .int .i64 ((k * P : Nat) : Int) ∧ Hid (LsG w wr v (acL P xs k) [⟨w.heap.size, 25, #[.int .i64 (W : Int), .int .i64 (H : Int), .int .i64 (P : Int), .slice (some ⟨b, off, none⟩) n1 c]⟩] 0)) (fun _ i _ _ => n1 - (intOf i).toNat)
  case atStart => exact ⟨0, Nat.zero_le _, by rw [Nat.zero_mul]; rfl, HB0⟩
  case round =>
    obtain ⟨k, hk, rfl, hI⟩ := hrel
    clear HB0
    obtain ⟨m0, m1, m2, m3⟩ := bx4 (T := 25) (hI.out.bx (List.Mem.head _))
    obtain ⟨M, A3, c3, rfl, hc3, hM, hG, _⟩ := hI.out
    have HM := Lib.hid hM
    have HG := Lib.hid hG
    clear hM hG
    by_cases hlt : k < N
    · obtain ⟨q, hq⟩ : ∃ q, q = k * P := ⟨_, rfl⟩
      obtain ⟨q2, hq2⟩ : ∃ q2, q2 = (k + 1) * P := ⟨_, rfl⟩
      have hqq : q2 = q + P := by rw [hq, hq2, Nat.add_mul, Nat.one_mul]
      have hq2n : q2 ≤ n1 := by rw [hq2, HLn.out]; exact Nat.mul_le_mul_right P hlt
      have hqn : q < n1 := by omega
      rw [← hq]
      have hlp : q + P ≤ xs.length := by have := Hn1.out; omega
      have HLy : Hid ((pxk P xs k).length = P) := Lib.hid (pxk_len (by rw [← hq]; exact hlp))
      have hmem : Rds .i64 wr wr.heap.size (some ⟨b, off + q, none⟩) (pxk P xs k) := by
        refine .inr ⟨b, off + q, rfl, Nat.lt_of_lt_of_le hb hI.out.below.size, fun j hj => ?_⟩
        have hjP : j < P := by rw [HLy.out] at hj; exact hj
        rw [pxk_get hjP, ← hq, Nat.add_assoc]
        exact (hI.out.below.cell (p := ⟨b, off + (q + j), none⟩) hb).trans (HCx.out (q + j) (by omega))
      have HCP := Lib.hid (copyInts_any (some ⟨b, off + q, none⟩) (c - q) (pxk P xs k) wr hmem (by rw [HLy.out]; omega))
      rw [HLy.out] at HCP
      have HSt : Hid (acL P xs (k + 1) = if pxk P xs k ∈ acL P xs k then acL P xs k else acL P xs k ++ [pxk P xs k]) := Lib.hid rfl
      have HRow : Hid (∀ i, i < (acL P xs k).length → ((acL P xs k).getD i []).length ≤ 4) := Lib.hid (fun i hi => by
        obtain ⟨j, hj, e⟩ := acL_row (P := P) (xs := xs) (k := k) (by rw [← hq]; omega) ((acL P xs k).getD i []) (by rw [List.getD_eq_getElem?_getD, List.getElem?_eq_getElem hi]; exact List.getElem_mem hi)
        rw [e]
        unfold pxk
        rw [List.length_take]; omega)
      have hal := acL_len P xs k
      have i2 : (q : Int) + (P : Int) = (q2 : Int) := by rw [hqq]; simp
      have hw2 : IntKind.i64.wrap ((q2 : Nat) : Int) = (q2 : Int) := IntWalk.i64_in _ (by omega)
      have k1 : q ≤ q2 := by omega
      have k2 : q2 ≤ c := by omega
      have k3 : ¬ (c = q) := by omega
      have k4 : (q : Int) ≤ (q2 : Int) := by omega
      have k5 : (q2 : Int) ≤ (c : Int) := by omega
      have k6 : (q : Int) < (n1 : Int) := by omega
      have hqP : q2 - q = P := by omega
      have HQ : Hid ((q2 : Int) = (((k + 1) * P : Nat) : Int)) := Lib.hid (by rw [hq2])
      clear hmem hlp hq hqq hq2
      obtain ⟨ys, hys⟩ : ∃ ys, ys = pxk P xs k := ⟨_, rfl⟩
      rw [← hys] at HLy HCP HSt
      clear hys
      generalize acL P xs k = L at *
      go_wp2_with fail
      refine HCP.out.mono ?_
      rintro e w2 ⟨v2, rfl, hO2, hB2⟩
      obtain ⟨A5, c5, rfl, hc5⟩ := hO2.slice
      have hG2 := HG.out.add hO2 hB2
      have htl : tot L ≤ 2000000 := by have := tot_le HRow.out; omega
      have HCA := Lib.hid (sCat_any A3 A5 c3 c5 L.length ys.length L ys w2 rfl rfl (LsM.rds hG2 HM.out (fun t ht => by simp [ht])) hO2.rds.2 htl (by rw [HLy.out]; omega))
      have HG2 := Lib.hid hG2
      have hsz2 := hB2.size
      clear hI hB2 hG2 HG hO2
      go_wp2_with fail
      refine HCA.out.mono ?_
      rintro e w3 ⟨z, rfl, hz, m3', rfl⟩
      have HG3 := Lib.hid (HG2.out.drewN m3')
      clear HG2 HCA HCP
      have HSz : Hid (wr.heap.size ≤ (w2.drewN m3').heap.size) := Lib.hid hsz2
      clear hsz2
      generalize w2.drewN m3' = w4 at *
      have HZ := Lib.hid hz
      clear hz
      by_cases hzn : z < 0
      · have HLn2 : Hid (acL P xs (k + 1) = L ++ [ys]) := Lib.hid (by rw [HSt.out, if_neg (HZ.out.1 hzn)])
        have HG4 := Lib.hid (HG3.out.call ((Below.refl w4.heap.size w4).alloc (Nat.le_refl _) (.cells #[.slice A5 ys.length c5] 23)))
        have HCl : Hid ((w4.alloc (.cells #[.slice A5 ys.length c5] 23)).cell? ⟨w4.heap.size, 0, none⟩ = some (.slice A5 ys.length c5)) := Lib.hid (cell_of_row _ _ _ _ _ _ (heap_alloc_new w4 _))
        have hx1000 : L.length ≤ 1000 := by omega
        have HLo : Hid (wr.heap.size ≤ (w4.alloc (.cells #[.slice A5 ys.length c5] 23)).heap.size) := Lib.hid (Nat.le_trans HSz.out (by simp))
        clear HG3
        go_wp2_with (at_builtin; refine wpList_appG rfl (.tmp 29) (.tmp 31) rfl w M _ A3 c3 L rfl HM.out w4.heap.size 1 wr.heap.size w2.heap.size 3 A5 ys ys.length c5 c5 HG4.out rfl rfl HCl.out hc5 hx1000 (fun _ _ => Nat.zero_le _) (Nat.zero_le _) HLo.out ?_; intro v3 w5 hL5 hG5; have m5 := (bx4 (T := 25) (hL5.bx (List.Mem.head _))).2.2.1)
        have HNew : Hid (LsG w w5 v3 (acL P xs (k + 1)) [⟨w.heap.size, 25, #[.int .i64 (W : Int), .int .i64 (H : Int), .int .i64 (P : Int), .slice (some ⟨b, off, none⟩) n1 c]⟩] 0) := Lib.hid (by rw [HLn2.out]; exact hL5)
        clear hL5 hG5 HG4 HCl m5
        go_roundw
        case rel => exact ⟨k + 1, by omega, by rw [← HQ.out], HNew⟩
        case measure => simp [intOf]; omega
      · have HLn2 : Hid (acL P xs (k + 1) = L) := Lib.hid (by
          rw [HSt.out]
          by_cases hm : ys ∈ L
          · rw [if_pos hm]
          · exact absurd (HZ.out.2 hm) hzn)
        have HNew : Hid (LsG w w4 (.slice A3 L.length c3) (acL P xs (k + 1)) [⟨w.heap.size, 25, #[.int .i64 (W : Int), .int .i64 (H : Int), .int .i64 (P : Int), .slice (some ⟨b, off, none⟩) n1 c]⟩] 0) := Lib.hid (by rw [HLn2.out]; exact ⟨M, A3, c3, rfl, hc3, HM.out, HG3.out.tailR, fun _ _ => Nat.zero_le _⟩)
        obtain ⟨m0, m1, m2, m3⟩ := bx4 (T := 25) (HNew.out.bx (List.Mem.head _))
        clear HG3
        go_wp2
        go_roundw
        case rel => exact ⟨k + 1, by omega, by rw [← HQ.out], HNew⟩
        case measure => simp [intOf]; omega
    · have hk' : k = N := by omega
      have hlen : n1 = k * P := by rw [hk']; exact HLn.out
      have hnl : ¬ ((k * P : Nat) : Int) < (n1 : Int) := by omega
      subst hk'
      obtain ⟨q, hq⟩ : ∃ q, q = k * P := ⟨_, rfl⟩
      rw [← hq] at hnl ⊢
      clear hlen hq
      go_wp2
      go_ret
      exact ⟨_, rfl, hI.out.drop⟩
/-- What PaletteOf answers. -/
def palOk (W H P : Int) (xs : List Int) : Bool := vim W H P xs && decide ((acL P.toNat xs (W.toNat * H.toNat)).length ≤ 16)
def palL (W H P : Int) (xs : List Int) : List (List Int) := cond (palOk W H P xs) (acL P.toNat xs (W.toNat * H.toNat)) []
def PalM (W H P : Int) (xs : List Int) (w : World) (e : Ending) (w' : World) : Prop :=
  ∃ M A c, e = .returned (.tuple #[.slice A (palL W H P xs).length c, .bool (palOk W H P xs)]) ∧ (palL W H P xs).length ≤ c ∧ LsM M A c (palL W H P xs) ∧ GS w w' M []
theorem PalM.mk {W H P : Int} {xs : List Int} {w w' : World} {v : Value} {yss : List (List Int)} {ok : Bool} (h : LsG w w' v yss [] 0) (h1 : palL W H P xs = yss) (h2 : palOk W H P xs = ok) : PalM W H P xs w (.returned (.tuple #[v, .bool ok])) w' := by
  obtain ⟨M, A, c, rfl, hc, hM, hG, _⟩ := h
  unfold PalM
  rw [h1, h2]
  exact ⟨M, A, c, rfl, hc, hM, hG⟩
theorem LsG.below' {W0 w : World} {Bs : List Bxg} (hB : Below W0.heap.size W0 w) : LsG W0 w (.slice .none 0 0) [] [] 0 := LsG.nil ⟨hB, by simp, .nil, by simp, .nil⟩ (Nat.zero_le _)
theorem LsG.from {W0 w w' : World} {v : Value} {xss : List (List Int)} (hB : Below W0.heap.size W0 w) (h : LsG w w' v xss [] 0) : LsG W0 w' v xss [] 0 := by
  obtain ⟨M, A, c, h1, h2, h3, h4, h5⟩ := h
  have hs := hB.size
  exact ⟨M, A, c, h1, h2, h3, ⟨hB.trans (h4.1.mono hs), fun t ht => ⟨(h4.2.1 t ht).1, by have := (h4.2.1 t ht).2.1; omega, (h4.2.1 t ht).2.2⟩, h4.2.2.1, by simp, .nil⟩, h5⟩
set_option maxHeartbeats 8000000 in
theorem s_PaletteOf (W H P : Int) (A : Option Addr) (c : Nat) (xs : List Int) (w : World) (hx : Rds .i64 w w.heap.size A xs) (hl : xs.length ≤ 2000000) (hlc : xs.length ≤ c) :
    Calls Try.prog 13 #[.agg #[.int .i64 W, .int .i64 H, .int .i64 P, .slice A xs.length c]] w (PalM W H P xs w) := by
  have HX := Lib.hid hx
  clear hx
  have S0 : GS w (w.alloc (.cells #[.int .i64 W, .int .i64 H, .int .i64 P, .slice A xs.length c] 25)) [] [⟨w.heap.size, 25, #[.int .i64 W, .int .i64 H, .int .i64 P, .slice A xs.length c]⟩] := GS.box' (GS.start w) 25 #[.int .i64 W, .int .i64 H, .int .i64 P, .slice A xs.length c] w.heap.size rfl
  go_enter Try.func13, Try.ntmps13
  go_wp2_with fail
  generalize w.alloc (.cells #[.int .i64 W, .int .i64 H, .int .i64 P, .slice A xs.length c] 25) = u0 at *
  refine (sVimg_any W H P A c xs u0 (S0.arg HX.out) hl).mono ?_
  rintro e u1 ⟨rfl, hB⟩
  have S1 := S0.call hB
  clear hB S0
  cases hv : vim W H P xs
  · have HB := Lib.hid S1.below
    have HE : Hid (palOk W H P xs = false ∧ palL W H P xs = []) := Lib.hid (by unfold palL palOk; rw [hv]; exact ⟨rfl, rfl⟩)
    clear S1 hv
    go_wp2
    exact bodyPost_ret (v := .tuple #[.slice none 0 0, .bool false]) (by simp [results, Try.results13, go_sem]) rfl (PalM.mk (LsG.below' (Bs := []) HB.out) HE.out.2 HE.out.1)
  · obtain ⟨W, H, P, rfl, rfl, rfl, hW1, hW, hH1, hH, hP1, hP4, hln, hby⟩ := vim_nat hv
    have HLn := Lib.hid hln
    have HN := Lib.hid (acL_len P xs (W * H))
    have HE : Hid (palOk W H P xs = decide ((acL P xs (W * H)).length ≤ 16) ∧ palL W H P xs = cond (decide ((acL P xs (W * H)).length ≤ 16)) (acL P xs (W * H)) []) := Lib.hid (by unfold palL palOk; rw [hv]; exact ⟨rfl, rfl⟩)
    have hWH : W * H ≤ 256 := by have := Nat.mul_le_mul hW hH; omega
    clear hv hln hby
    obtain ⟨d0, d1, d2, d3⟩ := S1.b0_4
    have HA1 := Lib.hid (sAllG_any W H P hW1 hW hH1 hH hP1 hP4 A c xs HLn.out hlc u1 (S1.arg HX.out))
    go_wp2_with fail
    refine HA1.out.mono ?_
    rintro e u2 ⟨v2, rfl, hL2⟩
    have S2 := S1.call hL2.below
    obtain ⟨A2, c2, rfl, hc2⟩ := hL2.slice
    obtain ⟨n2, hn2⟩ : ∃ n2, n2 = (acL P xs (W * H)).length := ⟨_, rfl⟩
    rw [← hn2] at HE ⊢
    have hn256 : n2 ≤ 256 := by rw [hn2]; exact Nat.le_trans HN.out hWH
    clear S1 hL2 HA1 d0 d1 d2 d3 hn2
    by_cases h16 : (n2 : Int) > 16
    · have HB := Lib.hid S2.below
      have HE2 : Hid (palOk W H P xs = false ∧ palL W H P xs = []) := Lib.hid (by have h1 := HE.out; rw [decide_eq_false (show ¬ n2 ≤ 16 by omega)] at h1; exact h1)
      clear S2 HE
      go_wp2
      exact bodyPost_ret (v := .tuple #[.slice none 0 0, .bool false]) (by simp [results, Try.results13, go_sem]) rfl (PalM.mk (LsG.below' (Bs := []) HB.out) HE2.out.2 HE2.out.1)
    · have HE2 : Hid (palOk W H P xs = true ∧ palL W H P xs = acL P xs (W * H)) := Lib.hid (by have h1 := HE.out; rw [decide_eq_true (show n2 ≤ 16 by omega)] at h1; exact h1)
      obtain ⟨d0, d1, d2, d3⟩ := S2.b0_4
      have HA2 := Lib.hid (sAllG_any W H P hW1 hW hH1 hH hP1 hP4 A c xs HLn.out hlc u2 (S2.arg HX.out))
      go_wp2_with fail
      refine HA2.out.mono ?_
      rintro e u3 ⟨v3, rfl, hL3⟩
      have HB := Lib.hid S2.below
      have HL3 := Lib.hid (LsG.from HB.out hL3)
      clear S2 hL3 HA2 d0 d1 d2 d3 HE
      go_wp2
      exact bodyPost_ret (v := .tuple #[v3, .bool true]) (by simp [results, Try.results13, go_sem]) rfl (PalM.mk HL3.out HE2.out.2 HE2.out.1)
end Go.Proofs.Ytkjebidkkopalaa
