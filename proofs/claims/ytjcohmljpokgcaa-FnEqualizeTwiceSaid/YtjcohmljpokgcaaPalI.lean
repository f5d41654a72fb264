/- PaletteOf of the program. -/
import Derived.Test.YtjcohmljpokgcaaPalT
import Derived.Test.YtjcohmljpokgcaaMpb
import Derived.Test.YtjcohmljpokgcaaPixI
import Derived.Test.YtjcohmljpokgcaaInvI
import Derived.Deep.RegionHeld3
namespace Go.Proofs.Ytjcohmljpokgcaa
open Go.RowKit Go.Shelf
set_option linter.unusedSimpArgs false
set_option linter.unusedVariables false
set_option maxRecDepth 20000

theorem pxk_pxl {W P k : Nat} {xs : List Int} (h : k * P + P ≤ xs.length) : pxl W P xs (k % W) (k / W) = pxk P xs k := by
  have e : k / W * W + k % W = k := Nat.div_add_mod' k W
  refine List.ext_getElem (by rw [pxl_len, pxk_len h]) fun j h1 h2 => ?_
  rw [pxl_len] at h1
  have h3 := pxl_get W P xs (k % W) (k / W) j h1
  have h4 := pxk_get (xs := xs) (k := k) h1
  unfold px pix at h3
  rw [e] at h3
  have h5 := h3.trans h4.symm
  simpa [List.getD_eq_getElem?_getD, h1, h2, pxl_len] using h5
theorem acL_mono {P : Nat} {xs : List Int} {k n : Nat} (h : k ≤ n) : (acL P xs k).length ≤ (acL P xs n).length := by
  induction n with
  | zero => rw [show k = 0 by omega]; exact Nat.le_refl _
  | succ n ih =>
    rcases Nat.lt_or_ge k (n + 1) with h1 | h1
    · refine Nat.le_trans (ih (by omega)) ?_
      show _ ≤ (if pxk P xs n ∈ acL P xs n then acL P xs n else acL P xs n ++ [pxk P xs n]).length
      split
      · exact Nat.le_refl _
      · simp
    · rw [show k = n + 1 by omega]; exact Nat.le_refl _
theorem pal_cells {w : World} {b W H P : Nat} {xs : List Int} (hc : ∀ j, j < (img W H 4 (pxc W P xs)).length → w.cell? ⟨b, 0 + j, none⟩ = some (.int .i64 ((img W H 4 (pxc W P xs)).getD j 0))) {k : Nat} (hk : k < W * H) (hl : xs.length = W * H * P) :
    w.cell? ⟨b, k * 4, none⟩ = some (.int .i64 ((pxk P xs k).getD 0 0)) ∧ w.cell? ⟨b, k * 4 + 1, none⟩ = some (.int .i64 ((pxk P xs k).getD 1 0)) ∧ w.cell? ⟨b, k * 4 + 2, none⟩ = some (.int .i64 ((pxk P xs k).getD 2 0)) ∧ w.cell? ⟨b, k * 4 + 3, none⟩ = some (.int .i64 ((pxk P xs k).getD 3 0)) := by
  have h1 : k * P + P ≤ xs.length := by
    rw [hl]
    have := Nat.mul_le_mul_right P hk
    rw [Nat.succ_mul] at this
    exact this
  have e : ∀ p, p < 4 → w.cell? ⟨b, k * 4 + p, none⟩ = some (.int .i64 ((pxk P xs k).getD p 0)) := fun p hp => by
    rw [← Nat.zero_add (k * 4 + p), hc (k * 4 + p) (by rw [img_len]; omega), img_at _ hk hp]
    unfold pxc
    rw [pxk_pxl h1]
  exact ⟨by simpa using e 0 (by omega), e 1 (by omega), e 2 (by omega), e 3 (by omega)⟩
theorem bx_own4 {w : World} {g base P : Nat} {ys : List Int} (hP : P ≤ 4) (hl : ys.length = P) (hX : Bx w g 62 #[.int .i64 (ys.getD 0 0), .int .i64 (ys.getD 1 0), .int .i64 (ys.getD 2 0), .int .i64 (ys.getD 3 0)]) (hb : base ≤ g) : w.ownsRow base 62 1 (.slice (some ⟨g, 0, none⟩) P 4) P (ys.map (.int .i64)) := by
  refine ⟨by simp [hl], .inr ⟨g, 4, _, rfl, hb, hX, hP, by unfold maxLen; omega, rfl, ?_⟩⟩
  subst hl
  match ys, hP with
  | [], _ => rfl
  | [a], _ => rfl
  | [a, b], _ => rfl
  | [a, b, c], _ => rfl
  | [a, b, c, d], _ => rfl
  | a :: b :: c :: d :: e :: l, h => simp at h
theorem LsG.d0 {W0 w : World} {v : Value} {xss : List (List Int)} {Bs : List Bxg} {d : Nat} (h : LsG W0 w v xss Bs d) : LsG W0 w v xss Bs 0 := by
  obtain ⟨M, A, c, h1, h2, h3, h4, h5⟩ := h
  exact ⟨M, A, c, h1, h2, h3, h4, fun _ _ => Nat.zero_le _⟩
theorem fld_gridP (a b v : Value) (w : World) : (Instr.field 59 (.agg #[a, b, v]) 2).run Try.prog w = .ok v w := by
  simp [Instr.field, run_underlying Try.underlying59, asAgg, go_sem]
set_option maxHeartbeats 16000000 in
theorem i_PaletteOf (W H P : Int) (A : Option Addr) (c : Nat) (xs : List Int) (w : World) (hx : Rds .i64 w w.heap.size A xs) (hl : xs.length ≤ 2000000) (hlc : xs.length ≤ c) :
    Calls Try.prog 14 #[.agg #[.int .i64 W, .int .i64 H, .int .i64 P, .slice A xs.length c]] w (PalM W H P xs w) := by
  have HX := Lib.hid hx
  clear hx
  have S0 : GS w (w.alloc (.cells #[.int .i64 W, .int .i64 H, .int .i64 P, .slice A xs.length c] 25)) [] [⟨w.heap.size, 25, #[.int .i64 W, .int .i64 H, .int .i64 P, .slice A xs.length c]⟩] := GS.box' (GS.start w) 25 #[.int .i64 W, .int .i64 H, .int .i64 P, .slice A xs.length c] w.heap.size rfl
  obtain ⟨d0, d1, d2, d3⟩ := S0.b0_4
  go_enter Try.func14, Try.ntmps14
  go_wp2_with fail
  generalize w.alloc (.cells #[.int .i64 W, .int .i64 H, .int .i64 P, .slice A xs.length c] 25) = u0 at *
  refine (iVimg_any W H P A c xs u0 (S0.arg HX.out) hl).mono ?_
  rintro e u1 ⟨rfl, hB⟩
  have S1 := S0.call hB
  clear hB S0 d0 d1 d2 d3
  cases hv : vim W H P xs
  · have HB := Lib.hid S1.below
    have HE : Hid (palOk W H P xs = false ∧ palL W H P xs = []) := Lib.hid (by unfold palL palOk; rw [hv]; exact ⟨rfl, rfl⟩)
    clear S1 hv
    go_wp2
    exact bodyPost_ret (v := .tuple #[.slice none 0 0, .bool false]) (by simp [results, Try.results14, go_sem]) rfl (PalM.mk (LsG.below' (Bs := []) HB.out) HE.out.2 HE.out.1)
  · obtain ⟨W, H, P, rfl, rfl, rfl, hW1, hW, hH1, hH, hP1, hP4, hln, hby⟩ := vim_nat hv
    have HLn := Lib.hid hln
    have HE : Hid (palOk W H P xs = decide ((acL P xs (W * H)).length ≤ 16) ∧ palL W H P xs = cond (decide ((acL P xs (W * H)).length ≤ 16)) (acL P xs (W * H)) []) := Lib.hid (by unfold palL palOk; rw [hv]; exact ⟨rfl, rfl⟩)
    have HYa : Hid (∀ k, k < W * H → allB 0 255 (pxk P xs k) = true ∧ (pxk P xs k).length = P) := Lib.hid (fun k hk => by
      have h1 : k * P + P ≤ xs.length := by
        rw [hln]
        have := Nat.mul_le_mul_right P hk
        rw [Nat.succ_mul] at this
        exact this
      refine ⟨allB_yes fun j hj => ?_, pxk_len h1⟩
      rw [pxk_len h1] at hj
      rw [pxk_get hj]
      exact hby _ (by omega))
    clear hv hln hby
    obtain ⟨mb, hmb⟩ : ∃ mb, mb = u1.heap.size := ⟨_, rfl⟩
    have hwm : w.heap.size < mb := by rw [hmb]; exact (S1.bx (List.Mem.head _)).lt
    have S2 := S1.call ((Below.refl u1.heap.size u1).alloc (Nat.le_refl _) (.map #[] 0))
    have hM2 := MpB.made u1 P
    rw [← hmb] at hM2
    have hmk := fun W : World => run_makeMap (P := Try.prog) 78 W
    have Hmb := Lib.hid hmb
    obtain ⟨u2, hu2⟩ : ∃ u2, u2 = u1.alloc (.map #[] 0) := ⟨_, rfl⟩
    rw [← hu2] at S2 hM2
    obtain ⟨d0, d1, d2, d3⟩ := S2.b0_4
    have HGR := Lib.hid (gridOf_any W H P hW hH hP1 hP4 hW1 hH1 A c xs HLn.out hlc u2 (S2.arg HX.out))
    clear S1
    rw [hu2] at d0 d1 d2 d3
    go_wp2_with fail
    rw [← hu2, ← Hmb.out]
    clear d0 d1 d2 d3 hmk hu2 hmb Hmb
    refine HGR.out.mono ?_
    rintro e u4 ⟨v4, rfl, hO4, hB4⟩
    obtain ⟨N, hN⟩ : ∃ N, N = W * H := ⟨_, rfl⟩
    have hN256 : N ≤ 256 := by rw [hN]; exact Nat.mul_le_mul hW hH
    have hNpos : 0 < N := by rw [hN]; exact Nat.mul_pos hW1 hH1
    have hrow : ∃ b4 c4, v4 = .slice (some ⟨b4, 0, none⟩) N c4 ∧ N ≤ c4 ∧ u2.heap.size ≤ b4 ∧ b4 < u4.heap.size ∧ ∀ j, j < (img W H 4 (pxc W P xs)).length → u4.cell? ⟨b4, 0 + j, none⟩ = some (.int .i64 ((img W H 4 (pxc W P xs)).getD j 0)) := by
      obtain ⟨A4, c4, rfl, hc4⟩ := hO4.slice
      have h0 : 0 < (img W H 4 (pxc W P xs)).length := by rw [img_len, ← hN]; omega
      have hr := (GS.start u2).addR hO4 hB4
      have hr2 : Rds .i64 u4 u4.heap.size A4 (img W H 4 (pxc W P xs)) := GS.rdsT (E := 62) (C := 4) (lo := u2.heap.size) (hi := u4.heap.size) (A := A4) (n := W * H) (m := W * H) (c := c4) hr (List.Mem.head _)
      rcases hO4.2 with ⟨_, h1⟩ | ⟨g, cap, cur, hvv, hbg, hg, hnc, _⟩
      · omega
      · simp only [Value.slice.injEq] at hvv
        obtain ⟨rfl, _, rfl⟩ := hvv
        obtain ⟨b, off, e1, hb, hcx⟩ := hr2.cells_ h0
        injection e1 with e1
        injection e1 with e2 e3
        subst e2
        subst e3
        exact ⟨g, c4, by rw [hN], by rw [hN]; exact hc4, hbg, hb, hcx⟩
    obtain ⟨b4, c4, rfl, hc4, hb4, hb4d, hcx⟩ := hrow
    obtain ⟨d, hd⟩ : ∃ d, d = u4.heap.size := ⟨_, rfl⟩
    rw [← hd] at hb4d
    have HCx := Lib.hid hcx
    have S4 := S2.call hB4
    have hml := hM2.lt
    have hmd : mb < d := by rw [hd]; exact Nat.lt_of_lt_of_le hml hB4.size
    have hmb4 : mb < b4 := Nat.lt_of_lt_of_le hml hb4
    have hI0 : Hid (LsG w u4 (.slice .none 0 0) (acL P xs 0) [⟨w.heap.size, 25, #[.int .i64 (W : Int), .int .i64 (H : Int), .int .i64 (P : Int), .slice A xs.length c]⟩] d) := Lib.hid (LsG.nil S4 (by rw [hd]; exact Nat.le_refl _))
    have hJ0 : Hid (MpB u4 mb 0 P (acL P xs 0) ∧ u4.heap[b4]? = u4.heap[b4]? ∧ (acL P xs 0).length ≤ 16 ∧ d ≤ u4.heap.size) := Lib.hid ⟨hM2.below hB4, rfl, Nat.zero_le _, by rw [hd]; exact Nat.le_refl _⟩
    rw [← hN] at HE HYa HLn
    have HN := Lib.hid hN
    clear hO4 hB4 S2 S4 hM2 hml hb4 hcx hd HGR hN
    have hfl := fld_gridP
    go_wp2
    clear hfl
    go_loopw [5, 16] (fun v i wr => ∃ k : Nat, k ≤ N ∧ i = .int .i64 (k : Int) ∧ Hid (LsG w wr v (acL P xs k) [⟨w.heap.size, 25, #[.int .i64 (W : Int), .int .i64 (H : Int), .int .i64 (P : Int), .slice A xs.length c]⟩] d) ∧ Hid (MpB wr mb k P (acL P xs k) ∧ wr.heap[b4]? = u4.heap[b4]? ∧ (acL P xs k).length ≤ 16 ∧ d ≤ wr.heap.size)) (fun _ i _ => N - (intOf i).toNat)
    case atStart => exact ⟨0, Nat.zero_le _, rfl, hI0, Lib.hid ⟨hJ0.out.1, rfl, hJ0.out.2.2⟩⟩
    case round =>
      obtain ⟨k, hk, rfl, hL, hJ⟩ := hrel
      clear hI0 hJ0
      by_cases hlt : k < N
      · obtain ⟨x0, x1, x2, x3⟩ := pal_cells (k := k) HCx.out (by rw [← HN.out]; exact hlt) (by rw [← HN.out]; exact HLn.out)
        have hkp : ∀ o, wr.cell? ⟨b4, o, none⟩ = u4.cell? ⟨b4, o, none⟩ := fun o => World.cell?_of_block hJ.out.2.1
        rw [← hkp] at x0 x1 x2 x3
        have HSt : Hid (acL P xs (k + 1) = if pxk P xs k ∈ acL P xs k then acL P xs k else acL P xs k ++ [pxk P xs k]) := Lib.hid rfl
        have hYa := HYa.out k hlt
        have HMo : Hid (∀ n, n = acL P xs (k + 1) → n.length ≤ (acL P xs N).length) := Lib.hid (fun n hn => by rw [hn]; exact acL_mono hlt)
        obtain ⟨ys, hys⟩ : ∃ ys, ys = pxk P xs k := ⟨_, rfl⟩
        rw [← hys] at x0 x1 x2 x3 HSt hYa
        have HLy := Lib.hid hYa.2
        have HYb := Lib.hid hYa.1
        clear hkp hYa hys
        obtain ⟨y0, e0⟩ : ∃ v, ys.getD 0 0 = v := ⟨_, rfl⟩
        obtain ⟨y1, e1⟩ : ∃ v, ys.getD 1 0 = v := ⟨_, rfl⟩
        obtain ⟨y2, e2⟩ : ∃ v, ys.getD 2 0 = v := ⟨_, rfl⟩
        obtain ⟨y3, e3⟩ : ∃ v, ys.getD 3 0 = v := ⟨_, rfl⟩
        rw [e0] at x0
        rw [e1] at x1
        rw [e2] at x2
        rw [e3] at x3
        obtain ⟨gx, hgx⟩ : ∃ gx, gx = wr.heap.size := ⟨_, rfl⟩
        have hL2 := hL.out.box 62 #[.int .i64 y0, .int .i64 y1, .int .i64 y2, .int .i64 y3] gx hgx
        have hM2 := hJ.out.1.below ((Below.refl wr.heap.size wr).alloc (Nat.le_refl _) (.cells #[.int .i64 y0, .int .i64 y1, .int .i64 y2, .int .i64 y3] 62))
        have hb2 : (wr.alloc (.cells #[.int .i64 y0, .int .i64 y1, .int .i64 y2, .int .i64 y3] 62)).heap[b4]? = u4.heap[b4]? := (Below.heap_alloc wr _ b4 (Nat.lt_of_lt_of_le hb4d hJ.out.2.2.2)).trans hJ.out.2.1
        have hd2 : d ≤ (wr.alloc (.cells #[.int .i64 y0, .int .i64 y1, .int .i64 y2, .int .i64 y3] 62)).heap.size := Nat.le_trans hJ.out.2.2.2 (by simp)
        have hgm : gx ≠ mb := by have := hJ.out.2.2.2; omega
        have h16 := hJ.out.2.2.1
        have Hgx := Lib.hid hgx
        obtain ⟨z0, z1, z2, z3⟩ := bx4 (T := 62) (hL2.bx (List.Mem.head _))
        obtain ⟨p0, p1, p2, p3⟩ := bx4 (T := 25) (hL2.bx (List.mem_cons_of_mem _ (List.Mem.head _)))
        have hlk := hM2.get HLy.out HYb.out
        simp only [colV] at hlk
        rw [e0, e1, e2, e3] at hlk
        obtain ⟨M, A3, c3, rfl, hc3, hM, hG, hdm⟩ := hL2
        have HM := Lib.hid hM
        have HG := Lib.hid hG
        have Hdm := Lib.hid hdm
        have HOw : Hid (∀ g, (Value.slice A3 (acL P xs k).length c3).ownBlock = some g → d ≤ g) := Lib.hid (fun g hg => (LsG.own (W0 := w) ⟨M, A3, c3, rfl, hc3, hM, hG, hdm⟩ g hg).1)
        have HMb := Lib.hid hM2
        have Hb4 := Lib.hid hb2
        have Hd := Lib.hid hd2
        rw [hgx] at z0 z1 z2 z3
        clear hL hJ hM hG hdm hM2 hb2 hd2 hgx
        generalize acL P xs k = L at *
        by_cases hm : ys ∈ L
        · rw [decide_eq_true hm] at hlk
          have HS2 : Hid (acL P xs (k + 1) = L) := Lib.hid (by rw [HSt.out, if_pos hm])
          clear HSt hm p0 p1 p2 p3
          go_wp2
          go_roundw
          case rel => exact ⟨k + 1, by omega, by go_num, Lib.hid (by rw [HS2.out]; exact LsG.other ⟨M, A3, c3, rfl, hc3, HM.out, HG.out, Hdm.out⟩), Lib.hid ⟨by rw [HS2.out]; exact HMb.out.mono (Nat.le_succ _), Hb4.out, by rw [HS2.out]; exact h16, Hd.out⟩⟩
          case measure => simp [intOf]; omega
        · rw [decide_eq_false hm] at hlk
          have HS2 : Hid (acL P xs (k + 1) = L ++ [ys]) := Lib.hid (by rw [HSt.out, if_neg hm])
          clear HSt hm
          by_cases hfull : L.length = 16
          · have hbq : ((L.length : Int) == 16) = true := beq_iff_eq.2 (by omega)
            have HE2 : Hid (palOk W H P xs = false ∧ palL W H P xs = []) := Lib.hid (by
              have h1 := HE.out
              have h2 := HMo.out _ HS2.out.symm
              rw [List.length_append, hfull] at h2
              simp at h2
              rw [decide_eq_false (show ¬ (acL P xs N).length ≤ 16 by omega)] at h1
              exact h1)
            have HB := Lib.hid HG.out.below
            have hf : (L.length : Int) = 16 := by omega
            clear hbq HE HMo HS2 hfull p0 p1 p2 p3
            go_wp2
            exact bodyPost_ret (v := .tuple #[.slice none 0 0, .bool false]) (by simp [results, Try.results14, go_sem]) rfl (PalM.mk (LsG.below' (Bs := []) HB.out) HE2.out.2 HE2.out.1)
          · have hbq : ((L.length : Int) == 16) = false := beq_eq_false_iff_ne.2 (by omega)
            obtain ⟨w6, hst, hM6, hG6⟩ := MpB.store hP4 HMb.out HLy.out HYb.out (by unfold maxLen; omega)
            simp only [colV] at hst
            rw [e0, e1, e2, e3] at hst
            have hg6 := HG.out.off hG6 (Nat.le_of_lt hwm) (fun t ht => Nat.lt_of_lt_of_le hmd (Hdm.out t ht)) (fun b hb => by
              rcases List.mem_cons.1 hb with rfl | hb
              · exact hgm
              · obtain rfl : b = _ := List.mem_singleton.1 hb
                exact Nat.ne_of_lt hwm)
            have hHM6 : MpB w6 mb (k + 1) P (L ++ [ys]) := hM6
            have Hb6 : Hid (w6.heap[b4]? = u4.heap[b4]?) := Lib.hid ((hG6.block b4 (Nat.lt_of_lt_of_le hb4d Hd.out) (fun e => by injection e with e; omega)).trans Hb4.out)
            have Hd6 : Hid (d ≤ w6.heap.size) := Lib.hid (Nat.le_trans Hd.out hG6.size)
            have HG6 := Lib.hid hg6
            have HMb6 := Lib.hid (show MpB w6 mb (k + 1) P (L ++ [ys]) from hHM6)
            have Hb6' := Lib.hid (show w6.heap[b4]? = u4.heap[b4]? from Hb6.out)
            have hx1000 : L.length ≤ 1000 := by omega
            have HF16 : Hid (L.length + 1 ≤ 16) := Lib.hid (by omega)
            have HPX : Hid (∀ u, Calls Try.prog 52 #[.agg #[.int .i64 y0, .int .i64 y1, .int .i64 y2, .int .i64 y3], .int .i64 (P : Int)] u fun e w' => e = .returned (.slice (some ⟨u.heap.size, 0, none⟩) P P) ∧ Bx w' u.heap.size 62 #[.int .i64 y0, .int .i64 y1, .int .i64 y2, .int .i64 y3] ∧ Below u.heap.size u w') := Lib.hid (fun u => by
              have h := pixelOf_any (fun p => ys.getD p 0) P hP4 u
              simp only [colV] at h
              rw [e0, e1, e2, e3] at h
              exact h)
            go_upto_region 12 with fail
            rw [← Hgx.out]
            obtain ⟨z0, z1, z2, z3⟩ := bx4 (T := 62) (hg6.bx (List.Mem.head _))
            obtain ⟨q0, q1, q2, q3⟩ := bx4 (T := 25) (hg6.bx (List.mem_cons_of_mem _ (List.Mem.head _)))
            have e0' := e0
            have e1' := e1
            have e2' := e2
            have e3' := e3
            clear hlk hst p0 p1 p2 p3 hM6 hG6 HG HMb Hb4 Hd Hgx hg6 hHM6 Hb6 x0 x1 x2 x3 e0 e1 e2 e3 hbq hfull
            go_wp2_with fail
            refine (HPX.out _).mono ?_
            rintro e w5 ⟨rfl, hX5, hB5⟩
            obtain ⟨l5, hl5⟩ : ∃ l5, l5 = w6.heap.size := ⟨_, rfl⟩
            have hO5 := bx_own4 (base := w6.heap.size) hP4 HLy.out (by rw [e0', e1', e2', e3']; exact hX5) (Nat.le_refl _)
            have hG5 : GS w w5 (rt 62 1 l5 w5.heap.size (.slice (some ⟨l5, 0, none⟩) P 4) P ys :: M) [⟨gx, 62, #[.int .i64 y0, .int .i64 y1, .int .i64 y2, .int .i64 y3]⟩, ⟨w.heap.size, 25, #[.int .i64 (W : Int), .int .i64 (H : Int), .int .i64 (P : Int), .slice A xs.length c]⟩] := by rw [hl5]; exact HG6.out.addR hO5 hB5
            have HG5 := Lib.hid hG5
            have HB5 := Lib.hid hB5
            have HL5 : Hid (d ≤ l5 ∧ l5 ≤ w5.heap.size) := Lib.hid ⟨by rw [hl5]; exact Hd6.out, by rw [hl5]; exact hB5.size⟩
            rw [← hl5]
            clear hO5 hG5 hX5 hB5 hl5
            have HG7 := Lib.hid (HG5.out.call ((Below.refl w5.heap.size w5).alloc (Nat.le_refl _) (.cells #[.slice (some ⟨l5, 0, none⟩) P P] 23)))
            have HCl : Hid ((w5.alloc (.cells #[.slice (some ⟨l5, 0, none⟩) P P] 23)).cell? ⟨w5.heap.size, 0, none⟩ = some (.slice (some ⟨l5, 0, none⟩) P P)) := Lib.hid (cell_of_row _ _ _ _ _ _ (heap_alloc_new w5 _))
            have HB7 := Lib.hid (HB5.out.alloc HB5.out.size (.cells #[.slice (some ⟨l5, 0, none⟩) P P] 23))
            have HL7 : Hid (d ≤ l5 ∧ l5 ≤ (w5.alloc (.cells #[.slice (some ⟨l5, 0, none⟩) P P] 23)).heap.size) := Lib.hid ⟨HL5.out.1, Nat.le_trans HL5.out.2 (by simp)⟩
            clear HG5 HB5 HL5 z0 z1 z2 z3 q0 q1 q2 q3
            go_wp2_with (at_builtin; refine wpList_appG rfl (.tmp 28) (.tmp 33) rfl w M [⟨gx, 62, #[.int .i64 y0, .int .i64 y1, .int .i64 y2, .int .i64 y3]⟩, ⟨w.heap.size, 25, #[.int .i64 (W : Int), .int .i64 (H : Int), .int .i64 (P : Int), .slice A xs.length c]⟩] A3 c3 L rfl HM.out w5.heap.size 1 l5 w5.heap.size 62 (some ⟨l5, 0, none⟩) ys P P 4 HG7.out rfl HLy.out.symm HCl.out (by rw [HLy.out]; exact Nat.le_refl _) hx1000 Hdm.out HL7.out.1 HL7.out.2 ?_; intro v7 w7 hL7 hG7)
            have HL8 := Lib.hid hL7
            have HK7 : Hid (w7.heap[mb]? = w6.heap[mb]? ∧ w7.heap[b4]? = w6.heap[b4]? ∧ d ≤ w7.heap.size) := Lib.hid ⟨(hG7.block mb (Nat.lt_of_lt_of_le hmd (Nat.le_trans HL7.out.1 HL7.out.2)) (fun e => by have := HOw.out _ e.symm; omega)).trans (HB7.out.block mb (Nat.lt_of_lt_of_le hmd Hd6.out)), (hG7.block b4 (Nat.lt_of_lt_of_le hb4d (Nat.le_trans HL7.out.1 HL7.out.2)) (fun e => by have := HOw.out _ e.symm; omega)).trans (HB7.out.block b4 (Nat.lt_of_lt_of_le hb4d Hd6.out)), Nat.le_trans HL7.out.1 (Nat.le_trans HL7.out.2 hG7.size)⟩
            clear hL7 hG7 HG7 HCl HB7 HL7
            clear HPX
            go_roundw
            case rel =>
              refine ⟨k + 1, by omega, by go_num, Lib.hid (by rw [HS2.out]; exact HL8.out.other), Lib.hid ⟨by rw [HS2.out]; exact HMb6.out.kept HK7.out.1, HK7.out.2.1.trans Hb6'.out, ?_, HK7.out.2.2⟩⟩
              rw [HS2.out, List.length_append]
              exact HF16.out
            case measure => simp [intOf]; omega
      · have hk' : k = N := by omega
        subst hk'
        obtain ⟨A9, c9, rfl, hc9⟩ := hL.out.slice
        have HE2 : Hid (palOk W H P xs = true ∧ palL W H P xs = acL P xs k) := Lib.hid (by have h1 := HE.out; rw [decide_eq_true hJ.out.2.2.1] at h1; exact h1)
        go_wp2
        exact bodyPost_ret (v := .tuple #[.slice A9 (acL P xs k).length c9, .bool true]) (by simp [results, Try.results14, go_sem]) rfl (PalM.mk hL.out.drop.d0 HE2.out.2 HE2.out.1)
end Go.Proofs.Ytjcohmljpokgcaa
