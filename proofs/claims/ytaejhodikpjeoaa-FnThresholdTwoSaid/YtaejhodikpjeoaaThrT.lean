/- The contract of ThresholdOf in the model. -/
import Derived.Test.YtaejhodikpjeoaaThrS
import Derived.Test.YtaejhodikpjeoaaOkJ
import Derived.BigQuiet
namespace Go.Proofs.Ytaejhodikpjeoaa
open Go.RowKit Go.Shelf
set_option linter.unusedSimpArgs false
set_option linter.unusedVariables false
set_option maxRecDepth 20000
attribute [local irreducible] thA thB thD thE bst sm wsm

/-- The threshold of an image, or -1. -/
def thV (W H P : Int) (xs : List Int) : Int := cond (vpl W H P xs) (bst (hist xs) 255 : Nat) (-1)
theorem vpl_len {W H P : Int} {xs : List Int} (h : vpl W H P xs = true) : xs.length ≤ 256 ∧ vim W H P xs = true ∧ P = 1 := by
  unfold vpl at h
  rw [Bool.and_eq_true] at h
  have hp : P = 1 := of_decide_eq_true h.2
  obtain ⟨W, H, P', F, rfl, rfl, rfl, rfl, ok⟩ := vim_okJ h.1
  have := ok.bd
  have hl : (img W H P' F).length = W * H * P' := img_len _ _ _ _
  obtain rfl : P' = 1 := by omega
  refine ⟨?_, h.1, hp⟩
  have h1 := ok.1.2
  have h2 := ok.2.1.2
  have h3 : W * H ≤ 16 * 16 := Nat.mul_le_mul h1 h2
  omega
set_option maxHeartbeats 8000000 in
theorem s_ThresholdOf (W H P : Int) (A : Option Addr) (c : Nat) (xs : List Int) (w : World) (hx : Rds .i64 w w.heap.size A xs) (hl : xs.length ≤ 2000000) :
    Calls Try.prog 7 #[.agg #[.int .i64 W, .int .i64 H, .int .i64 P, .slice A xs.length c]] w fun e w' => e = .returned (.int .i64 (thV W H P xs)) ∧ Below w.heap.size w w' := by
  have HX := Lib.hid hx
  clear hx
  have S0 := (GS.start w).box' 27 #[.int .i64 W, .int .i64 H, .int .i64 P, .slice A xs.length c] w.heap.size (by simp)
  go_enter Try.func7, Try.ntmps7
  go_wp2_with fail
  generalize (w.alloc (.cells #[.int .i64 W, .int .i64 H, .int .i64 P, .slice A xs.length c] 27)) = u0 at *
  refine (sVimg_any W H P A c xs u0 (S0.arg HX.out) hl).mono ?_
  rintro e u1 ⟨rfl, hB⟩
  have HS := Lib.hid (S0.call hB)
  clear hB S0
  cases hv : vim W H P xs
  · have HF : Hid (thV W H P xs = -1) := Lib.hid (by unfold thV vpl; rw [hv]; rfl)
    clear hv
    go_wp2
    go_ret
    exact ⟨(congrArg (fun z => Ending.returned (.int .i64 z)) HF.out).symm, HS.out.below⟩
  · have HB := Lib.hid (bytes_of hv)
    obtain ⟨b0, b1, b2, b3⟩ := HS.out.b0_4
    by_cases h1 : P = 1
    · have hvp : vpl W H P xs = true := by unfold vpl; rw [hv, decide_eq_true h1]; rfl
      have HF : Hid (thV W H P xs = (bst (hist xs) 255 : Nat)) := Lib.hid (by unfold thV; rw [hvp]; rfl)
      have HC : Hid (ThC (hist xs)) := Lib.hid (thC_hist (vpl_len hvp).1 HB.out)
      clear hv hvp
      go_wp2_with fail
      refine (histogram_any A c xs u1 (HS.out.arg HX.out) hl HB.out).mono ?_
      rintro e u2 ⟨v, rfl, hO, hB⟩
      have HBl := Lib.hid (HS.out.call hB).below
      obtain ⟨A2, c2, rfl, _⟩ := hO.slice
      have HR := Lib.hid hO.rds.2
      clear hO hB b0 b1 b2 b3 HS
      generalize hist xs = cs at *
      go_wp2
      go_loopw [3, 5] (fun best i wr => ∃ k : Nat, k ≤ 255 ∧ i = .int .i64 (k + 1 : Nat) ∧ best = .int .i64 (bst cs k : Nat) ∧ Hid (Rds .i64 wr wr.heap.size A2 cs) ∧ Hid (Below w.heap.size w wr)) (fun _ i _ => 256 - (intOf i).toNat)
      case atStart => exact ⟨0, by omega, rfl, by rw [bst_zero]; rfl, HR, HBl⟩
      case round =>
        clear HR HBl
        obtain ⟨k, hk, rfl, rfl, HR, HBl⟩ := hrel
        rename World => wv
        obtain ⟨n, hn⟩ : ∃ n, n = k + 1 := ⟨_, rfl⟩
        rw [← hn]
        have HN := Lib.hid hn
        have hbk := bst_le cs k
        have hbp := bst_parts cs k
        by_cases hlt : k < 255
        · have hn6 : (n : Int) < 256 := by omega
          have HSk : Hid (thA cs n = 0 ∨ thB cs n = 0 → bst cs (k + 1) = bst cs k) := Lib.hid (fun h => bst_skip (by rw [← hn]; exact h))
          have HNx : Hid (¬ (thA cs n = 0 ∨ thB cs n = 0) → bst cs (k + 1) = if bst cs k = 0 ∨ thD cs n * thD cs n * thE cs (bst cs k) > thD cs (bst cs k) * thD cs (bst cs k) * thE cs n then n else bst cs k) := Lib.hid (fun h => by rw [hn] at h ⊢; exact bst_next h)
          obtain ⟨a0, a1, b0, b1, _⟩ := HC.out.a_bd (t := n) (by omega)
          have HBo : Hid (¬ thA cs n = 0 → ¬ thB cs n = 0 → 0 < thE cs n ∧ thE cs n ≤ 16384 ∧ 0 ≤ thD cs n ∧ thD cs n ≤ 4177920 ∧ 0 ≤ thD cs n * thD cs n ∧ thD cs n * thD cs n ≤ 17455015526400) := Lib.hid (fun h1 h2 => HC.out.both (by omega) (by omega) h1 h2)
          have HE1 : Hid (thE cs n = thA cs n * thB cs n) := Lib.hid (thE_eq cs n)
          have hn1 : 1 ≤ n := by omega
          have hn2 : n ≤ 256 := by omega
          clear hn
          go_wp2_with fail
          refine (s_partsOf cs HC.out n hn2 A2 c2 _ HR.out).mono ?_
          rintro e u ⟨rfl, hu⟩
          rw [hu]
          clear hu u
          obtain ⟨d1, hd1⟩ : ∃ d, d = thD cs n := ⟨_, rfl⟩
          have HD1 := Lib.hid hd1
          rw [← hd1] at HNx HBo
          clear hd1
          generalize thA cs n = a at *
          generalize thB cs n = b at *
          generalize thE cs n = e1 at *
          by_cases ha : a = 0
          · have HK := Lib.hid (HSk.out (.inl ha))
            have hab : (a == 0) = true := by rw [ha]; rfl
            go_wp2
            go_roundw
            case rel => exact ⟨k + 1, by omega, by rw [HN.out]; go_num, by rw [HK.out], by first | exact HR | exact Lib.hid (by exact HR.out), by first | exact HBl | exact Lib.hid (by exact ⟨HBl.out.os, HBl.out.tape, HBl.out.output, HBl.out.size, HBl.out.block⟩)⟩
            case measure => have := HN.out; simp [intOf]; omega
          · have hab : (a == 0) = false := beq_eq_false_iff_ne.2 ha
            by_cases hb : b = 0
            · have HK := Lib.hid (HSk.out (.inr hb))
              have hbb : (b == 0) = true := by rw [hb]; rfl
              go_wp2
              go_roundw
              case rel => exact ⟨k + 1, by omega, by rw [HN.out]; go_num, by rw [HK.out], by first | exact HR | exact Lib.hid (by exact HR.out), by first | exact HBl | exact Lib.hid (by exact ⟨HBl.out.os, HBl.out.tape, HBl.out.output, HBl.out.size, HBl.out.block⟩)⟩
              case measure => have := HN.out; simp [intOf]; omega
            · have HN2 := Lib.hid (HNx.out (fun h => h.elim ha hb))
              have hbb : (b == 0) = false := beq_eq_false_iff_ne.2 hb
              obtain ⟨e0, e16, d0, d40, p0, p17⟩ := HBo.out ha hb
              clear HSk HNx HBo
              obtain ⟨a2, h2a⟩ : ∃ x, x = thA cs (bst cs k) := ⟨_, rfl⟩
              obtain ⟨b2, h2b⟩ : ∃ x, x = thB cs (bst cs k) := ⟨_, rfl⟩
              obtain ⟨d2, h2d⟩ : ∃ x, x = thD cs (bst cs k) := ⟨_, rfl⟩
              obtain ⟨e2, h2e⟩ : ∃ x, x = thE cs (bst cs k) := ⟨_, rfl⟩
              have HE2 : Hid (e2 = a2 * b2) := Lib.hid (by rw [h2a, h2b, h2e]; exact thE_eq _ _)
              have HBo : Hid (¬ bst cs k = 0 → 0 < e2 ∧ e2 ≤ 16384 ∧ 0 ≤ d2 ∧ d2 ≤ 4177920 ∧ 0 ≤ d2 * d2 ∧ d2 * d2 ≤ 17455015526400) := Lib.hid (fun h => by
                rcases hbp with h3 | ⟨h3, h4⟩
                · exact absurd h3 h
                · rw [h2e, h2d]; exact HC.out.both (by omega) (by omega) h3 h4)
              have HP2 := Lib.hid (s_partsOf cs HC.out (bst cs k) (by omega) A2 c2 _ HR.out)
              have HT1 := Lib.hid (s_between cs HC.out n hn2 A2 c2 _ HR.out)
              have HT2 := Lib.hid (s_between cs HC.out (bst cs k) (by omega) A2 c2 _ HR.out)
              rw [← h2a, ← h2b] at HP2
              rw [← HD1.out] at HT1
              rw [← h2d] at HT2
              rw [← h2d, ← h2e] at HN2
              clear h2a h2b h2d h2e hbp HD1
              generalize bst cs k = m at *
              go_wp2_with fail
              refine (HP2.out).mono ?_
              rintro e u ⟨rfl, hu⟩
              rw [hu]
              clear hu u
              go_wp2_with fail
              refine (HT1.out).mono ?_
              rintro e u ⟨rfl, hu⟩
              rw [hu]
              clear hu u
              go_wp2_with fail
              refine (HT2.out).mono ?_
              rintro e u ⟨rfl, hu⟩
              rw [hu]
              clear hu u HP2 HT1 HT2
              by_cases hm : m = 0
              · have HK : Hid (bst cs (k + 1) = n) := Lib.hid (by rw [HN2.out, if_pos (.inl hm)])
                clear HN2 HBo
                subst hm
                have hmz : (((0 : Nat) : Int) == 0) = true := rfl
                go_upto_region 13 with fail
                go_quiet (fail)
                go_wp2
                go_roundw
                case rel => exact ⟨k + 1, by omega, by rw [HN.out]; go_num, by rw [HK.out], by first | exact HR | exact Lib.hid (by exact HR.out), by first | exact HBl | exact Lib.hid (by exact ⟨HBl.out.os, HBl.out.tape, HBl.out.output, HBl.out.size, HBl.out.block⟩)⟩
                case measure => have := HN.out; simp [intOf]; omega
              · obtain ⟨f0, f16, g0, g40, r0, r17⟩ := HBo.out hm
                have hmi : ¬ (m : Int) = 0 := by omega
                have HQ := quo_cmp (u := d1 * d1) (v := d2 * d2) (p := e1) (q := e2) p0 r0 e0 f0
                have HK : Hid (bst cs (k + 1) = if d1 * d1 / e1 > d2 * d2 / e2 ∨ (d1 * d1 / e1 = d2 * d2 / e2 ∧ d1 * d1 % e1 * e2 > d2 * d2 % e2 * e1) then n else m) := Lib.hid (by
                  rw [HN2.out]
                  by_cases h : d1 * d1 * e2 > d2 * d2 * e1
                  · rw [if_pos (.inr h), if_pos (HQ.2 h)]
                  · rw [if_neg (fun c => c.elim hm h), if_neg (fun c => h (HQ.1 c))])
                clear HN2 HBo HQ
                obtain ⟨p1, hp1⟩ : ∃ p, p = d1 * d1 := ⟨_, rfl⟩
                obtain ⟨p2, hp2⟩ : ∃ p, p = d2 * d2 := ⟨_, rfl⟩
                rw [← hp1] at HK p0 p17
                rw [← hp2] at HK r0 r17
                have w1 : IntKind.i64.wrap (d1 * d1) = p1 := by rw [← hp1]; exact IntWalk.i64_in _ (by omega)
                have w2 : IntKind.i64.wrap (d2 * d2) = p2 := by rw [← hp2]; exact IntWalk.i64_in _ (by omega)
                have w3 : IntKind.i64.wrap (a * b) = e1 := by rw [← HE1.out]; exact IntWalk.i64_in _ (by omega)
                have w4 : IntKind.i64.wrap (a2 * b2) = e2 := by rw [← HE2.out]; exact IntWalk.i64_in _ (by omega)
                clear hp1 hp2
                have z1 : ¬ e1 = 0 := by omega
                have z2 : ¬ e2 = 0 := by omega
                have q1 : p1.tdiv e1 = p1 / e1 := Int.tdiv_eq_ediv_of_nonneg p0
                have q2 : p2.tdiv e2 = p2 / e2 := Int.tdiv_eq_ediv_of_nonneg r0
                have m1 : p1.tmod e1 = p1 % e1 := Int.tmod_eq_emod_of_nonneg p0
                have m2 : p2.tmod e2 = p2 % e2 := Int.tmod_eq_emod_of_nonneg r0
                have t0 := Int.emod_nonneg p1 z1
                have t1 := Int.emod_lt_of_pos p1 e0
                have t2 := Int.emod_nonneg p2 z2
                have t3 := Int.emod_lt_of_pos p2 f0
                have t4 : 0 ≤ p1 / e1 := Int.ediv_nonneg p0 (by omega)
                have t5 : p1 / e1 ≤ p1 := Int.ediv_le_self _ p0
                have t6 : 0 ≤ p2 / e2 := Int.ediv_nonneg r0 (by omega)
                have t7 : p2 / e2 ≤ p2 := Int.ediv_le_self _ r0
                generalize p1 / e1 = x1 at *
                generalize p2 / e2 = x2 at *
                generalize p1 % e1 = y1 at *
                generalize p2 % e2 = y2 at *
                obtain ⟨v0, v1⟩ := thMul t0 (show y1 ≤ 16384 by omega) (show 0 ≤ e2 by omega) f16
                obtain ⟨v2, v3⟩ := thMul t2 (show y2 ≤ 16384 by omega) (show 0 ≤ e1 by omega) e16
                obtain ⟨s1, hs1⟩ : ∃ p, p = y1 * e2 := ⟨_, rfl⟩
                obtain ⟨s2, hs2⟩ : ∃ p, p = y2 * e1 := ⟨_, rfl⟩
                rw [← hs1] at HK v0 v1
                rw [← hs2] at HK v2 v3
                have w5 : IntKind.i64.wrap (y1 * e2) = s1 := by rw [← hs1]; exact IntWalk.i64_in _ (by omega)
                have w6 : IntKind.i64.wrap (y2 * e1) = s2 := by rw [← hs2]; exact IntWalk.i64_in _ (by omega)
                have w7 : IntKind.i64.wrap x1 = x1 := IntWalk.i64_in _ (by omega)
                have w8 : IntKind.i64.wrap x2 = x2 := IntWalk.i64_in _ (by omega)
                have w9 : IntKind.i64.wrap y1 = y1 := IntWalk.i64_in _ (by omega)
                have w10 : IntKind.i64.wrap y2 = y2 := IntWalk.i64_in _ (by omega)
                clear hs1 hs2
                go_upto_region 13 with fail
                have hmd : ((m : Int) == 0) = false := beq_eq_false_iff_ne.2 hmi
                by_cases c1 : x2 < x1
                · have HK2 : Hid (bst cs (k + 1) = n) := Lib.hid (by rw [HK.out, if_pos (.inl c1)])
                  have c1d : decide (x2 < x1) = true := decide_eq_true c1
                  go_quiet (fail)
                  go_wp2
                  go_roundw
                  case rel => exact ⟨k + 1, by omega, by rw [HN.out]; go_num, by rw [HK2.out], by first | exact HR | exact Lib.hid (by exact HR.out), by first | exact HBl | exact Lib.hid (by exact ⟨HBl.out.os, HBl.out.tape, HBl.out.output, HBl.out.size, HBl.out.block⟩)⟩
                  case measure => have := HN.out; simp [intOf]; omega
                · have c1d : decide (x2 < x1) = false := decide_eq_false c1
                  by_cases c2 : x1 = x2
                  · have c2d : (x1 == x2) = true := by rw [c2]; exact beq_self_eq_true _
                    by_cases c3 : s2 < s1
                    · have HK2 : Hid (bst cs (k + 1) = n) := Lib.hid (by rw [HK.out, if_pos (.inr ⟨c2, c3⟩)])
                      have c3d : decide (s2 < s1) = true := decide_eq_true c3
                      go_quiet (fail)
                      go_wp2
                      go_roundw
                      case rel => exact ⟨k + 1, by omega, by rw [HN.out]; go_num, by rw [HK2.out], by first | exact HR | exact Lib.hid (by exact HR.out), by first | exact HBl | exact Lib.hid (by exact ⟨HBl.out.os, HBl.out.tape, HBl.out.output, HBl.out.size, HBl.out.block⟩)⟩
                      case measure => have := HN.out; simp [intOf]; omega
                    · have HK2 : Hid (bst cs (k + 1) = m) := Lib.hid (by rw [HK.out, if_neg (fun h => h.elim c1 (fun h => c3 h.2))])
                      have c3d : decide (s2 < s1) = false := decide_eq_false c3
                      go_quiet (fail)
                      go_wp2
                      go_roundw
                      case rel => exact ⟨k + 1, by omega, by rw [HN.out]; go_num, by rw [HK2.out], by first | exact HR | exact Lib.hid (by exact HR.out), by first | exact HBl | exact Lib.hid (by exact ⟨HBl.out.os, HBl.out.tape, HBl.out.output, HBl.out.size, HBl.out.block⟩)⟩
                      case measure => have := HN.out; simp [intOf]; omega
                  · have c2d : (x1 == x2) = false := beq_eq_false_iff_ne.2 c2
                    have HK2 : Hid (bst cs (k + 1) = m) := Lib.hid (by rw [HK.out, if_neg (fun h => h.elim c1 (fun h => c2 h.1))])
                    go_quiet (fail)
                    go_wp2
                    go_roundw
                    case rel => exact ⟨k + 1, by omega, by rw [HN.out]; go_num, by rw [HK2.out], by first | exact HR | exact Lib.hid (by exact HR.out), by first | exact HBl | exact Lib.hid (by exact ⟨HBl.out.os, HBl.out.tape, HBl.out.output, HBl.out.size, HBl.out.block⟩)⟩
                    case measure => have := HN.out; simp [intOf]; omega
        · obtain rfl : k = 255 := by omega
          have HK : Hid (thV W H 1 xs = (bst cs 255 : Nat)) := Lib.hid (by have := HF.out; rw [h1] at this; exact this)
          clear hbp
          generalize bst cs 255 = m at *
          subst hn
          go_wp2
          go_ret
          exact ⟨(congrArg (fun z => Ending.returned (.int .i64 z)) HK.out).symm, HBl.out⟩
    · have HF : Hid (thV W H P xs = -1) := Lib.hid (by unfold thV vpl; rw [hv, decide_eq_false h1]; rfl)
      clear hv
      go_wp2
      go_ret
      exact ⟨(congrArg (fun z => Ending.returned (.int .i64 z)) HF.out).symm, HS.out.below⟩
end Go.Proofs.Ytaejhodikpjeoaa
