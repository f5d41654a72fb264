/- Whatever the code: the least height of drawn sprites is what the model tells; no sprite is higher, and a wider atlas needs no more. -/
import Derived.Test.YtdhdemokioejpaaRows
import Derived.WalkKit
import Derived.ProofKit
import Derived.OpenShut
import Derived.ShutString
import Derived.ChangeOld
import Derived.Below
import Derived.Test.YtdhdemokioejpaaSpr
import Derived.Test.YtdhdemokioejpaaDrawSpr
import Derived.Deep.RegionHeld3
namespace Go.Proofs.Ytdhdemokioejpaa.fnLeastHeight
open Go.ChangeShapes Go.WideShapes Go.ChangeAt Go.RowKit
open Go.ChangeMaps (open_string shut_string)
set_option linter.unusedVariables false

theorem rds_call {u u' : World} {A : Option Addr} {xs : List Int} (h : Rds .i64 u u.heap.size A xs) (hb : Below u.heap.size u u') : Rds .i64 u' u'.heap.size A xs := (h.below hb).more hb.size
theorem most_ge {xs : List Int} : ∀ k i : Nat, i < k → xs.getD (i * 2 + 1) 0 ≤ mostH xs k
  | 0, i, h => by omega
  | k + 1, i, h => by
    unfold mostH
    by_cases e : i = k
    · subst e; split <;> omega
    · have := most_ge (xs := xs) k i (by omega)
      split <;> omega
theorem okSs_more {W : Int} {xs : List Int} : ∀ k, okSs W xs k = true → okSs (W + 1) xs k = true
  | 0, _ => rfl
  | k + 1, h => by
    have hk := okS_bd (okSs_get h k (Nat.lt_succ_self k))
    unfold okSs at h ⊢
    rw [Bool.and_eq_true] at h
    rw [okSs_more k h.1, Bool.true_and]
    unfold okS
    rw [decide_eq_true (by omega), decide_eq_true (by omega)]
    rfl
/-- A wider atlas needs no more rows. -/
theorem ceil_le {a W : Int} (h0 : 0 ≤ a) (hW : 1 ≤ W) : (a + (W + 1) - 1).tdiv (W + 1) ≤ (a + W - 1).tdiv W := by
  rw [Int.tdiv_eq_ediv_of_nonneg (by omega), Int.tdiv_eq_ediv_of_nonneg (by omega)]
  obtain ⟨q, hq⟩ : ∃ q, q = (a + W - 1) / W := ⟨_, rfl⟩
  rw [← hq]
  have h1 : a + W - 1 < (q + 1) * W := by rw [hq]; exact Int.lt_ediv_add_one_mul_self _ (by omega)
  have hq0 : 0 ≤ q := by rw [hq]; exact Int.ediv_nonneg (by omega) (by omega)
  have h2 : (a + (W + 1) - 1) / (W + 1) < q + 1 := by
    apply Int.ediv_lt_of_lt_mul (by omega)
    rw [Int.mul_add, Int.add_mul] at *
    omega
  omega
theorem lst_law {W : Int} {n : Nat} {xs : List Int} (h : 0 ≤ leastH W n xs) : (∀ i : Nat, i < n → xs.getD (i * 2 + 1) 0 ≤ leastH W n xs) ∧ (1 ≤ W ∧ W ≤ 64) ∧ n ≤ 12 ∧ (W ≠ 64 → leastH (W + 1) n xs ≤ leastH W n xs) := by
  have hs : spOk W n xs = true := by
    cases h' : spOk W n xs
    · unfold leastH at h; rw [h', if_neg (by simp)] at h; omega
    · rfl
  obtain ⟨hW, hn, hk⟩ := spOk_of hs
  have e : leastH W n xs = topH W n xs := by unfold leastH; rw [if_pos hs]
  rw [e]
  refine ⟨fun i hi => ?_, hW, hn, fun hne => ?_⟩
  · have := most_ge (xs := xs) n i hi
    unfold topH
    split <;> omega
  · have hs' : spOk (W + 1) n xs = true := by
      unfold spOk
      rw [decide_eq_true (show 1 ≤ W + 1 ∧ W + 1 ≤ 64 by omega), decide_eq_true (show (n : Int) ≤ 12 by omega), okSs_more n hk]; rfl
    have e' : leastH (W + 1) n xs = topH (W + 1) n xs := by unfold leastH; rw [if_pos hs']
    have q := ceil_le (a := areaH xs n) (areaH_bd hW.2 hk n (Nat.le_refl _)).1 hW.1
    rw [e']
    unfold topH
    split <;> split <;> omega
set_option maxHeartbeats 32000000 in
theorem walk (w : World) (a0 : Option Addr) (cap0 : Nat) (z0 : List Int) (hc0 : z0.length ≤ cap0) (w0 : Rdw .u8 w w.heap.size a0 z0) :
    Calls Try.prog 4 #[.slice a0 z0.length cap0] w fun e w' => e = .returned (.bool true) ∧ Below w.heap.size w w' := by
  have hm := w0.2.1
  unfold maxLen at hm
  by_cases hlen : 1048576 < z0.length
  · go_enter Try.func4, Try.ntmps4
    go_wp2
    go_ret
    exact ⟨rfl, Below.refl _ _⟩
  · have HD := Lib.hid (drawSpr_any a0 cap0 z0 w hc0 w0)
    clear w0 hc0
    go_enter Try.func4, Try.ntmps4
    go_wp2_with fail
    refine HD.out.mono ?_
    rintro e w1 ⟨A1, n, c1, xs, W, rfl, ⟨hn13, hnc, hxl⟩, ⟨hW0, hW1⟩, hr1, hb1⟩
    obtain ⟨K, hK⟩ : ∃ k, k = leastH W n xs := ⟨_, rfl⟩
    have HXL := Lib.hid hxl
    have HI : Hid (∀ (V : Int) u, Rds .i64 u u.heap.size A1 xs → Calls Try.prog 12 #[.slice A1 n c1, .int .i64 V] u fun e w' => e = .returned (.int .i64 (leastH V n xs)) ∧ Below u.heap.size u w') := Lib.hid (fun V u h => i_LeastHeight A1 n c1 u.heap.size V xs u HXL.out h (Nat.le_refl _) (by omega))
    have HS : Hid (∀ u, Rds .i64 u u.heap.size A1 xs → Calls Try.prog 13 #[.slice A1 n c1, .int .i64 W] u fun e w' => e = .returned (.int .i64 K) ∧ Below u.heap.size u w') := Lib.hid (fun u h => by rw [hK]; exact s_LeastHeight A1 n c1 u.heap.size W xs u HXL.out h (Nat.le_refl _) (by omega))
    have HR1 := Lib.hid hr1
    have HB1 := Lib.hid hb1
    have HK := Lib.hid hK
    clear hr1 hb1 hK hxl
    go_wp2_with fail
    refine (HI.out W w1 HR1.out).mono ?_
    rintro e w2 ⟨rfl, hb⟩
    rw [← HK.out]
    have HR2 := Lib.hid (rds_call HR1.out hb)
    have HB2 := Lib.hid (HB1.out.trans (hb.mono HB1.out.size))
    clear hb HR1 HB1
    go_wp2_with fail
    refine (HS.out w2 HR2.out).mono ?_
    rintro e w3 ⟨rfl, hb⟩
    have HR3 := Lib.hid (rds_call HR2.out hb)
    have HB3 := Lib.hid (HB2.out.trans (hb.mono HB2.out.size))
    clear hb HR2 HB2
    by_cases hK0 : K < 0
    · go_wp2_with fail
      refine (HS.out w3 HR3.out).mono ?_
      rintro e w4 ⟨rfl, hb⟩
      have HB4 := Lib.hid (HB3.out.trans (hb.mono HB3.out.size))
      clear hb HR3 HB3
      go_wp2
      go_ret
      exact ⟨by simp, HB4.out⟩
    · have hl := lst_law (W := W) (n := n) (xs := xs) (by rw [← HK.out]; omega)
      rw [← HK.out] at hl
      obtain ⟨l1, l2, l3, l4⟩ := hl
      have HL1 := Lib.hid l1
      have HL4 := Lib.hid l4
      clear l1 l4 HS
      go_wp2
      go_loopw [6] (fun i wr => ∃ k : Nat, k ≤ n ∧ i = .int .i64 (k : Int) ∧ Hid (Rds .i64 wr wr.heap.size A1 xs ∧ Below w.heap.size w wr)) (fun i _ => (n - (intOf i).toNat))
      case atStart => exact ⟨0, Nat.zero_le _, rfl, Lib.hid ⟨HR3.out, HB3.out⟩⟩
      case round =>
        clear HR3 HB3
        obtain ⟨k, hk, rfl, hI⟩ := hrel
        rename World => wx
        by_cases hlt : k < n
        · have t1 : k * 2 + 1 < xs.length := by have := HXL.out; omega
          obtain ⟨b, off, rfl, hb0, hc⟩ := hI.out.1.cells_ t1
          have hc1 : wx.cell? ⟨b, off + k * 2 + 1, none⟩ = some (.int .i64 (xs.getD (k * 2 + 1) 0)) := hc _ t1
          have hle := HL1.out k hlt
          have hnl : ¬ K < xs.getD (k * 2 + 1) 0 := by omega
          have hkI : (k : Int) < (n : Int) := by omega
          clear hc t1 hle
          generalize xs.getD (k * 2 + 1) 0 = h at *
          go_wp2
          go_roundw
          case rel => exact ⟨k + 1, by omega, by go_num, hI⟩
          case measure => simp [intOf]; omega
        · have hkI : ¬ (k : Int) < (n : Int) := by omega
          have HR := Lib.hid hI.out.1
          have HB := Lib.hid hI.out.2
          clear hI
          by_cases h64 : W = 64
          · have hw : (W == 64) = true := by rw [h64]; rfl
            clear HL4
            go_wp2
            go_ret
            exact ⟨by simp, HB.out⟩
          · have hw : (W == 64) = false := beq_eq_false_iff_ne.2 h64
            have h4 := HL4.out h64
            go_wp2_with fail
            refine (HI.out (W + 1) wx HR.out).mono ?_
            rintro e w4 ⟨rfl, hb⟩
            have HB4 := Lib.hid (HB.out.trans (hb.mono HB.out.size))
            clear hb HR HB HL4
            generalize leastH (W + 1) n xs = K2 at *
            go_wp2
            go_ret
            exact ⟨by simp [h4], HB4.out⟩

/-! ### From the walk to the statement. -/
theorem own : ownKnob Try.prog.godebug = none := by kernel_rfl
theorem laidOut : laidOutB Try.prog = true := by kernel_rfl
set_option maxRecDepth 100000 in
theorem lifted (os : Os) (started : os.Started) (H : Type) (enc : TypeId × Value → H) :
    ReturnsInHanded {} Try.checked os 4 .any (Rows.fnLeastHeightSpec.pre6 enc Try.prog Try.f4 Rows.fnLeastHeightRow.domain false) (Rows.fnLeastHeightSpec.post enc Try.prog Try.f4 false true false false) := by
  refine returnsInHanded_of_change (C := Try.checked) own started (by kernel_rfl) Try.func4
    (ChangeSpec.witness6 (enc := enc) (C := Try.checked) false ⟨#[], #[.slice none 0 0], []⟩ 8 (by kernel_rfl) (by kernel_rfl) (by kernel_rfl) (by kernel_rfl)) ?_
  intro W base args ds gs before hval0 hW hcnd _
  have hval : ∀ (j : Nat) t v, Try.f4.params[j]? = some t → args[j]? = some v → Value.okWide Try.prog W .any base t v := hval0
  have hW' := hW
  obtain ⟨p, q, hA0, hV, rfl, hfz, hnd⟩ := hW
  have hA : DataW.TrodAll enc Try.prog W 0 (fun _ => true) true Try.f4.params.toList args.toList ds p := hA0
  rw [Try.params4] at hA hval
  obtain ⟨v0, vs0, d0, ds0, p0, q0, hargs, rfl, rfl, h0, r0⟩ := trodAll_cons hA
  obtain ⟨rfl, rfl, rfl⟩ := trodAll_nil r0
  obtain rfl : args = #[v0] := by cases args; simp_all
  obtain ⟨rfl, rfl⟩ := trodVars_none hV
  obtain ⟨a0, len0, cap0, rfl⟩ := okWide_slice Try.underlying22 (hval 0 22 v0 rfl rfl)
  have k0 := h0
  have lt0 : ∀ x ∈ p0, x.block < W.heap.size := by obtain ⟨m, hm⟩ := k0; exact DataW.trod_lt m _ _ _ hm
  obtain ⟨z0, hl0, hc0, w0⟩ : ∃ zs : List Int, len0 = zs.length ∧ zs.length ≤ cap0 ∧ Rdw .u8 W W.heap.size a0 zs := by
    obtain ⟨fuel, hf⟩ := h0
    rcases open_ints Try.underlying22 Try.underlying5 (by kernel_rfl) hf with ⟨hcs, _⟩ | ⟨x, l, c, zs, hcs, _, hl, hm, hz, _, hcell, hwz⟩
    · simp [Value.cells] at hcs
      obtain ⟨rfl, rfl, rfl⟩ := hcs
      exact ⟨[], rfl, Nat.le_refl _, Rdw.nil⟩
    · simp [Value.cells] at hcs
      obtain ⟨rfl, rfl, rfl⟩ := hcs
      exact ⟨zs.take len0, by simp at hz ⊢; omega, by simp at hz ⊢; omega, Rdw.of_row hl hm (by simpa using hz) hcell hwz⟩
  subst hl0
  clear hA0 hval0
  refine (walk W a0 cap0 z0 hc0 w0).mono fun e W' ⟨he, bel⟩ => ?_
  subst he
  exact ⟨_, rfl, _, _, _, [], _, [], hW', trodAll_mk1 (shut_bool Try.underlying4 _), (trodAll_cons_mk (Below.trod laidOut (by kernel_rfl) (of_decide_eq_true (by kernel_rfl)) k0 bel lt0) trodAll_mk0), rfl, bel.frame _, fun h => by cases h⟩

theorem over : Rows.fnLeastHeightRow.holds Try.pinned (OpenSpec.ofChange Rows.fnLeastHeightSpec) :=
  OpenClaim.holds_of_wide 4 Try.f4 rfl rfl rfl rfl rfl rfl rfl ⟨rfl, rfl, rfl, rfl, rfl⟩ rfl rfl rfl rfl rfl (by kernel_rfl) Try.func4 (by kernel_rfl)
    (of_decide_eq_true (by kernel_rfl)) (by unfold Func.isWrapper; first | (rw [if_pos (by decide +kernel)]; kernel_rfl) | (rw [if_neg (by decide +kernel)]; exact ⟨rfl, rfl⟩))
    (fun os started H enc _ => lifted os started H enc)

theorem proved : Rows.FnLeastHeightSaid := over
end Go.Proofs.Ytdhdemokioejpaa.fnLeastHeight
