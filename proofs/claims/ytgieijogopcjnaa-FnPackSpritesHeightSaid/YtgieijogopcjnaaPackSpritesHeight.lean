/- Whatever the code: the packing of drawn sprites is what the model tells; its height is not less than the least one, and not more than all heights together. -/
import Derived.Test.YtgieijogopcjnaaRows
import Derived.WalkKit
import Derived.ProofKit
import Derived.OpenShut
import Derived.ShutString
import Derived.ChangeOld
import Derived.Below
import Derived.Test.YtgieijogopcjnaaPckU
import Derived.Test.YtgieijogopcjnaaDrawSpr
import Derived.Test.YtgieijogopcjnaaEqBx
import Derived.Test.YtgieijogopcjnaaVpk
import Derived.BigQuiet
namespace Go.Proofs.Ytgieijogopcjnaa.fnPackSpritesHeight
open Go.ChangeShapes Go.WideShapes Go.ChangeAt Go.RowKit
open Go.ChangeMaps (open_string shut_string)
set_option linter.unusedVariables false

theorem rds_call {u u' : World} {A : Option Addr} {xs : List Int} (h : Rds .i64 u u.heap.size A xs) (hb : Below u.heap.size u u') : Rds .i64 u' u'.heap.size A xs := (h.below hb).more hb.size
theorem rds_dn {u : World} {A : Option Addr} {xs : List Int} (h : Rds .i64 u u.heap.size A xs) (m : Nat) : Rds .i64 (u.drewN m) (u.drewN m).heap.size A xs := h.keep (fun _ _ => rfl)
theorem sum_area {xs : List Int} : True := trivial
set_option maxHeartbeats 32000000 in
theorem walk (w : World) (a0 : Option Addr) (cap0 : Nat) (z0 : List Int) (hc0 : z0.length ≤ cap0) (w0 : Rdw .u8 w w.heap.size a0 z0) :
    Calls Try.prog 7 #[.slice a0 z0.length cap0] w fun e w' => e = .returned (.bool true) ∧ Below w.heap.size w w' := by
  have hm := w0.2.1
  unfold maxLen at hm
  by_cases hlen : 1048576 < z0.length
  · go_enter Try.func7, Try.ntmps7
    go_wp2
    go_ret
    exact ⟨rfl, Below.refl _ _⟩
  · have HD := Lib.hid (drawPck_any a0 cap0 z0 w hc0 w0)
    clear w0 hc0
    go_enter Try.func7, Try.ntmps7
    go_wp2_with fail
    refine HD.out.mono ?_
    rintro e w1 ⟨A1, n, c1, xs, W, rfl, ⟨hn13, hnc, hxl⟩, ⟨hW0, hW1⟩, hr1, hb1⟩
    have HXL := Lib.hid hxl
    obtain ⟨H, hH⟩ : ∃ H, H = pkH W n xs := ⟨_, rfl⟩
    obtain ⟨N, hN⟩ : ∃ N, N = pkN W n xs := ⟨_, rfl⟩
    obtain ⟨L, hL⟩ : ∃ L, L = pkL W n xs := ⟨_, rfl⟩
    have hlen := pk_len W n xs
    rw [← hN, ← hL] at hlen
    have HLen := Lib.hid hlen
    have hN1 : N ≤ 1000000 := hlen.1
    have HI : Hid (∀ u, Rds .i64 u u.heap.size A1 xs → Calls Try.prog 15 #[.slice A1 n c1, .int .i64 W] u fun e w' => ∃ v, e = .returned (.tuple #[v, .int .i64 H]) ∧ OwnT 29 4 w' u.heap.size v N L ∧ Below u.heap.size u w') := Lib.hid (fun u h => by rw [hH, hN, hL]; exact i_PackSprites A1 n c1 W xs u HXL.out h (by omega))
    have HS : Hid (∀ u, Rds .i64 u u.heap.size A1 xs → Calls Try.prog 13 #[.slice A1 n c1, .int .i64 W] u fun e w' => ∃ v, e = .returned (.tuple #[v, .int .i64 H]) ∧ OwnT 29 4 w' u.heap.size v N L ∧ Below u.heap.size u w') := Lib.hid (fun u h => by rw [hH, hN, hL]; exact s_PackSprites A1 n c1 W xs u HXL.out h (by omega))
    have HR1 := Lib.hid hr1
    have HB1 := Lib.hid hb1
    have HH := Lib.hid hH
    have HNn := Lib.hid hN
    have HLl := Lib.hid hL
    clear hr1 hb1 hH hN hL hxl hlen
    go_wp2_with fail
    refine (HI.out w1 HR1.out).mono ?_
    rintro e w2 ⟨v2, rfl, hO2, hB2⟩
    obtain ⟨A2, c2, rfl, hc2⟩ := hO2.slice
    have HR2 := Lib.hid (rds_call HR1.out hB2)
    have HP2 := Lib.hid hO2.rds
    have HB2 := Lib.hid (HB1.out.trans (hB2.mono HB1.out.size))
    clear hO2 hB2 HR1 HB1
    go_wp2_with fail
    refine (HS.out w2 HR2.out).mono ?_
    rintro e w3 ⟨v3, rfl, hO3, hB3⟩
    obtain ⟨A3, c3, rfl, hc3⟩ := hO3.slice
    have HR3 := Lib.hid (rds_call HR2.out hB3)
    have HP3 := Lib.hid (rds_call HP2.out hB3)
    have HW3 := Lib.hid hO3.rds
    have HB3 := Lib.hid (HB2.out.trans (hB3.mono HB2.out.size))
    clear hO3 hB3 HR2 HP2 HB2 HS
    have HEq : Hid (∀ u, Rds .i64 u u.heap.size A2 L → Rds .i64 u u.heap.size A3 L → Calls Try.prog 22 #[.slice A2 N c2, .slice A3 N c3] u fun e w' => e = .returned (.bool true) ∧ ∃ m, w' = u.drewN m) := Lib.hid (fun u h h' => equalBoxes_same A2 A3 N c2 c3 L u.heap.size u.heap.size u (by have := HLen.out.2; omega) h h' (by omega))
    go_wp2_with fail
    refine (HEq.out w3 HP3.out HW3.out).mono ?_
    rintro e w4 ⟨rfl, m4, hm4⟩
    have HR4 : Hid (Rds .i64 w4 w4.heap.size A1 xs) := Lib.hid (by rw [hm4]; exact rds_dn HR3.out m4)
    have HP4 : Hid (Rds .i64 w4 w4.heap.size A2 L) := Lib.hid (by rw [hm4]; exact rds_dn HP3.out m4)
    have HW4 : Hid (Rds .i64 w4 w4.heap.size A3 L) := Lib.hid (by rw [hm4]; exact rds_dn HW3.out m4)
    have HB4 : Hid (Below w.heap.size w w4) := Lib.hid (by rw [hm4]; exact dnP HB3.out m4)
    clear hm4 HR3 HP3 HW3 HB3
    by_cases hH0 : H < 0
    · have hd : decide (H < 0) = true := decide_eq_true hH0
      go_wp2_with fail
      refine (HEq.out w4 HP4.out HW4.out).mono ?_
      rintro e w5 ⟨rfl, m5, hm5⟩
      have HB5 : Hid (Below w.heap.size w w5) := Lib.hid (by rw [hm5]; exact dnP HB4.out m5)
      clear hm5
      go_wp2
      go_ret
      exact ⟨by simp, HB5.out⟩
    · have hd : decide (H < 0) = false := decide_eq_false hH0
      have hok : spOk W n xs = true := by
        cases h : spOk W n xs
        · have := HH.out; unfold pkH at this; rw [h] at this; exact absurd (show H < 0 by rw [this]; show (-1 : Int) < 0; decide) hH0
        · rfl
      obtain ⟨l1, l2, l3, l4, l5⟩ := pk_law hok
      have eH : H = (pkAt W xs n n).h := by rw [HH.out]; unfold pkH; rw [hok]; rfl
      have eN : N = n := by rw [HNn.out]; unfold pkN; rw [hok]; rfl
      have eL : L = (pkAt W xs n n).out := by rw [HLl.out]; unfold pkL; rw [hok]; rfl
      rw [← eL] at l1 l2
      rw [← eH] at l2 l3 l4 l5
      have HOk := Lib.hid hok
      have HWn : Hid ((1 ≤ W ∧ W ≤ 64) ∧ n ≤ 12) := Lib.hid ⟨(spOk_of hok).1, (spOk_of hok).2.1⟩
      have HL1 := Lib.hid l1
      have HL2 := Lib.hid l2
      have HL4 := Lib.hid l4
      have HL5 := Lib.hid l5
      subst eN
      clear l1 l2 l3 l4 l5 eH eL hok HH HNn HLl
      have HLs : Hid (∀ u, Rds .i64 u u.heap.size A1 xs → Calls Try.prog 23 #[.slice A1 N c1, .int .i64 W] u fun e w' => e = .returned (.int .i64 (leastH W N xs)) ∧ Below u.heap.size u w') := Lib.hid (fun u h => i_LeastHeight A1 N c1 u.heap.size W xs u HXL.out h (Nat.le_refl _) (by omega))
      have hbd : ∀ k, k ≤ N → 0 ≤ sumK (hgt xs) k ∧ sumK (hgt xs) k ≤ 16 * k := fun k => by
        induction k with
        | zero => intro _; exact ⟨Int.le_refl _, Int.le_refl _⟩
        | succ k ih => intro hk; have := ih (by omega); have := (okSs_wh (spOk_of HOk.out).2.2 (q := k) (by omega)).2; show 0 ≤ sumK (hgt xs) k + hgt xs k ∧ sumK (hgt xs) k + hgt xs k ≤ _; omega
      have HBd := Lib.hid hbd
      have HHb : Hid (∀ k, k < N → 1 ≤ hgt xs k ∧ hgt xs k ≤ 16) := Lib.hid (fun k hk => (okSs_wh (spOk_of HOk.out).2.2 (q := k) hk).2)
      clear hbd
      go_wp2_with fail
      go_loopw [9, 10] (fun s i wr => ∃ (k : Nat) (S : Int), k ≤ N ∧ i = .int .i64 (k : Int) ∧ s = .int .i64 S ∧ (0 ≤ S ∧ S ≤ 16 * k) ∧ Hid (S = sumK (hgt xs) k) ∧ Hid (Rds .i64 wr wr.heap.size A1 xs ∧ Below w.heap.size w wr)) (fun _ i _ => (N - (intOf i).toNat))
      case atStart => exact ⟨0, 0, Nat.zero_le _, rfl, rfl, by omega, Lib.hid rfl, Lib.hid ⟨HR4.out, HB4.out⟩⟩
      case round =>
        clear HR4 HP4 HB4 HW4
        obtain ⟨k, S, hk, rfl, rfl, hSb, hS, hI⟩ := hrel
        rename World => wx
        by_cases hlt : k < N
        · obtain ⟨b, off, rfl, hb0, hc⟩ := hI.out.1.cells_ (show k * 2 + 1 < xs.length by have := HXL.out; omega)
          have c1 : wx.cell? ⟨b, off + k * 2 + 1, none⟩ = some (.int .i64 (hgt xs k)) := hc (k * 2 + 1) (by have := HXL.out; omega)
          have hkI : (k : Int) < (N : Int) := by omega
          have hhb := HHb.out k hlt
          have HN : Hid (S + hgt xs k = sumK (hgt xs) (k + 1)) := Lib.hid (by rw [hS.out]; rfl)
          clear hc hS
          generalize hgt xs k = b at *
          go_wp2
          go_roundw
          case rel => exact ⟨k + 1, S + b, by omega, by go_num, rfl, by omega, HN, hI⟩
          case measure => simp [intOf]; omega
        · have hkI : ¬ (k : Int) < (N : Int) := by omega
          obtain rfl : k = N := by omega
          have h5 : H ≤ S := by rw [hS.out]; exact HL5.out
          have HCl := Lib.hid (HLs.out wx hI.out.1)
          have hl4 := HL4.out
          have HB := Lib.hid hI.out.2
          clear hI hS HLs HL4
          generalize leastH W k xs = T at *
          have hd2 : decide (T ≤ H) = true := decide_eq_true hl4
          have hd3 : decide (H ≤ S) = true := decide_eq_true h5
          go_wp2_with fail
          refine HCl.out.mono ?_
          rintro e w6 ⟨rfl, hB6⟩
          have HB6 := Lib.hid (HB.out.trans (hB6.mono HB.out.size))
          clear hB6
          go_wp2
          go_ret
          exact ⟨by simp [hl4, h5], HB6.out⟩

/-! ### From the walk to the statement. -/
theorem own : ownKnob Try.prog.godebug = none := by kernel_rfl
theorem laidOut : laidOutB Try.prog = true := by kernel_rfl
set_option maxRecDepth 100000 in
theorem lifted (os : Os) (started : os.Started) (H : Type) (enc : TypeId × Value → H) :
    ReturnsInHanded {} Try.checked os 7 .any (Rows.fnPackSpritesHeightSpec.pre6 enc Try.prog Try.f7 Rows.fnPackSpritesHeightRow.domain false) (Rows.fnPackSpritesHeightSpec.post enc Try.prog Try.f7 false true false false) := by
  refine returnsInHanded_of_change (C := Try.checked) own started (by kernel_rfl) Try.func7
    (ChangeSpec.witness6 (enc := enc) (C := Try.checked) false ⟨#[], #[.slice none 0 0], []⟩ 8 (by kernel_rfl) (by kernel_rfl) (by kernel_rfl) (by kernel_rfl)) ?_
  intro W base args ds gs before hval0 hW hcnd _
  have hval : ∀ (j : Nat) t v, Try.f7.params[j]? = some t → args[j]? = some v → Value.okWide Try.prog W .any base t v := hval0
  have hW' := hW
  obtain ⟨p, q, hA0, hV, rfl, hfz, hnd⟩ := hW
  have hA : DataW.TrodAll enc Try.prog W 0 (fun _ => true) true Try.f7.params.toList args.toList ds p := hA0
  rw [Try.params7] at hA hval
  obtain ⟨v0, vs0, d0, ds0, p0, q0, hargs, rfl, rfl, h0, r0⟩ := trodAll_cons hA
  obtain ⟨rfl, rfl, rfl⟩ := trodAll_nil r0
  obtain rfl : args = #[v0] := by cases args; simp_all
  obtain ⟨rfl, rfl⟩ := trodVars_none hV
  obtain ⟨a0, len0, cap0, rfl⟩ := okWide_slice Try.underlying22 (hval 0 22 v0 rfl rfl)
  have k0 := h0
  have lt0 : ∀ x ∈ p0, x.block < W.heap.size := by obtain ⟨m, hm⟩ := k0; exact DataW.trod_lt m _ _ _ hm
  obtain ⟨z0, hl0, hc0, w0⟩ : ∃ zs : List Int, len0 = zs.length ∧ zs.length ≤ cap0 ∧ Rdw .u8 W W.heap.size a0 zs := by
    obtain ⟨fuel, hf⟩ := h0
    rcases open_ints Try.underlying22 Try.underlying5 (by kernel_rfl) hf with ⟨hcs, _⟩ | ⟨x, l, c, zs, hcs, _, hl, hm, hz, _, hcell, hwz⟩
    · simp [Value.cells] at hcs
      obtain ⟨rfl, rfl, rfl⟩ := hcs
      exact ⟨[], rfl, Nat.le_refl _, Rdw.nil⟩
    · simp [Value.cells] at hcs
      obtain ⟨rfl, rfl, rfl⟩ := hcs
      exact ⟨zs.take len0, by simp at hz ⊢; omega, by simp at hz ⊢; omega, Rdw.of_row hl hm (by simpa using hz) hcell hwz⟩
  subst hl0
  clear hA0 hval0
  refine (walk W a0 cap0 z0 hc0 w0).mono fun e W' ⟨he, bel⟩ => ?_
  subst he
  exact ⟨_, rfl, _, _, _, [], _, [], hW', trodAll_mk1 (shut_bool Try.underlying4 _), (trodAll_cons_mk (Below.trod laidOut (by kernel_rfl) (of_decide_eq_true (by kernel_rfl)) k0 bel lt0) trodAll_mk0), rfl, bel.frame _, fun h => by cases h⟩

theorem over : Rows.fnPackSpritesHeightRow.holds Try.pinned (OpenSpec.ofChange Rows.fnPackSpritesHeightSpec) :=
  OpenClaim.holds_of_wide 7 Try.f7 rfl rfl rfl rfl rfl rfl rfl ⟨rfl, rfl, rfl, rfl, rfl⟩ rfl rfl rfl rfl rfl (by kernel_rfl) Try.func7 (by kernel_rfl)
    (of_decide_eq_true (by kernel_rfl)) (by unfold Func.isWrapper; first | (rw [if_pos (by decide +kernel)]; kernel_rfl) | (rw [if_neg (by decide +kernel)]; exact ⟨rfl, rfl⟩))
    (fun os started H enc _ => lifted os started H enc)

theorem proved : Rows.FnPackSpritesHeightSaid := over
end Go.Proofs.Ytgieijogopcjnaa.fnPackSpritesHeight
