/- Whatever the code: whether drawn runs have a pixel is what the model tells, and the area of a region is the number of its pixels. -/
import Derived.Test.YtjekhlhnjknbeaaRows
import Derived.WalkKit
import Derived.ProofKit
import Derived.OpenShut
import Derived.ShutString
import Derived.ChangeOld
import Derived.Below
import Derived.Test.YtjekhlhnjknbeaaAreM
import Derived.Test.YtjekhlhnjknbeaaHasS
import Derived.Test.YtjekhlhnjknbeaaDrawRg
import Derived.Deep.RegionHeld3
namespace Go.Proofs.Ytjekhlhnjknbeaa.fnRegionHas
open Go.ChangeShapes Go.WideShapes Go.ChangeAt Go.RowKit
open Go.ChangeMaps (open_string shut_string)
set_option linter.unusedVariables false

set_option maxHeartbeats 16000000 in
theorem walk (w : World) (a0 : Option Addr) (cap0 : Nat) (z0 : List Int) (hc0 : z0.length ≤ cap0) (w0 : Rdw .u8 w w.heap.size a0 z0) :
    Calls Try.prog 7 #[.slice a0 z0.length cap0] w fun e w' => e = .returned (.bool true) ∧ Below w.heap.size w w' := by
  have hm := w0.2.1
  unfold maxLen at hm
  by_cases hlen : 1048576 < z0.length
  · go_enter Try.func7, Try.ntmps7
    go_wp2
    go_ret
    exact ⟨rfl, Below.refl _ _⟩
  · have HD := Lib.hid (drawHas_any a0 cap0 z0 w hc0 w0)
    clear w0 hc0
    go_enter Try.func7, Try.ntmps7
    go_wp2_with fail
    refine HD.out.mono ?_
    rintro e w1 ⟨v, n, xs, x, y, rfl, ⟨hn, _⟩, hO, hb1⟩
    obtain ⟨A1, c1, rfl, hc1⟩ := hO.slice
    have HLn : Hid (xs.length = 3 * n) := Lib.hid (by have := hO.len; omega)
    have HR1 := Lib.hid hO.rds
    have HB1 := Lib.hid hb1
    clear hO hb1
    have HI : Hid (∀ (x y : Int) (W : World), Rds .i64 W W.heap.size A1 xs → Calls Try.prog 34 #[.slice A1 n c1, .int .i64 x, .int .i64 y] W fun e w' => e = .returned (.bool (rhas xs n x y)) ∧ Below W.heap.size W w') := Lib.hid (fun x y W hW => i_RegionHas A1 n c1 W.heap.size xs x y W HLn.out hW (Nat.le_refl _) (by omega))
    have HS : Hid (∀ (x y : Int) (W : World), Rds .i64 W W.heap.size A1 xs → Calls Try.prog 35 #[.slice A1 n c1, .int .i64 x, .int .i64 y] W fun e w' => e = .returned (.bool (rhas xs n x y)) ∧ Below W.heap.size W w') := Lib.hid (fun x y W hW => s_RegionHas A1 n c1 W.heap.size xs x y W HLn.out hW (Nat.le_refl _) (by omega))
    have HV : Hid (∀ W : World, Rds .i64 W W.heap.size A1 xs → Calls Try.prog 36 #[.slice A1 n c1] W fun e w' => e = .returned (.bool (regB xs n)) ∧ Below W.heap.size W w') := Lib.hid (fun W hW => i_ValidRegion A1 n c1 W.heap.size xs W HLn.out hW (Nat.le_refl _) (by omega))
    have HA : Hid (∀ W : World, Rds .i64 W W.heap.size A1 xs → Calls Try.prog 30 #[.slice A1 n c1] W fun e w' => e = .returned (.int .i64 (areaV xs n)) ∧ Below W.heap.size W w') := Lib.hid (fun W hW => i_AreaOf A1 n c1 W.heap.size xs W HLn.out hW (Nat.le_refl _) (by omega))
    go_wp2_with fail
    refine (HI.out x y w1 HR1.out).mono ?_
    rintro e w2 ⟨rfl, hb2⟩
    have HR2 := Lib.hid ((HR1.out.below hb2).more hb2.size)
    have HB2 := Lib.hid (HB1.out.trans (hb2.mono HB1.out.size))
    clear hb2 HB1 HR1
    go_wp2_with fail
    refine (HS.out x y w2 HR2.out).mono ?_
    rintro e w3 ⟨rfl, hb3⟩
    have HR3 := Lib.hid ((HR2.out.below hb3).more hb3.size)
    have HB3 := Lib.hid (HB2.out.trans (hb3.mono HB2.out.size))
    clear hb3 HB2 HR2
    go_wp2_with fail
    refine (HV.out w3 HR3.out).mono ?_
    rintro e w4 ⟨rfl, hb4⟩
    have HR4 := Lib.hid ((HR3.out.below hb4).more hb4.size)
    have HB4 := Lib.hid (HB3.out.trans (hb4.mono HB3.out.size))
    clear hb4 HB3 HR3
    cases hv : regB xs n
    · generalize hbb : rhas xs n x y = bb at *
      go_wp2_with fail
      refine (HS.out x y w4 HR4.out).mono ?_
      rintro e w5 ⟨rfl, hb5⟩
      have HB5 := Lib.hid (HB4.out.trans (hb5.mono HB4.out.size))
      clear hb5 HB4 HR4
      rw [hbb]
      clear hbb
      go_wp2
      go_ret
      exact ⟨by simp, HB5.out⟩
    · have hr := regB_of hv
      have HP : Hid (∀ i : Nat, rhas xs n ((i % 16 : Nat) : Int) ((i / 16 : Nat) : Int) = rh xs ((i % 16 : Nat) : Int) ((i / 16 : Nat) : Int) n) := Lib.hid (fun i => by unfold rhas; rw [hv, Bool.true_and])
      have HE : Hid (cntB (fun i => rh xs ((i % 16 : Nat) : Int) ((i / 16 : Nat) : Int) n) 256 = areaV xs n) := Lib.hid (by rw [area_cnt hr n (Nat.le_refl _)]; unfold areaV; rw [hv]; rfl)
      have HBd := Lib.hid (cntB_bd (fun i => rh xs ((i % 16 : Nat) : Int) ((i / 16 : Nat) : Int) n))
      have HStep : Hid (∀ k, cntB (fun i => rh xs ((i % 16 : Nat) : Int) ((i / 16 : Nat) : Int) n) (k + 1) = cntB (fun i => rh xs ((i % 16 : Nat) : Int) ((i / 16 : Nat) : Int) n) k + (if rh xs ((k % 16 : Nat) : Int) ((k / 16 : Nat) : Int) n = true then 1 else 0)) := Lib.hid (fun k => rfl)
      have HC0 : Hid (cntB (fun i => rh xs ((i % 16 : Nat) : Int) ((i / 16 : Nat) : Int) n) 0 = 0) := Lib.hid rfl
      generalize cntB (fun i => rh xs ((i % 16 : Nat) : Int) ((i / 16 : Nat) : Int) n) = C at *
      generalize hbb : rhas xs n x y = bb at *
      clear hr hv hbb
      go_wp2
      go_loopw [7, 8] (fun s i wr => ∃ k : Nat, k ≤ 256 ∧ i = .int .i64 k ∧ s = .int .i64 (C k) ∧ Hid (Rds .i64 wr wr.heap.size A1 xs ∧ Below w.heap.size w wr)) (fun _ i _ => 256 - (intOf i).toNat)
      case atStart => exact ⟨0, by omega, rfl, by rw [HC0.out], Lib.hid ⟨HR4.out, HB4.out⟩⟩
      case round =>
        clear HR4 HB4
        obtain ⟨k, hk, rfl, rfl, hI⟩ := hrel
        by_cases hlt : k < 256
        · have hkI : (k : Int) < 256 := by omega
          obtain ⟨m, hm⟩ : ∃ m, m = k % 16 := ⟨_, rfl⟩
          obtain ⟨q, hq⟩ : ∃ q, q = k / 16 := ⟨_, rfl⟩
          have e1 : (k : Int).tmod 16 = (m : Int) := by rw [hm, Int.tmod_eq_emod_of_nonneg (by omega)]; omega
          have e2 : (k : Int).tdiv 16 = (q : Int) := by rw [hq, Int.tdiv_eq_ediv_of_nonneg (by omega)]; omega
          have e3 : (k : Int) % 16 = (m : Int) := by omega
          have e4 : (k : Int) / 16 = (q : Int) := by omega
          have hbd := HBd.out k
          have hst := HStep.out k
          have hpp := HP.out k
          rw [← hm, ← hq] at hst hpp
          have HR := Lib.hid hI.out.1
          have HB := Lib.hid hI.out.2
          obtain ⟨z, hz⟩ : ∃ z, z = C k := ⟨_, rfl⟩
          rw [← hz] at hbd hst
          have Hz := Lib.hid hz
          have Hst := Lib.hid hst
          obtain ⟨z0, z1⟩ := hbd
          rw [← hz]
          clear hI hm hq hz hst
          cases hb : rh xs (m : Int) (q : Int) n
          · rw [hb] at hpp Hst
            go_wp2_with fail
            refine (HI.out (m : Int) (q : Int) wr HR.out).mono ?_
            rintro e w5 ⟨rfl, hb5⟩
            rw [hpp]
            have HN : Hid (Rds .i64 w5 w5.heap.size A1 xs ∧ Below w.heap.size w w5) := Lib.hid ⟨(HR.out.below hb5).more hb5.size, HB.out.trans (hb5.mono HB.out.size)⟩
            clear hb5 HR HB
            go_wp2
            go_roundw
            case rel => exact ⟨k + 1, by omega, by go_num, by rw [Hst.out]; simp, HN⟩
            case measure => simp [intOf]; omega
          · rw [hb] at hpp Hst
            go_wp2_with fail
            refine (HI.out (m : Int) (q : Int) wr HR.out).mono ?_
            rintro e w5 ⟨rfl, hb5⟩
            rw [hpp]
            have HN : Hid (Rds .i64 w5 w5.heap.size A1 xs ∧ Below w.heap.size w w5) := Lib.hid ⟨(HR.out.below hb5).more hb5.size, HB.out.trans (hb5.mono HB.out.size)⟩
            clear hb5 HR HB
            go_wp2
            go_roundw
            case rel => exact ⟨k + 1, by omega, by go_num, by rw [Hst.out]; simp, HN⟩
            case measure => simp [intOf]; omega
        · have hkE : k = 256 := by omega
          have hkI : ¬ (k : Int) < 256 := by omega
          have HK : Hid (C k = areaV xs n) := Lib.hid (by rw [hkE, HE.out])
          have HR := Lib.hid hI.out.1
          have HB := Lib.hid hI.out.2
          clear hI hkE
          rw [HK.out]
          generalize hz : areaV xs n = z at *
          clear hz
          go_wp2_with fail
          refine (HA.out wr HR.out).mono ?_
          rintro e w5 ⟨rfl, hb5⟩
          have HB5 := Lib.hid (HB.out.trans (hb5.mono HB.out.size))
          clear hb5
          go_wp2
          go_ret
          exact ⟨by simp, HB5.out⟩

/-! ### From the walk to the statement. -/
theorem own : ownKnob Try.prog.godebug = none := by kernel_rfl
theorem laidOut : laidOutB Try.prog = true := by kernel_rfl
set_option maxRecDepth 100000 in
theorem lifted (os : Os) (started : os.Started) (H : Type) (enc : TypeId × Value → H) :
    ReturnsInHanded {} Try.checked os 7 .any (Rows.fnRegionHasSpec.pre6 enc Try.prog Try.f7 Rows.fnRegionHasRow.domain false) (Rows.fnRegionHasSpec.post enc Try.prog Try.f7 false true false false) := by
  refine returnsInHanded_of_change (C := Try.checked) own started (by kernel_rfl) Try.func7
    (ChangeSpec.witness6 (enc := enc) (C := Try.checked) false ⟨#[], #[.slice none 0 0], []⟩ 8 (by kernel_rfl) (by kernel_rfl) (by kernel_rfl) (by kernel_rfl)) ?_
  intro W base args ds gs before hval0 hW hcnd _
  have hval : ∀ (j : Nat) t v, Try.f7.params[j]? = some t → args[j]? = some v → Value.okWide Try.prog W .any base t v := hval0
  have hW' := hW
  obtain ⟨p, q, hA0, hV, rfl, hfz, hnd⟩ := hW
  have hA : DataW.TrodAll enc Try.prog W 0 (fun _ => true) true Try.f7.params.toList args.toList ds p := hA0
  rw [Try.params7] at hA hval
  obtain ⟨v0, vs0, d0, ds0, p0, q0, hargs, rfl, rfl, h0, r0⟩ := trodAll_cons hA
  obtain ⟨rfl, rfl, rfl⟩ := trodAll_nil r0
  obtain rfl : args = #[v0] := by cases args; simp_all
  obtain ⟨rfl, rfl⟩ := trodVars_none hV
  obtain ⟨a0, len0, cap0, rfl⟩ := okWide_slice Try.underlying43 (hval 0 43 v0 rfl rfl)
  have k0 := h0
  have lt0 : ∀ x ∈ p0, x.block < W.heap.size := by obtain ⟨m, hm⟩ := k0; exact DataW.trod_lt m _ _ _ hm
  obtain ⟨z0, hl0, hc0, w0⟩ : ∃ zs : List Int, len0 = zs.length ∧ zs.length ≤ cap0 ∧ Rdw .u8 W W.heap.size a0 zs := by
    obtain ⟨fuel, hf⟩ := h0
    rcases open_ints Try.underlying43 Try.underlying5 (by kernel_rfl) hf with ⟨hcs, _⟩ | ⟨x, l, c, zs, hcs, _, hl, hm, hz, _, hcell, hwz⟩
    · simp [Value.cells] at hcs
      obtain ⟨rfl, rfl, rfl⟩ := hcs
      exact ⟨[], rfl, Nat.le_refl _, Rdw.nil⟩
    · simp [Value.cells] at hcs
      obtain ⟨rfl, rfl, rfl⟩ := hcs
      exact ⟨zs.take len0, by simp at hz ⊢; omega, by simp at hz ⊢; omega, Rdw.of_row hl hm (by simpa using hz) hcell hwz⟩
  subst hl0
  clear hA0 hval0
  refine (walk W a0 cap0 z0 hc0 w0).mono fun e W' ⟨he, bel⟩ => ?_
  subst he
  exact ⟨_, rfl, _, _, _, [], _, [], hW', trodAll_mk1 (shut_bool Try.underlying4 _), (trodAll_cons_mk (Below.trod laidOut (by kernel_rfl) (of_decide_eq_true (by kernel_rfl)) k0 bel lt0) trodAll_mk0), rfl, bel.frame _, fun h => by cases h⟩

theorem over : Rows.fnRegionHasRow.holds Try.pinned (OpenSpec.ofChange Rows.fnRegionHasSpec) :=
  OpenClaim.holds_of_wide 7 Try.f7 rfl rfl rfl rfl rfl rfl rfl ⟨rfl, rfl, rfl, rfl, rfl⟩ rfl rfl rfl rfl rfl (by kernel_rfl) Try.func7 (by kernel_rfl)
    (of_decide_eq_true (by kernel_rfl)) (by unfold Func.isWrapper; first | (rw [if_pos (by decide +kernel)]; kernel_rfl) | (rw [if_neg (by decide +kernel)]; exact ⟨rfl, rfl⟩))
    (fun os started H enc _ => lifted os started H enc)

theorem proved : Rows.FnRegionHasSaid := over
end Go.Proofs.Ytjekhlhnjknbeaa.fnRegionHas
