/- Whatever the code: of two drawn regions and the first one shifted: the common part with the union is the union of the common parts, and no pixel is in either the first one or the first one, where the table of math/bits is what the program lays. -/
import Derived.Test.YtbikdgnefibcdaaDoorRows
import Derived.WalkKit
import Derived.ProofKit
import Derived.OpenShut
import Derived.ShutString
import Derived.ChangeOld
import Derived.Below
import Derived.Test.YtbikdgnefibcdaaDoorSftL
import Derived.Test.YtbikdgnefibcdaaDoorReg3
import Derived.Deep.RegionHeld3
import Derived.Test.YtbikdgnefibcdaaDoorDoor
import Derived.Test.YtbikdgnefibcdaaDoorTie
import Derived.Test.YtbikdgnefibcdaaDoorCards
import Derived.SevenTiedAt
import Derived.LaidMore
namespace Go.Proofs.YtbikdgnefibcdaaDoor.fnCombineRegionsThree
open Go.ChangeShapes Go.WideShapes Go.ChangeAt Go.RowKit
open Go.ChangeMaps (open_string shut_string)
set_option linter.unusedVariables false

set_option maxHeartbeats 32000000 in
theorem walk (w : World) (a0 : Option Addr) (cap0 : Nat) (z0 : List Int) (hc0 : z0.length ≤ cap0) (w0 : Rdw .u8 w w.heap.size a0 z0) (hT : Tab w) :
    Calls Tryd.prog 5 #[.slice a0 z0.length cap0] w fun e w' => e = .returned (.bool true) ∧ Below w.heap.size w w' := by
  have hm := w0.2.1
  unfold maxLen at hm
  have HTab := Lib.hid hT
  clear hT
  by_cases hlen : 1048576 < z0.length
  · go_enter Tryd.func5, Tryd.ntmps5
    go_wp2
    go_ret
    exact ⟨rfl, Below.refl _ _⟩
  · have HD := Lib.hid (drawCombine_any a0 cap0 z0 w hc0 w0)
    clear w0 hc0
    go_enter Tryd.func5, Tryd.ntmps5
    go_wp2_with fail
    refine HD.out.mono ?_
    rintro e w1 ⟨v1, n, xs, v2, m, ys, k, rfl, ⟨hn, hmm, hk0, hk1⟩, hO1, hO2, hb1⟩
    obtain ⟨A1, c1, rfl, hc1⟩ := hO1.slice
    obtain ⟨A2, c2, rfl, hc2⟩ := hO2.slice
    have HX : Hid (xs.length = 3 * n) := Lib.hid (by have := hO1.len; omega)
    have HY : Hid (ys.length = 3 * m) := Lib.hid (by have := hO2.len; omega)
    have HT1 : Hid (Two w A1 A2 xs ys w1) := Lib.hid ⟨hO1.rds, hO2.rds, hb1⟩
    clear hO1 hO2 hb1
    obtain ⟨ok, hok⟩ : ∃ ok, ok = cmbOk k xs n ys m := ⟨_, rfl⟩
    obtain ⟨N, hN⟩ : ∃ N, N = cbN k xs n ys m := ⟨_, rfl⟩
    obtain ⟨L, hL⟩ : ∃ L, L = cbL k xs n ys m := ⟨_, rfl⟩
    have HI : Hid (∀ u, Two w A1 A2 xs ys u → Calls Tryd.prog 23 #[.slice A1 n c1, .slice A2 m c2, .int .i64 k] u fun e w' => ∃ v, e = .returned (.tuple #[v, .bool ok]) ∧ OwnT 71 3 w' u.heap.size v N L ∧ Below u.heap.size u w') := Lib.hid (fun u hu => by
      rw [hok, hN, hL]; exact i_CombineRegions A1 A2 n m c1 c2 xs ys k u HX.out hu.1 (by omega) HY.out hu.2.1 (by omega))
    have HS : Hid (∀ u, Two w A1 A2 xs ys u → Calls Tryd.prog 24 #[.slice A1 n c1, .slice A2 m c2, .int .i64 k] u fun e w' => ∃ v, e = .returned (.tuple #[v, .bool ok]) ∧ OwnT 71 3 w' u.heap.size v N L ∧ Below u.heap.size u w') := Lib.hid (fun u hu => by
      rw [hok, hN, hL]; exact s_CombineRegions A1 A2 n m c1 c2 xs ys k u HX.out hu.1 (by omega) HY.out hu.2.1 (by omega))
    have HLn : Hid (L.length = 3 * N) := Lib.hid (by rw [hN, hL]; exact (cb_len k xs n ys m).1)
    have hN3 : N ≤ 300 := by rw [hN]; exact (cb_len k xs n ys m).2
    have HN := Lib.hid hN
    have HL := Lib.hid hL
    have HK := Lib.hid hok
    clear hok hN hL
    go_wp2_with fail
    refine (HI.out w1 HT1.out).mono ?_
    rintro e w2 ⟨v3, rfl, hO3, hb2⟩
    obtain ⟨A3, c3, rfl, hc3⟩ := hO3.slice
    have HT2 := Lib.hid (HT1.out.call hb2)
    have HO3 := Lib.hid hO3
    clear hO3 hb2 HT1 HI
    go_wp2_with fail
    refine (HS.out w2 HT2.out).mono ?_
    rintro e w3 ⟨v4, rfl, hO4, hb3⟩
    obtain ⟨A4, c4, rfl, hc4⟩ := hO4.slice
    have HT3 := Lib.hid (HT2.out.call hb3)
    have HR3 := Lib.hid (HO3.out.below hb3 (Nat.le_refl _)).rds
    have HR4 := Lib.hid hO4.rds
    clear hO4 hb3 HT2 HS HO3
    go_wp2_with fail
    refine (equalRuns_same A3 A4 N c3 c4 L w3.heap.size w3.heap.size w3 HLn.out HR3.out HR4.out (by omega)).mono ?_
    rintro e w4 ⟨rfl, m4, rfl⟩
    have HT4 := Lib.hid (HT3.out.drewN m4)
    have HR5 := Lib.hid (show Rds .i64 (w3.drewN m4) (w3.drewN m4).heap.size A3 L from HR3.out)
    have HR6 := Lib.hid (show Rds .i64 (w3.drewN m4) (w3.drewN m4).heap.size A4 L from HR4.out)
    clear HT3 HR3 HR4
    generalize w3.drewN m4 = u at *
    cases ok
    · go_wp2_with fail
      refine (equalRuns_same A3 A4 N c3 c4 L u.heap.size u.heap.size u HLn.out HR5.out HR6.out (by omega)).mono ?_
      rintro e w5 ⟨rfl, m5, rfl⟩
      have HB := Lib.hid (HT4.out.drewN m5).2.2
      clear HT4 HR5 HR6
      go_wp2
      go_ret
      exact ⟨rfl, HB.out⟩
    · obtain ⟨⟨hrx, hry⟩, hk2, hk3⟩ := cmbOk_at HK.out.symm
      have Hx := Lib.hid hrx
      have Hy := Lib.hid hry
      clear hrx hry HR6
      have HT5 := Lib.hid (RA.of_two HT4.out)
      clear HT4 HR5 HK HN HL HLn
      have hsk : sftOk xs n 2 1 = true := by unfold sftOk; rw [regB_yes Hx.out]; rfl
      have HSk := Lib.hid hsk
      clear hsk
      go_wp2_with fail
      refine (i_ShiftRegion A1 n c1 xs 2 1 u HX.out (HT5.out.at 0 rfl) (by omega) (HTab.out.below HT5.out.2)).mono ?_
      rintro e w10 ⟨v, rfl, hO, hb⟩
      rw [HSk.out] at hO
      simp only [cond_true] at hO
      obtain ⟨N10, hN10⟩ : ∃ N, N = rnN (sftG xs n 2 1) := ⟨_, rfl⟩
      obtain ⟨L10, hL10⟩ : ∃ L, L = rnL (sftG xs n 2 1) := ⟨_, rfl⟩
      rw [← hN10, ← hL10] at hO
      have hx10 : L10.length = 3 * N10 ∧ N10 ≤ 300 := by rw [hN10, hL10]; exact ⟨(rnL_len _).1, by have := (rnL_len (sftG xs n 2 1)).2; omega⟩
      obtain ⟨A10, c10, rfl, hc10⟩ := hO.slice
      have HT10 := Lib.hid ((HT5.out.call hb).add hO.rds)
      have HN10 := Lib.hid hN10
      have HL10 := Lib.hid hL10
      have HX10 := Lib.hid hx10.1
      have hn10 := hx10.2
      clear hO hb HT5 hN10 hL10 hx10
      go_wp2_with fail
      refine (combined_any A1 A2 n m c1 c2 xs ys 0 w10 HX.out (HT10.out.at 1 rfl) (by omega) HY.out (HT10.out.at 2 rfl) (by omega)).mono ?_
      rintro e w11 ⟨v, rfl, hO, hb⟩
      obtain ⟨N11, hN11⟩ : ∃ N, N = cbN 0 xs n ys m := ⟨_, rfl⟩
      obtain ⟨L11, hL11⟩ : ∃ L, L = cbL 0 xs n ys m := ⟨_, rfl⟩
      rw [← hN11, ← hL11] at hO
      have hx11 : L11.length = 3 * N11 ∧ N11 ≤ 300 := by rw [hN11, hL11]; exact cb_len _ _ _ _ _
      obtain ⟨A11, c11, rfl, hc11⟩ := hO.slice
      have HT11 := Lib.hid ((HT10.out.call hb).add hO.rds)
      have HN11 := Lib.hid hN11
      have HL11 := Lib.hid hL11
      have HX11 := Lib.hid hx11.1
      have hn11 := hx11.2
      clear hO hb HT10 hN11 hL11 hx11
      go_wp2_with fail
      refine (combined_any A10 A11 N10 N11 c10 c11 L10 L11 1 w11 HX10.out (HT11.out.at 1 rfl) (by omega) HX11.out (HT11.out.at 0 rfl) (by omega)).mono ?_
      rintro e w12 ⟨v, rfl, hO, hb⟩
      obtain ⟨N12, hN12⟩ : ∃ N, N = cbN 1 L10 N10 L11 N11 := ⟨_, rfl⟩
      obtain ⟨L12, hL12⟩ : ∃ L, L = cbL 1 L10 N10 L11 N11 := ⟨_, rfl⟩
      rw [← hN12, ← hL12] at hO
      have hx12 : L12.length = 3 * N12 ∧ N12 ≤ 300 := by rw [hN12, hL12]; exact cb_len _ _ _ _ _
      obtain ⟨A12, c12, rfl, hc12⟩ := hO.slice
      have HT12 := Lib.hid ((HT11.out.call hb).add hO.rds)
      have HN12 := Lib.hid hN12
      have HL12 := Lib.hid hL12
      have HX12 := Lib.hid hx12.1
      have hn12 := hx12.2
      clear hO hb HT11 hN12 hL12 hx12
      go_wp2_with fail
      refine (combined_any A10 A1 N10 n c10 c1 L10 xs 1 w12 HX10.out (HT12.out.at 2 rfl) (by omega) HX.out (HT12.out.at 3 rfl) (by omega)).mono ?_
      rintro e w13 ⟨v, rfl, hO, hb⟩
      obtain ⟨N13, hN13⟩ : ∃ N, N = cbN 1 L10 N10 xs n := ⟨_, rfl⟩
      obtain ⟨L13, hL13⟩ : ∃ L, L = cbL 1 L10 N10 xs n := ⟨_, rfl⟩
      rw [← hN13, ← hL13] at hO
      have hx13 : L13.length = 3 * N13 ∧ N13 ≤ 300 := by rw [hN13, hL13]; exact cb_len _ _ _ _ _
      obtain ⟨A13, c13, rfl, hc13⟩ := hO.slice
      have HT13 := Lib.hid ((HT12.out.call hb).add hO.rds)
      have HN13 := Lib.hid hN13
      have HL13 := Lib.hid hL13
      have HX13 := Lib.hid hx13.1
      have hn13 := hx13.2
      clear hO hb HT12 hN13 hL13 hx13
      go_wp2_with fail
      refine (combined_any A10 A2 N10 m c10 c2 L10 ys 1 w13 HX10.out (HT13.out.at 3 rfl) (by omega) HY.out (HT13.out.at 5 rfl) (by omega)).mono ?_
      rintro e w14 ⟨v, rfl, hO, hb⟩
      obtain ⟨N14, hN14⟩ : ∃ N, N = cbN 1 L10 N10 ys m := ⟨_, rfl⟩
      obtain ⟨L14, hL14⟩ : ∃ L, L = cbL 1 L10 N10 ys m := ⟨_, rfl⟩
      rw [← hN14, ← hL14] at hO
      have hx14 : L14.length = 3 * N14 ∧ N14 ≤ 300 := by rw [hN14, hL14]; exact cb_len _ _ _ _ _
      obtain ⟨A14, c14, rfl, hc14⟩ := hO.slice
      have HT14 := Lib.hid ((HT13.out.call hb).add hO.rds)
      have HN14 := Lib.hid hN14
      have HL14 := Lib.hid hL14
      have HX14 := Lib.hid hx14.1
      have hn14 := hx14.2
      clear hO hb HT13 hN14 hL14 hx14
      go_wp2_with fail
      refine (combined_any A13 A14 N13 N14 c13 c14 L13 L14 0 w14 HX13.out (HT14.out.at 1 rfl) (by omega) HX14.out (HT14.out.at 0 rfl) (by omega)).mono ?_
      rintro e w15 ⟨v, rfl, hO, hb⟩
      obtain ⟨N15, hN15⟩ : ∃ N, N = cbN 0 L13 N13 L14 N14 := ⟨_, rfl⟩
      obtain ⟨L15, hL15⟩ : ∃ L, L = cbL 0 L13 N13 L14 N14 := ⟨_, rfl⟩
      rw [← hN15, ← hL15] at hO
      have hx15 : L15.length = 3 * N15 ∧ N15 ≤ 300 := by rw [hN15, hL15]; exact cb_len _ _ _ _ _
      obtain ⟨A15, c15, rfl, hc15⟩ := hO.slice
      have HT15 := Lib.hid ((HT14.out.call hb).add hO.rds)
      have HN15 := Lib.hid hN15
      have HL15 := Lib.hid hL15
      have HX15 := Lib.hid hx15.1
      have hn15 := hx15.2
      clear hO hb HT14 hN15 hL15 hx15
      have hz : reg L10 N10 := by rw [HL10.out, HN10.out]; exact rnL_reg _
      have hLw := three_law Hx.out Hy.out hz
      have hE : L15 = L12 ∧ N15 = N12 := by
        rw [HL15.out, HN15.out, HL12.out, HN12.out, HL13.out, HN13.out, HL14.out, HN14.out, HL11.out, HN11.out]
        exact hLw.1
      have HZ := Lib.hid hLw.2
      clear hLw hz HL10 HN10 HL11 HN11 HL12 HN12 HL13 HN13 HL14 HN14 HL15 HN15 HX15
      have hE1 := hE.1.symm
      have hE2 := hE.2.symm
      clear hE
      subst hE1
      subst hE2
      go_wp2_with fail
      refine (equalRuns_same A12 A15 N12 c12 c15 L12 w15.heap.size w15.heap.size w15 HX12.out (HT15.out.at 3 rfl) (HT15.out.at 0 rfl) (by omega)).mono ?_
      rintro e w16 ⟨rfl, m16, rfl⟩
      have HT16 := Lib.hid (HT15.out.drewN m16)
      clear HT15
      generalize (w15.drewN m16) = w16 at *
      go_wp2_with fail
      refine (combined_any A1 A1 n n c1 c1 xs xs 3 w16 HX.out (HT16.out.at 6 rfl) (by omega) HX.out (HT16.out.at 6 rfl) (by omega)).mono ?_
      rintro e w17 ⟨v, rfl, hO, hb⟩
      obtain ⟨N17, hN17⟩ : ∃ N, N = cbN 3 xs n xs n := ⟨_, rfl⟩
      obtain ⟨L17, hL17⟩ : ∃ L, L = cbL 3 xs n xs n := ⟨_, rfl⟩
      rw [← hN17, ← hL17] at hO
      have hx17 : L17.length = 3 * N17 ∧ N17 ≤ 300 := by rw [hN17, hL17]; exact cb_len _ _ _ _ _
      obtain ⟨A17, c17, rfl, hc17⟩ := hO.slice
      have HT17 := Lib.hid ((HT16.out.call hb).add hO.rds)
      have HN17 := Lib.hid hN17
      have HL17 := Lib.hid hL17
      have HX17 := Lib.hid hx17.1
      have hn17 := hx17.2
      clear hO hb HT16 hN17 hL17 hx17
      have hz3 : N17 = 0 := by rw [HN17.out]; exact HZ.out
      subst hz3
      go_wp2
      go_ret
      exact ⟨rfl, HT17.out.2⟩

/-! ### From the walk to the statement. -/
theorem own : ownKnob Tryd.prog.godebug = none := by kernel_rfl
theorem laidOut : laidOutB Tryd.prog = true := by kernel_rfl
set_option maxRecDepth 100000 in
theorem lifted (os : Os) (started : os.Started) (H : Type) (enc : TypeId × Value → H) :
    ReturnsInHanded {} Tryd.checked os 5 .any (fun w args => (Rows.fnCombineRegionsThreeSpec.pre enc Tryd.prog Tryd.f5 [] false w args ∧ laidMetH Tryd.prog laidTab w) ∧ sizedMet enc Tryd.prog Tryd.f5 (OpenSpec.ofChange Rows.fnCombineRegionsThreeSpec) false w args) (Rows.fnCombineRegionsThreeSpec.post enc Tryd.prog Tryd.f5 false true false false) := by
  refine returnsInHanded_of_change_and (C := Tryd.checked) (X := fun w _ => laidMetH Tryd.prog laidTab w) (fun _ _ _ hh h => h.of_heap hh) own started (by kernel_rfl) Tryd.func5
    (ChangeSpec.witness_shaped (enc := enc) (C := Tryd.checked) (os := os) (X := fun w _ => laidMetH Tryd.prog laidTab w) false (World.doorLaid Tryd.prog doorSteps os) #[.slice none 0 0] 8 rfl (World.shaped_of_RefB (by kernel_rfl) (by kernel_rfl)) (by kernel_rfl) (by kernel_rfl) (by kernel_rfl) (door_met os _)) ?_
  intro W base args ds gs before hval0 hW _ _ hL _
  have hval : ∀ (j : Nat) t v, Tryd.f5.params[j]? = some t → args[j]? = some v → Value.okWide Tryd.prog W .any base t v := hval0
  have hW' := hW
  obtain ⟨p, q, hA0, hV, rfl, hfz, hnd⟩ := hW
  have hA : DataW.TrodAll enc Tryd.prog W 0 (fun _ => true) true Tryd.f5.params.toList args.toList ds p := hA0
  rw [Tryd.params5] at hA hval
  obtain ⟨v0, vs0, d0, ds0, p0, q0, hargs, rfl, rfl, h0, r0⟩ := trodAll_cons hA
  obtain ⟨rfl, rfl, rfl⟩ := trodAll_nil r0
  obtain rfl : args = #[v0] := by cases args; simp_all
  obtain ⟨rfl, rfl⟩ := trodVars_none hV
  obtain ⟨a0, len0, cap0, rfl⟩ := okWide_slice Tryd.underlying22 (hval 0 22 v0 rfl rfl)
  have k0 := h0
  have lt0 : ∀ x ∈ p0, x.block < W.heap.size := by obtain ⟨m, hm⟩ := k0; exact DataW.trod_lt m _ _ _ hm
  obtain ⟨z0, hl0, hc0, w0⟩ : ∃ zs : List Int, len0 = zs.length ∧ zs.length ≤ cap0 ∧ Rdw .u8 W W.heap.size a0 zs := by
    obtain ⟨fuel, hf⟩ := h0
    rcases open_ints Tryd.underlying22 Tryd.underlying5 (by kernel_rfl) hf with ⟨hcs, _⟩ | ⟨x, l, c, zs, hcs, _, hl, hm, hz, _, hcell, hwz⟩
    · simp [Value.cells] at hcs
      obtain ⟨rfl, rfl, rfl⟩ := hcs
      exact ⟨[], rfl, Nat.le_refl _, Rdw.nil⟩
    · simp [Value.cells] at hcs
      obtain ⟨rfl, rfl, rfl⟩ := hcs
      exact ⟨zs.take len0, by simp at hz ⊢; omega, by simp at hz ⊢; omega, Rdw.of_row hl hm (by simpa using hz) hcell hwz⟩
  subst hl0
  clear hA0 hval0
  refine (walk W a0 cap0 z0 hc0 w0 (tab_of hL)).mono fun e W' ⟨he, bel⟩ => ?_
  subst he
  exact ⟨_, rfl, _, _, _, [], _, [], hW', trodAll_mk1 (shut_bool Tryd.underlying4 _), (trodAll_cons_mk (Below.trod laidOut (by kernel_rfl) (of_decide_eq_true (by kernel_rfl)) k0 bel lt0) trodAll_mk0), rfl, bel.frame _, fun h => by cases h⟩

theorem over : Rows.fnCombineRegionsThreeRow.holds Tryd.pinned (OpenSpec.ofChange Rows.fnCombineRegionsThreeSpec) :=
  OpenClaim.holds_of_wide 5 Tryd.f5 rfl rfl rfl rfl rfl rfl rfl ⟨rfl, rfl, rfl, rfl, rfl⟩ rfl rfl rfl rfl rfl (by kernel_rfl) Tryd.func5 (by kernel_rfl)
    (of_decide_eq_true (by kernel_rfl)) (by unfold Func.isWrapper; first | (rw [if_pos (by decide +kernel)]; kernel_rfl) | (rw [if_neg (by decide +kernel)]; exact ⟨rfl, rfl⟩))
    (fun os started H enc _ => lifted os started H enc)

theorem proved : Rows.FnCombineRegionsThreeCardSaid :=
  Claim7.holds_tied_plain_at .later [] [.data] true _ _
    over (fun _ h => by cases h) (by kernel_rfl) (fun _ h => by cases h) fnCombineRegionsThree_row_tie rfl ⟨rfl, rfl⟩ (by kernel_rfl) rfl
    (fun f fn hf hfn => by
      obtain rfl : f = 5 := Option.some.inj ((show Tryd.prog.funcNamed "loop.example/pixelworks/laws.FnCombineRegionsThree" = some 5 by kernel_rfl).symm.trans hf) |>.symm
      obtain rfl : fn = Tryd.f5 := (Option.some.inj (Tryd.func5.symm.trans hfn)).symm
      exact ⟨by kernel_rfl, fun j t ht => by
        rw [Tryd.params5] at ht
        have hm : t ∈ [22] := by simpa using Array.mem_of_getElem? ht
        have hall : ([22].all fun u => !Tryd.prog.wantsStandIn u) = true := by kernel_rfl
        exact (show Tryd.prog.wantsStandIn t = false by simpa using List.all_eq_true.1 hall t hm)⟩)
    (by kernel_rfl)
end Go.Proofs.YtbikdgnefibcdaaDoor.fnCombineRegionsThree
