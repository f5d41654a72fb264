/- Whatever the code: the drawn pass has the size that the model tells, and where the size is told the pixels of the seven passes are all pixels, where the table of passes is what the program lays. -/
import Derived.Test.YtbikdgnefibcdaaDoorRows
import Derived.WalkKit
import Derived.ProofKit
import Derived.OpenShut
import Derived.ShutString
import Derived.ChangeOld
import Derived.Below
import Derived.Test.YtbikdgnefibcdaaDoorPassP
import Derived.Test.YtbikdgnefibcdaaDoorDoorP
import Derived.Test.YtbikdgnefibcdaaDoorTie
import Derived.Test.YtbikdgnefibcdaaDoorCards
import Derived.SevenTiedAt
import Derived.LaidMore
import Derived.OpenVars
import Derived.ChangeVars
import Derived.Test.YtbikdgnefibcdaaDoorDrawPsz
namespace Go.Proofs.YtbikdgnefibcdaaDoor.fnPassSize
open Go.ChangeShapes Go.WideShapes Go.ChangeAt Go.RowKit
open Go.ChangeMaps (open_string shut_string)
set_option linter.unusedVariables false

/-- The pixels of the first k passes. -/
def acc (W H : Int) : Nat → Int
  | 0 => 0
  | k + 1 => acc W H k + psW W H (k : Int) * psH W H (k : Int)
theorem acc_all : ∀ W : Fin 17, ∀ H : Fin 17, 1 ≤ W.val → 1 ≤ H.val → acc (W.val : Int) (H.val : Int) 7 = (W.val : Int) * (H.val : Int) ∧ (∀ k : Fin 8, 0 ≤ acc (W.val : Int) (H.val : Int) k.val ∧ acc (W.val : Int) (H.val : Int) k.val ≤ 1000) ∧ ∀ k : Fin 7, 0 ≤ psW (W.val : Int) (H.val : Int) (k.val : Int) ∧ psW (W.val : Int) (H.val : Int) (k.val : Int) ≤ 100 ∧ 0 ≤ psH (W.val : Int) (H.val : Int) (k.val : Int) ∧ psH (W.val : Int) (H.val : Int) (k.val : Int) ≤ 100 := by decide +kernel
theorem acc_law {W H : Nat} (hW : 1 ≤ W) (hW' : W ≤ 16) (hH : 1 ≤ H) (hH' : H ≤ 16) : acc W H 7 = (W : Int) * (H : Int) ∧ (∀ k, k ≤ 7 → 0 ≤ acc W H k ∧ acc W H k ≤ 1000) ∧ ∀ k : Nat, k < 7 → 0 ≤ psW W H (k : Int) ∧ psW W H (k : Int) ≤ 100 ∧ 0 ≤ psH W H (k : Int) ∧ psH W H (k : Int) ≤ 100 := by
  obtain ⟨a, b, c⟩ := acc_all ⟨W, by omega⟩ ⟨H, by omega⟩ hW hH
  exact ⟨a, fun k hk => b ⟨k, by omega⟩, fun k hk => c ⟨k, hk⟩⟩
theorem acc_step (W H : Int) (k : Nat) : acc W H (k + 1) = acc W H k + psW W H (k : Int) * psH W H (k : Int) := rfl
theorem psn {W H p : Int} (h : pok W H p = false) : psW W H p = -1 ∧ psH W H p = -1 := by unfold psW psH; rw [h]; exact ⟨rfl, rfl⟩
set_option maxHeartbeats 16000000 in
theorem walk (w : World) (a0 : Option Addr) (cap0 : Nat) (z0 : List Int) (hc0 : z0.length ≤ cap0) (w0 : Rdw .u8 w w.heap.size a0 z0) (hT : Tab w) :
    Calls Tryd.prog 3 #[.slice a0 z0.length cap0] w fun e w' => e = .returned (.bool true) ∧ Below w.heap.size w w' := by
  have hm := w0.2.1
  unfold maxLen at hm
  by_cases hlen : 1048576 < z0.length
  · go_enter Tryd.func3, Tryd.ntmps3
    go_wp2
    go_ret
    exact ⟨rfl, Below.refl _ _⟩
  · have HD := Lib.hid (drawPsz_any a0 cap0 z0 w hc0 w0)
    clear w0 hc0
    have HT := Lib.hid hT
    have hl := hT.lt
    have HL := Lib.hid hl
    clear hT hl
    go_enter Tryd.func3, Tryd.ntmps3
    go_wp2_with fail
    refine HD.out.mono ?_
    rintro e w1 ⟨W, H, p, rfl, hW18, hH18, hp0, hp9, hb1⟩
    have HC : Hid (∀ (q : Int) u, Below w.heap.size w u → Calls Tryd.prog 13 #[.int .i64 (W : Int), .int .i64 (H : Int), .int .i64 q] u fun e u' => e = .returned (.tuple #[.int .i64 (psW W H q), .int .i64 (psH W H q)]) ∧ Below u.heap.size u u') := Lib.hid (fun q u hb => i_PassSize W H q u (HT.out.below HL.out hb))
    have HS : Hid (∀ u, Calls Tryd.prog 14 #[.int .i64 (W : Int), .int .i64 (H : Int), .int .i64 p] u fun e u' => e = .returned (.tuple #[.int .i64 (psW W H p), .int .i64 (psH W H p)]) ∧ Below u.heap.size u u') := Lib.hid (fun u => s_PassSize W H p u)
    have HB1 := Lib.hid hb1
    clear hb1 HD HT HL
    go_wp2_with fail
    refine (HC.out p w1 HB1.out).mono ?_
    rintro e w2 ⟨rfl, hb⟩
    have HB2 := Lib.hid (HB1.out.trans (hb.mono HB1.out.size))
    clear hb HB1
    go_wp2_with fail
    refine (HS.out w2).mono ?_
    rintro e w3 ⟨rfl, hb⟩
    have HB3 := Lib.hid (HB2.out.trans (hb.mono HB2.out.size))
    clear hb HB2 HS
    cases hok : pok W H p
    · obtain ⟨e1, e2⟩ := psn hok
      rw [e1, e2]
      clear e1 e2 HC
      go_wp2_with fail
      go_ret
      exact ⟨rfl, HB3.out⟩
    · obtain ⟨q, rfl, hq, g1, g2, g3, g4⟩ := pok_of hok
      obtain ⟨hall, hacc, hps⟩ := acc_law (W := W) (H := H) (by omega) (by omega) (by omega) (by omega)
      have HA := Lib.hid hall
      have HAc := Lib.hid hacc
      have HPs := Lib.hid hps
      obtain ⟨b1, b2, b3, b4⟩ := hps q (by omega)
      clear hall hacc hps hok
      generalize psW (W : Int) (H : Int) (q : Int) = x0 at *
      generalize psH (W : Int) (H : Int) (q : Int) = y0 at *
      go_wp2
      go_loopw [10, 11] (fun n i wr => ∃ k : Nat, k ≤ 7 ∧ i = .int .i64 (k : Int) ∧ n = .int .i64 (acc W H k) ∧ Hid (Below w.heap.size w wr)) (fun _ i _ => (7 - intOf i).toNat)
      case atStart => exact ⟨0, by omega, rfl, rfl, HB3⟩
      case round =>
        clear HB3
        obtain ⟨k, hk, rfl, rfl, hI⟩ := hrel
        rename World => wy
        have hA := HAc.out k hk
        by_cases hk7 : k < 7
        · have hA1 := HAc.out (k + 1) (by omega)
          have HE : Hid (acc W H (k + 1) = acc W H k + psW W H (k : Int) * psH W H (k : Int)) := Lib.hid rfl
          obtain ⟨c1, c2, c3, c4⟩ := HPs.out k hk7
          have hp1 : 0 ≤ psW W H (k : Int) * psH W H (k : Int) ∧ psW W H (k : Int) * psH W H (k : Int) ≤ 10000 := ⟨Int.mul_nonneg c1 c3, by have := HE.out; omega⟩
          have hkI : (k : Int) < 7 := by omega
          go_wp2_with fail
          refine (HC.out (k : Int) wy hI.out).mono ?_
          rintro e wx ⟨rfl, hb⟩
          have HB := Lib.hid (hI.out.trans (hb.mono hI.out.size))
          clear hb hI HAc HPs HC HA
          generalize acc W H k = ak at *
          generalize psW W H (k : Int) = xk at *
          generalize psH W H (k : Int) = yk at *
          go_wp2
          go_roundw
          case rel => exact ⟨k + 1, by omega, by go_num, congrArg (fun z => Value.int .i64 z) HE.out.symm, HB⟩
          case measure => simp [intOf]; omega
        · obtain rfl : k = 7 := by omega
          rw [HA.out]
          have hwh : 0 ≤ (W : Int) * (H : Int) ∧ (W : Int) * (H : Int) ≤ 1000 := by rw [← HA.out]; exact hA
          clear hA HAc HPs HA HC
          go_wp2
          go_ret
          exact ⟨rfl, hI.out⟩

/-! ### From the walk to the statement. -/
theorem own : ownKnob Tryd.prog.godebug = none := by kernel_rfl
theorem laidOut : laidOutB Tryd.prog = true := by kernel_rfl
set_option maxRecDepth 100000 in
theorem lifted (os : Os) (started : os.Started) (H : Type) (enc : TypeId × Value → H) :
    ReturnsInHanded {} Tryd.checked os 3 .any (fun w args => (Rows.fnPassSizeSpec.pre enc Tryd.prog Tryd.f3 [] false w args ∧ laidMetH Tryd.prog laidTab w) ∧ sizedMet enc Tryd.prog Tryd.f3 (OpenSpec.ofChange Rows.fnPassSizeSpec) false w args) (Rows.fnPassSizeSpec.post enc Tryd.prog Tryd.f3 false true false false) := by
  refine returnsInHanded_of_change_and (C := Tryd.checked) (X := fun w _ => laidMetH Tryd.prog laidTab w) (fun _ _ _ hh h => h.of_heap hh) own started (by kernel_rfl) Tryd.func3
    (ChangeSpec.witness_shaped (enc := enc) (C := Tryd.checked) (os := os) (X := fun w _ => laidMetH Tryd.prog laidTab w) false (World.doorLaid Tryd.prog doorSteps os) #[.slice none 0 0] 8 rfl (World.shaped_of_RefB (by kernel_rfl) (by kernel_rfl)) (by kernel_rfl) (by kernel_rfl) (by kernel_rfl) (door_met os _)) ?_
  intro W base args ds gs before hval0 hW _ _ hL _
  have hval : ∀ (j : Nat) t v, Tryd.f3.params[j]? = some t → args[j]? = some v → Value.okWide Tryd.prog W .any base t v := hval0
  have hW' := hW
  obtain ⟨p, q, hA0, hV, rfl, hfz, hnd⟩ := hW
  have hA : DataW.TrodAll enc Tryd.prog W 0 (fun _ => true) true Tryd.f3.params.toList args.toList ds p := hA0
  rw [Tryd.params3] at hA hval
  obtain ⟨v0, vs0, d0, ds0, p0, q0, hargs, rfl, rfl, h0, r0⟩ := trodAll_cons hA
  obtain ⟨rfl, rfl, rfl⟩ := trodAll_nil r0
  obtain rfl : args = #[v0] := by cases args; simp_all
  have hV2 : DataW.TrodVars enc Tryd.prog W (fun _ => true) ["loop.example/pixelworks/impl.patterns"] gs q := hV
  obtain ⟨g1, rfl⟩ : ∃ g, gs = [g] := by
    obtain ⟨_, _, _, _, d, _, h, _⟩ := trodVars_one hV2
    exact ⟨d, h⟩
  obtain ⟨a0, len0, cap0, rfl⟩ := okWide_slice Tryd.underlying22 (hval 0 22 v0 rfl rfl)
  have k0 := h0
  have lt0 : ∀ x ∈ p0, x.block < W.heap.size := by obtain ⟨m, hm⟩ := k0; exact DataW.trod_lt m _ _ _ hm
  obtain ⟨z0, hl0, hc0, w0⟩ : ∃ zs : List Int, len0 = zs.length ∧ zs.length ≤ cap0 ∧ Rdw .u8 W W.heap.size a0 zs := by
    obtain ⟨fuel, hf⟩ := h0
    rcases open_ints Tryd.underlying22 Tryd.underlying5 (by kernel_rfl) hf with ⟨hcs, _⟩ | ⟨x, l, c, zs, hcs, _, hl, hm, hz, _, hcell, hwz⟩
    · simp [Value.cells] at hcs
      obtain ⟨rfl, rfl, rfl⟩ := hcs
      exact ⟨[], rfl, Nat.le_refl _, Rdw.nil⟩
    · simp [Value.cells] at hcs
      obtain ⟨rfl, rfl, rfl⟩ := hcs
      exact ⟨zs.take len0, by simp at hz ⊢; omega, by simp at hz ⊢; omega, Rdw.of_row hl hm (by simpa using hz) hcell hwz⟩
  subst hl0
  clear hA0 hval0
  refine (walk W a0 cap0 z0 hc0 w0 (tab_of hL)).mono fun e W' ⟨he, bel⟩ => ?_
  subst he
  exact ⟨_, rfl, _, _, _, [], _, _, hW', trodAll_mk1 (shut_bool Tryd.underlying4 _), (trodAll_cons_mk (Below.trod laidOut (by kernel_rfl) (of_decide_eq_true (by kernel_rfl)) k0 bel lt0) trodAll_mk0), Below.trodVars laidOut bel (by kernel_rfl) hV2, bel.frame _, fun h => by cases h⟩

theorem over : Rows.fnPassSizeRow.holds Tryd.pinned (OpenSpec.ofChange Rows.fnPassSizeSpec) :=
  OpenClaim.holds_of_wide 3 Tryd.f3 rfl rfl rfl rfl rfl rfl rfl ⟨rfl, rfl, rfl, rfl, rfl⟩ rfl rfl rfl rfl rfl (by kernel_rfl) Tryd.func3 (by kernel_rfl)
    (of_decide_eq_true (by kernel_rfl)) (by unfold Func.isWrapper; first | (rw [if_pos (by decide +kernel)]; kernel_rfl) | (rw [if_neg (by decide +kernel)]; exact ⟨rfl, rfl⟩))
    (fun os started H enc _ => lifted os started H enc)

theorem proved : Rows.FnPassSizeCardSaid :=
  Claim7.holds_tied_plain_at .later [] [.wider] true _ _
    over (fun _ h => by cases h) (by kernel_rfl) (fun _ h => by cases h) fnPassSize_row_tie rfl ⟨rfl, rfl⟩ (by kernel_rfl) rfl
    (fun f fn hf hfn => by
      obtain rfl : f = 3 := Option.some.inj ((show Tryd.prog.funcNamed "loop.example/pixelworks/laws.FnPassSize" = some 3 by kernel_rfl).symm.trans hf) |>.symm
      obtain rfl : fn = Tryd.f3 := (Option.some.inj (Tryd.func3.symm.trans hfn)).symm
      exact ⟨by kernel_rfl, fun j t ht => by
        rw [Tryd.params3] at ht
        have hm : t ∈ [22] := by simpa using Array.mem_of_getElem? ht
        have hall : ([22].all fun u => !Tryd.prog.wantsStandIn u) = true := by kernel_rfl
        exact (show Tryd.prog.wantsStandIn t = false by simpa using List.all_eq_true.1 hall t hm)⟩)
    (by kernel_rfl)
end Go.Proofs.YtbikdgnefibcdaaDoor.fnPassSize
