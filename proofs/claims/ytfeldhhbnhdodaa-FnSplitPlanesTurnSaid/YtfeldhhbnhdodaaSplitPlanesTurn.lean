/- Whatever the code: SplitPlanes of the drawn image answers what the model answers, and the planes of the turned image are the turned planes. -/
import Derived.Test.YtfeldhhbnhdodaaRows
import Derived.WalkKit
import Derived.ProofKit
import Derived.OpenShut
import Derived.ShutString
import Derived.ChangeOld
import Derived.Below
import Derived.Test.YtfeldhhbnhdodaaPlnT
import Derived.Test.YtfeldhhbnhdodaaDrawImg2
import Derived.Deep.QuietTactic
import Derived.BigQuiet
namespace Go.Proofs.Ytfeldhhbnhdodaa.fnSplitPlanesTurn
open Go.ChangeShapes Go.WideShapes Go.ChangeAt Go.RowKit
open Go.ChangeMaps (open_string shut_string)
set_option linter.unusedVariables false

set_option maxRecDepth 20000
set_option maxHeartbeats 16000000 in
theorem walk (w : World) (a0 : Option Addr) (cap0 : Nat) (z0 : List Int) (hc0 : z0.length ≤ cap0) (w0 : Rdw .u8 w w.heap.size a0 z0) :
    Calls Try.prog 5 #[.slice a0 z0.length cap0] w fun e w' => e = .returned (.bool true) ∧ Below w.heap.size w w' := by
  have hm := w0.2.1
  unfold maxLen at hm
  by_cases hlen : 1048576 < z0.length
  · go_enter Try.func5, Try.ntmps5
    go_wp2
    go_ret
    exact ⟨rfl, Below.refl _ _⟩
  · go_enter Try.func5, Try.ntmps5
    go_wp2_with fail
    refine (drawSplit_any a0 cap0 z0 w hc0 w0).mono ?_
    rintro e u1 ⟨W, H, P, A, c, xs, rfl, hx, hxc, hr, hbel⟩
    have S1 : LSt w u1 [(A, xs)] [] := (LSt.start hbel).add hr
    obtain ⟨ms, HI, HQ, h4, HD, hor⟩ := tsp_law W H P xs hx
    clear w0 hr hbel hm
    have S1001 : LSt w (u1.alloc (.cells #[.int .i64 W, .int .i64 H, .int .i64 P, .slice A xs.length c] 25)) [(A, xs)] [⟨u1.heap.size, 25, #[.int .i64 W, .int .i64 H, .int .i64 P, .slice A xs.length c]⟩] := LSt.box2 S1 25 #[.int .i64 W, .int .i64 H, .int .i64 P, .slice A xs.length c] u1.heap.size (by simp)
    go_wp2_with fail
    clear S1
    generalize u1.alloc (.cells #[.int .i64 W, .int .i64 H, .int .i64 P, .slice A xs.length c] 25) = u1002 at *
    refine (HI.out A c _ ((S1001).rds (A := A) (xs := xs) (by simp)) hxc).mono ?_
    rintro e u1003 ⟨A1003, c1003, rfl, hc1003, hr1003, hB1003⟩
    have S1003 := S1001.call hB1003
    have HL10030 := Lib.hid hr1003
    clear hr1003
    clear hB1003 S1001
    have Fmx := S1003.2.2 ⟨u1.heap.size, 25, #[.int .i64 W, .int .i64 H, .int .i64 P, .slice A xs.length c]⟩ (by simp)
    have ml : u1.heap.size < u1003.heap.size := Fmx.lt
    have m0 : u1003.cell? ⟨u1.heap.size, 0, none⟩ = some (.int .i64 W) := cell_of_row _ _ 0 _ _ _ Fmx
    have m1 : u1003.cell? ⟨u1.heap.size, 1, none⟩ = some (.int .i64 H) := cell_of_row _ _ 1 _ _ _ Fmx
    have m2 : u1003.cell? ⟨u1.heap.size, 2, none⟩ = some (.int .i64 P) := cell_of_row _ _ 2 _ _ _ Fmx
    have m3 : u1003.cell? ⟨u1.heap.size, 3, none⟩ = some (.slice A xs.length c) := cell_of_row _ _ 3 _ _ _ Fmx
    clear Fmx
    go_wp2_with fail
    refine (HQ.out A c _ ((S1003).rds (A := A) (xs := xs) (by simp)) hxc).mono ?_
    rintro e u1004 ⟨A1004, c1004, rfl, hc1004, hr1004, hB1004⟩
    have S1004 := S1003.call hB1004
    have HL1005 : Hid (Rdim u1004 u1004.heap.size A1003 ms) := Lib.hid ((HL10030.out.below hB1004).more hB1004.size)
    clear HL10030
    have HL10040 := Lib.hid hr1004
    clear hr1004
    clear ml m0 m1 m2 m3
    clear hB1004 S1003
    go_wp2_with fail
    refine (lEqIms A1003 A1004 c1003 c1004 _ _ ms _ rfl rfl HL1005.out HL10040.out (by omega) (fun i hi => by have := HD.out i hi; omega)).mono ?_
    rintro e u1006 ⟨rfl, hB1006⟩
    have S1006 := S1004.call hB1006
    have HL1007 : Hid (Rdim u1006 u1006.heap.size A1004 ms) := Lib.hid ((HL10040.out.below hB1006).more hB1006.size)
    clear HL10040
    have HL1008 : Hid (Rdim u1006 u1006.heap.size A1003 ms) := Lib.hid ((HL1005.out.below hB1006).more hB1006.size)
    clear HL1005
    clear hB1006 S1004
    rcases hor with h0 | ⟨ts, X2, Y2, ys, h0, htl, HT, HU, HV, HD2⟩
    · skip
      obtain rfl := List.eq_nil_of_length_eq_zero h0
      clear h0 h4
      have Fmx := S1006.2.2 ⟨u1.heap.size, 25, #[.int .i64 W, .int .i64 H, .int .i64 P, .slice A xs.length c]⟩ (by simp)
      have ml : u1.heap.size < u1006.heap.size := Fmx.lt
      have m0 : u1006.cell? ⟨u1.heap.size, 0, none⟩ = some (.int .i64 W) := cell_of_row _ _ 0 _ _ _ Fmx
      have m1 : u1006.cell? ⟨u1.heap.size, 1, none⟩ = some (.int .i64 H) := cell_of_row _ _ 1 _ _ _ Fmx
      have m2 : u1006.cell? ⟨u1.heap.size, 2, none⟩ = some (.int .i64 P) := cell_of_row _ _ 2 _ _ _ Fmx
      have m3 : u1006.cell? ⟨u1.heap.size, 3, none⟩ = some (.slice A xs.length c) := cell_of_row _ _ 3 _ _ _ Fmx
      clear Fmx
      go_wp2_with fail
      refine (HQ.out A c _ ((S1006).rds (A := A) (xs := xs) (by simp)) hxc).mono ?_
      rintro e u1009 ⟨A1009, c1009, rfl, hc1009, hr1009, hB1009⟩
      have S1009 := S1006.call hB1009
      have HL1010 : Hid (Rdim u1009 u1009.heap.size A1004 []) := Lib.hid ((HL1007.out.below hB1009).more hB1009.size)
      clear HL1007
      have HL1011 : Hid (Rdim u1009 u1009.heap.size A1003 []) := Lib.hid ((HL1008.out.below hB1009).more hB1009.size)
      clear HL1008
      have HL10090 := Lib.hid hr1009
      clear hr1009
      clear ml m0 m1 m2 m3
      clear hB1009 S1006
      go_wp2_with fail
      refine (lEqIms A1003 A1009 c1003 c1009 _ _ [] _ rfl rfl HL1011.out HL10090.out (by simp) (fun i hi => by simp at hi)).mono ?_
      rintro e u1012 ⟨rfl, hB1012⟩
      have S1012 := S1009.call hB1012
      have HL1013 : Hid (Rdim u1012 u1012.heap.size A1009 []) := Lib.hid ((HL10090.out.below hB1012).more hB1012.size)
      clear HL10090
      have HL1014 : Hid (Rdim u1012 u1012.heap.size A1004 []) := Lib.hid ((HL1010.out.below hB1012).more hB1012.size)
      clear HL1010
      have HL1015 : Hid (Rdim u1012 u1012.heap.size A1003 []) := Lib.hid ((HL1011.out.below hB1012).more hB1012.size)
      clear HL1011
      clear hB1012 S1009
      go_wp2
      go_ret
      exact ⟨rfl, S1012.1⟩
    · skip
      have hz : ((ms.length : Int) == 0) = false := beq_eq_false_iff_ne.2 (by omega)
      have HI0 : Hid (ImS u1006 (u1006.alloc (.cells #[] 25)) (.slice (some ⟨u1006.heap.size, 0, none⟩) 0 0) (ts.take 0) [] []) := Lib.hid (ImS.made (GS.start u1006))
      have HS := Lib.hid S1006
      clear S1006
      have Htl := Lib.hid htl
      obtain ⟨n, hn⟩ : ∃ n, n = ms.length := ⟨_, rfl⟩
      have Hn := Lib.hid hn
      rw [← hn] at hz h0 h4 ⊢
      clear hn htl
      go_wp2
      go_loopw [5, 6] (fun v i wr => ∃ k : Nat, k ≤ n ∧ i = .int .i64 k ∧ Hid (ImS u1006 wr v (ts.take k) [] [])) (fun _ i _ => n - (intOf i).toNat)
      case atStart => exact ⟨0, Nat.zero_le _, rfl, HI0⟩
      case round =>
        clear HI0
        obtain ⟨k, hk, rfl, hI⟩ := hrel
        by_cases hlt : k < n
        · have hkl : k < ms.length := by have := Hn.out; omega
          have hkt : k < ts.length := by have := Htl.out; omega
          obtain ⟨b, off, Ai, ci, hA, hb, hci, x0, x1, x2, x3, hri⟩ := HL1008.out.at hkl
          have hT := HT.out k hkl
          have hbel := hI.out.below
          have hx0 := (hbel.cell (p := ⟨b, off + k * 4, none⟩) hb).trans x0
          have hx1 := (hbel.cell (p := ⟨b, off + k * 4 + 1, none⟩) hb).trans x1
          have hx2 := (hbel.cell (p := ⟨b, off + k * 4 + 2, none⟩) hb).trans x2
          have hx3 := (hbel.cell (p := ⟨b, off + k * 4 + 3, none⟩) hb).trans x3
          have HRi := Lib.hid ((hri.below hbel).more hbel.size)
          have HNx := Lib.hid (take_imv hkt)
          have hdb := HD2.out k hkt
          generalize imv ms k = m at *
          generalize imv ts k = t at *
          have HTm := Lib.hid hT
          have HA := Lib.hid hA
          clear x0 x1 x2 x3 hri hbel hT hkl hkt
          subst hA
          go_wp2_with fail
          refine (HTm.out Ai ci _ HRi.out hci).mono ?_
          rintro e w4 ⟨v4, rfl, hO4, hB4⟩
          obtain ⟨A4, c4, rfl, hc4⟩ := hO4.slice
          obtain ⟨lo4, hlo4⟩ : ∃ lo4, lo4 = wr.heap.size := ⟨_, rfl⟩
          obtain ⟨hi4, hhi4⟩ : ∃ hi4, hi4 = w4.heap.size := ⟨_, rfl⟩
          have HI4 := Lib.hid ((hI.out.add hO4 hB4).call ((Below.refl w4.heap.size w4).alloc (Nat.le_refl _) (.cells #[.int .i64 t.X, .int .i64 t.Y, .int .i64 t.Z, .slice A4 t.ds.length c4] 25)))
          rw [← hlo4, ← hhi4] at HI4
          have hcl4 := Bx.new w4 25 #[.int .i64 t.X, .int .i64 t.Y, .int .i64 t.Z, .slice A4 t.ds.length c4]
          obtain ⟨z0, z1, z2, z3⟩ := bx4 hcl4
          have HI5 : Hid (ImS u1006 (w4.alloc (.cells #[.int .i64 t.X, .int .i64 t.Y, .int .i64 t.Z, .slice A4 t.ds.length c4] 25)) u5 (ts.take k) (rt 3 1 lo4 hi4 (.slice A4 t.ds.length c4) t.ds.length t.ds :: []) []) := HI4
          have x0 : (w4.alloc (.cells #[.int .i64 t.X, .int .i64 t.Y, .int .i64 t.Z, .slice A4 t.ds.length c4] 25)).cell? ((⟨w4.heap.size, 0, none⟩ : Addr).add 0) = some (.int .i64 t.X) := by rw [add_spot rfl]; exact z0
          have x1 : (w4.alloc (.cells #[.int .i64 t.X, .int .i64 t.Y, .int .i64 t.Z, .slice A4 t.ds.length c4] 25)).cell? ((⟨w4.heap.size, 0, none⟩ : Addr).add 1) = some (.int .i64 t.Y) := by rw [add_spot rfl]; exact z1
          have x2 : (w4.alloc (.cells #[.int .i64 t.X, .int .i64 t.Y, .int .i64 t.Z, .slice A4 t.ds.length c4] 25)).cell? ((⟨w4.heap.size, 0, none⟩ : Addr).add 2) = some (.int .i64 t.Z) := by rw [add_spot rfl]; exact z2
          have x3 : (w4.alloc (.cells #[.int .i64 t.X, .int .i64 t.Y, .int .i64 t.Z, .slice A4 t.ds.length c4] 25)).cell? ((⟨w4.heap.size, 0, none⟩ : Addr).add 3) = some (.slice A4 t.ds.length c4) := by rw [add_spot rfl]; exact z3
          have HTk : Hid ((ts.take k).length ≤ 1000) := Lib.hid (by rw [List.length_take]; omega)
          clear HI4 z0 z1 z2 z3 hcl4 hI hO4 hB4 hlo4 hhi4 hx0 hx1 hx2 hx3 HRi
          go_wp2_with (at_builtin; refine wpList_appIS (v := u5) rfl (.tmp 35) (.tmp 41) rfl 3 lo4 hi4 A4 t.ds.length c4 c4 t rfl HI5.out ⟨w4.heap.size, 0, none⟩ 1 rfl hc4 HTk.out rfl x0 x1 x2 x3 ?_; intro v5 w5 hI5)
          rw [← HNx.out] at hI5
          have HI6 := Lib.hid hI5
          clear hI5 HI5 x0 x1 x2 x3
          go_roundw
          case rel => exact ⟨k + 1, by omega, by go_num, HI6⟩
          case measure => simp [intOf]; omega
        · have hkn : k = n := by omega
          have hIt : ts.take k = ts := List.take_of_length_le (by have := Htl.out; have := Hn.out; omega)
          have hI2 := hI.out
          rw [hIt] at hI2
          obtain ⟨A9, c9, rfl, hc9⟩ := hI2.slice
          have HL9 := Lib.hid hI2.rds
          have S9 := HS.out.call hI2.below
          have h4t : ts.length ≤ 4 := by have := Htl.out; have := Hn.out; omega
          clear hI hI2 hkn hIt
          have Fmx := S9.2.2 ⟨u1.heap.size, 25, #[.int .i64 W, .int .i64 H, .int .i64 P, .slice A xs.length c]⟩ (by simp)
          have ml : u1.heap.size < wr.heap.size := Fmx.lt
          have m0 : wr.cell? ⟨u1.heap.size, 0, none⟩ = some (.int .i64 W) := cell_of_row _ _ 0 _ _ _ Fmx
          have m1 : wr.cell? ⟨u1.heap.size, 1, none⟩ = some (.int .i64 H) := cell_of_row _ _ 1 _ _ _ Fmx
          have m2 : wr.cell? ⟨u1.heap.size, 2, none⟩ = some (.int .i64 P) := cell_of_row _ _ 2 _ _ _ Fmx
          have m3 : wr.cell? ⟨u1.heap.size, 3, none⟩ = some (.slice A xs.length c) := cell_of_row _ _ 3 _ _ _ Fmx
          clear Fmx
          go_wp2_with fail
          refine (HU.out A c _ ((S9).rds (A := A) (xs := xs) (by simp)) hxc).mono ?_
          rintro e u1009 ⟨A1009, c1009, rfl, hc1009, hr1009, hB1009⟩
          have S1009 := (S9.call hB1009).add hr1009
          have HL1010 : Hid (Rdim u1009 u1009.heap.size A9 ts) := Lib.hid ((HL9.out.below hB1009).more hB1009.size)
          clear HL9
          clear ml m0 m1 m2 m3
          clear hr1009 hB1009 S9
          go_wp2_with fail
          refine (HV.out A1009 c1009 _ ((S1009).rds (A := A1009) (xs := ys) (by simp)) hc1009).mono ?_
          rintro e u1011 ⟨A1011, c1011, rfl, hc1011, hr1011, hB1011⟩
          have S1011 := S1009.call hB1011
          have HL1012 : Hid (Rdim u1011 u1011.heap.size A9 ts) := Lib.hid ((HL1010.out.below hB1011).more hB1011.size)
          clear HL1010
          have HL10110 := Lib.hid hr1011
          clear hr1011
          clear hB1011 S1009
          go_wp2_with fail
          refine (lEqIms A1011 A9 c1011 c9 _ _ ts _ rfl rfl HL10110.out HL1012.out (by omega) (fun i hi => by have := HD2.out i hi; omega)).mono ?_
          rintro e u1013 ⟨rfl, hB1013⟩
          have S1013 := S1011.call hB1013
          have HL1014 : Hid (Rdim u1013 u1013.heap.size A1011 ts) := Lib.hid ((HL10110.out.below hB1013).more hB1013.size)
          clear HL10110
          have HL1015 : Hid (Rdim u1013 u1013.heap.size A9 ts) := Lib.hid ((HL1012.out.below hB1013).more hB1013.size)
          clear HL1012
          clear hB1013 S1011
          go_wp2
          go_ret
          exact ⟨rfl, S1013.1⟩

/-! ### From the walk to the statement. -/
theorem own : ownKnob Try.prog.godebug = none := by kernel_rfl
theorem laidOut : laidOutB Try.prog = true := by kernel_rfl
set_option maxRecDepth 100000 in
theorem lifted (os : Os) (started : os.Started) (H : Type) (enc : TypeId × Value → H) :
    ReturnsInHanded {} Try.checked os 5 .any (Rows.fnSplitPlanesTurnSpec.pre6 enc Try.prog Try.f5 Rows.fnSplitPlanesTurnRow.domain false) (Rows.fnSplitPlanesTurnSpec.post enc Try.prog Try.f5 false true false false) := by
  refine returnsInHanded_of_change (C := Try.checked) own started (by kernel_rfl) Try.func5
    (ChangeSpec.witness6 (enc := enc) (C := Try.checked) false ⟨#[], #[.slice none 0 0], []⟩ 8 (by kernel_rfl) (by kernel_rfl) (by kernel_rfl) (by kernel_rfl)) ?_
  intro W base args ds gs before hval0 hW hcnd _
  have hval : ∀ (j : Nat) t v, Try.f5.params[j]? = some t → args[j]? = some v → Value.okWide Try.prog W .any base t v := hval0
  have hW' := hW
  obtain ⟨p, q, hA0, hV, rfl, hfz, hnd⟩ := hW
  have hA : DataW.TrodAll enc Try.prog W 0 (fun _ => true) true Try.f5.params.toList args.toList ds p := hA0
  rw [Try.params5] at hA hval
  obtain ⟨v0, vs0, d0, ds0, p0, q0, hargs, rfl, rfl, h0, r0⟩ := trodAll_cons hA
  obtain ⟨rfl, rfl, rfl⟩ := trodAll_nil r0
  obtain rfl : args = #[v0] := by cases args; simp_all
  obtain ⟨rfl, rfl⟩ := trodVars_none hV
  obtain ⟨a0, len0, cap0, rfl⟩ := okWide_slice Try.underlying22 (hval 0 22 v0 rfl rfl)
  have k0 := h0
  have lt0 : ∀ x ∈ p0, x.block < W.heap.size := by obtain ⟨m, hm⟩ := k0; exact DataW.trod_lt m _ _ _ hm
  obtain ⟨z0, hl0, hc0, w0⟩ : ∃ zs : List Int, len0 = zs.length ∧ zs.length ≤ cap0 ∧ Rdw .u8 W W.heap.size a0 zs := by
    obtain ⟨fuel, hf⟩ := h0
    rcases open_ints Try.underlying22 Try.underlying5 (by kernel_rfl) hf with ⟨hcs, _⟩ | ⟨x, l, c, zs, hcs, _, hl, hm, hz, _, hcell, hwz⟩
    · simp [Value.cells] at hcs
      obtain ⟨rfl, rfl, rfl⟩ := hcs
      exact ⟨[], rfl, Nat.le_refl _, Rdw.nil⟩
    · simp [Value.cells] at hcs
      obtain ⟨rfl, rfl, rfl⟩ := hcs
      exact ⟨zs.take len0, by simp at hz ⊢; omega, by simp at hz ⊢; omega, Rdw.of_row hl hm (by simpa using hz) hcell hwz⟩
  subst hl0
  clear hA0 hval0
  refine (walk W a0 cap0 z0 hc0 w0).mono fun e W' ⟨he, bel⟩ => ?_
  subst he
  exact ⟨_, rfl, _, _, _, [], _, [], hW', trodAll_mk1 (shut_bool Try.underlying4 _), (trodAll_cons_mk (Below.trod laidOut (by kernel_rfl) (of_decide_eq_true (by kernel_rfl)) k0 bel lt0) trodAll_mk0), rfl, bel.frame _, fun h => by cases h⟩

theorem over : Rows.fnSplitPlanesTurnRow.holds Try.pinned (OpenSpec.ofChange Rows.fnSplitPlanesTurnSpec) :=
  OpenClaim.holds_of_wide 5 Try.f5 rfl rfl rfl rfl rfl rfl rfl ⟨rfl, rfl, rfl, rfl, rfl⟩ rfl rfl rfl rfl rfl (by kernel_rfl) Try.func5 (by kernel_rfl)
    (of_decide_eq_true (by kernel_rfl)) (by unfold Func.isWrapper; first | (rw [if_pos (by decide +kernel)]; kernel_rfl) | (rw [if_neg (by decide +kernel)]; exact ⟨rfl, rfl⟩))
    (fun os started H enc _ => lifted os started H enc)

theorem proved : Rows.FnSplitPlanesTurnSaid := over
end Go.Proofs.Ytfeldhhbnhdodaa.fnSplitPlanesTurn
