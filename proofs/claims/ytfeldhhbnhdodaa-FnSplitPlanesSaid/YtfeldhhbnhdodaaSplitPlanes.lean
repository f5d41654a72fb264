/- Whatever the code: SplitPlanes of the drawn image answers what the model answers, and where there are planes, there are as many as the image has, and merged they are the image. -/
import Derived.Test.YtfeldhhbnhdodaaRows
import Derived.WalkKit
import Derived.ProofKit
import Derived.OpenShut
import Derived.ShutString
import Derived.ChangeOld
import Derived.Below
import Derived.Test.YtfeldhhbnhdodaaPlnL
import Derived.Test.YtfeldhhbnhdodaaDrawImg2
import Derived.Deep.QuietTactic
import Derived.BigQuiet
namespace Go.Proofs.Ytfeldhhbnhdodaa.fnSplitPlanes
open Go.ChangeShapes Go.WideShapes Go.ChangeAt Go.RowKit
open Go.ChangeMaps (open_string shut_string)
set_option linter.unusedVariables false

set_option maxRecDepth 20000
set_option maxHeartbeats 16000000 in
theorem walk (w : World) (a0 : Option Addr) (cap0 : Nat) (z0 : List Int) (hc0 : z0.length ≤ cap0) (w0 : Rdw .u8 w w.heap.size a0 z0) :
    Calls Try.prog 3 #[.slice a0 z0.length cap0] w fun e w' => e = .returned (.bool true) ∧ Below w.heap.size w w' := by
  have hm := w0.2.1
  unfold maxLen at hm
  by_cases hlen : 1048576 < z0.length
  · go_enter Try.func3, Try.ntmps3
    go_wp2
    go_ret
    exact ⟨rfl, Below.refl _ _⟩
  · go_enter Try.func3, Try.ntmps3
    go_wp2_with fail
    refine (drawSplit_any a0 cap0 z0 w hc0 w0).mono ?_
    rintro e u1 ⟨W, H, P, A, c, xs, rfl, hx, hxc, hr, hbel⟩
    have S1 : LSt w u1 [(A, xs)] [] := (LSt.start hbel).add hr
    obtain ⟨ms, HI, HQ, h4, HD, hor⟩ := spl_law W H P xs (by omega)
    clear w0 hr hbel hm
    have S1001 : LSt w (u1.alloc (.cells #[.int .i64 W, .int .i64 H, .int .i64 P, .slice A xs.length c] 25)) [(A, xs)] [⟨u1.heap.size, 25, #[.int .i64 W, .int .i64 H, .int .i64 P, .slice A xs.length c]⟩] := LSt.box2 S1 25 #[.int .i64 W, .int .i64 H, .int .i64 P, .slice A xs.length c] u1.heap.size (by simp)
    go_wp2_with fail
    clear S1
    generalize u1.alloc (.cells #[.int .i64 W, .int .i64 H, .int .i64 P, .slice A xs.length c] 25) = u1002 at *
    refine (HI.out A c _ ((S1001).rds (A := A) (xs := xs) (by simp)) hxc).mono ?_
    rintro e u1003 ⟨A1003, c1003, rfl, hc1003, hr1003, hB1003⟩
    have S1003 := S1001.call hB1003
    have HL10030 := Lib.hid hr1003
    clear hr1003
    clear hB1003 S1001
    have Fmx := S1003.2.2 ⟨u1.heap.size, 25, #[.int .i64 W, .int .i64 H, .int .i64 P, .slice A xs.length c]⟩ (by simp)
    have ml : u1.heap.size < u1003.heap.size := Fmx.lt
    have m0 : u1003.cell? ⟨u1.heap.size, 0, none⟩ = some (.int .i64 W) := cell_of_row _ _ 0 _ _ _ Fmx
    have m1 : u1003.cell? ⟨u1.heap.size, 1, none⟩ = some (.int .i64 H) := cell_of_row _ _ 1 _ _ _ Fmx
    have m2 : u1003.cell? ⟨u1.heap.size, 2, none⟩ = some (.int .i64 P) := cell_of_row _ _ 2 _ _ _ Fmx
    have m3 : u1003.cell? ⟨u1.heap.size, 3, none⟩ = some (.slice A xs.length c) := cell_of_row _ _ 3 _ _ _ Fmx
    clear Fmx
    go_wp2_with fail
    refine (HQ.out A c _ ((S1003).rds (A := A) (xs := xs) (by simp)) hxc).mono ?_
    rintro e u1004 ⟨A1004, c1004, rfl, hc1004, hr1004, hB1004⟩
    have S1004 := S1003.call hB1004
    have HL1005 : Hid (Rdim u1004 u1004.heap.size A1003 ms) := Lib.hid ((HL10030.out.below hB1004).more hB1004.size)
    clear HL10030
    have HL10040 := Lib.hid hr1004
    clear hr1004
    clear ml m0 m1 m2 m3
    clear hB1004 S1003
    go_wp2_with fail
    refine (lEqIms A1003 A1004 c1003 c1004 _ _ ms _ rfl rfl HL1005.out HL10040.out (by omega) (fun i hi => by have := HD.out i hi; omega)).mono ?_
    rintro e u1006 ⟨rfl, hB1006⟩
    have S1006 := S1004.call hB1006
    have HL1007 : Hid (Rdim u1006 u1006.heap.size A1004 ms) := Lib.hid ((HL10040.out.below hB1006).more hB1006.size)
    clear HL10040
    have HL1008 : Hid (Rdim u1006 u1006.heap.size A1003 ms) := Lib.hid ((HL1005.out.below hB1006).more hB1006.size)
    clear HL1005
    clear hB1006 S1004
    rcases hor with h0 | ⟨h0, hP, HM⟩
    · skip
      obtain rfl := List.eq_nil_of_length_eq_zero h0
      clear h0 h4
      have Fmx := S1006.2.2 ⟨u1.heap.size, 25, #[.int .i64 W, .int .i64 H, .int .i64 P, .slice A xs.length c]⟩ (by simp)
      have ml : u1.heap.size < u1006.heap.size := Fmx.lt
      have m0 : u1006.cell? ⟨u1.heap.size, 0, none⟩ = some (.int .i64 W) := cell_of_row _ _ 0 _ _ _ Fmx
      have m1 : u1006.cell? ⟨u1.heap.size, 1, none⟩ = some (.int .i64 H) := cell_of_row _ _ 1 _ _ _ Fmx
      have m2 : u1006.cell? ⟨u1.heap.size, 2, none⟩ = some (.int .i64 P) := cell_of_row _ _ 2 _ _ _ Fmx
      have m3 : u1006.cell? ⟨u1.heap.size, 3, none⟩ = some (.slice A xs.length c) := cell_of_row _ _ 3 _ _ _ Fmx
      clear Fmx
      go_wp2_with fail
      refine (HQ.out A c _ ((S1006).rds (A := A) (xs := xs) (by simp)) hxc).mono ?_
      rintro e u1009 ⟨A1009, c1009, rfl, hc1009, hr1009, hB1009⟩
      have S1009 := S1006.call hB1009
      have HL1010 : Hid (Rdim u1009 u1009.heap.size A1004 []) := Lib.hid ((HL1007.out.below hB1009).more hB1009.size)
      clear HL1007
      have HL1011 : Hid (Rdim u1009 u1009.heap.size A1003 []) := Lib.hid ((HL1008.out.below hB1009).more hB1009.size)
      clear HL1008
      have HL10090 := Lib.hid hr1009
      clear hr1009
      clear ml m0 m1 m2 m3
      clear hB1009 S1006
      go_wp2_with fail
      refine (lEqIms A1003 A1009 c1003 c1009 _ _ [] _ rfl rfl HL1011.out HL10090.out (by simp) (fun i hi => by simp at hi)).mono ?_
      rintro e u1012 ⟨rfl, hB1012⟩
      have S1012 := S1009.call hB1012
      have HL1013 : Hid (Rdim u1012 u1012.heap.size A1009 []) := Lib.hid ((HL10090.out.below hB1012).more hB1012.size)
      clear HL10090
      have HL1014 : Hid (Rdim u1012 u1012.heap.size A1004 []) := Lib.hid ((HL1010.out.below hB1012).more hB1012.size)
      clear HL1010
      have HL1015 : Hid (Rdim u1012 u1012.heap.size A1003 []) := Lib.hid ((HL1011.out.below hB1012).more hB1012.size)
      clear HL1011
      clear hB1012 S1009
      go_wp2
      go_ret
      exact ⟨rfl, S1012.1⟩
    · skip
      have hz : ((ms.length : Int) == 0) = false := beq_eq_false_iff_ne.2 (by omega)
      have hz2 : ((ms.length : Int) == P) = true := by rw [hP]; simp
      clear hP
      go_wp2_with fail
      refine (HM.out A1003 c1003 _ HL1008.out).mono ?_
      rintro e u1009 ⟨A1009, c1009, rfl, hc1009, hr1009, hB1009⟩
      have S1009 := (S1006.call hB1009).add hr1009
      have HL1010 : Hid (Rdim u1009 u1009.heap.size A1004 ms) := Lib.hid ((HL1007.out.below hB1009).more hB1009.size)
      clear HL1007
      have HL1011 : Hid (Rdim u1009 u1009.heap.size A1003 ms) := Lib.hid ((HL1008.out.below hB1009).more hB1009.size)
      clear HL1008
      clear hr1009 hB1009 S1006
      have Fmx := S1009.2.2 ⟨u1.heap.size, 25, #[.int .i64 W, .int .i64 H, .int .i64 P, .slice A xs.length c]⟩ (by simp)
      have ml : u1.heap.size < u1009.heap.size := Fmx.lt
      have m0 : u1009.cell? ⟨u1.heap.size, 0, none⟩ = some (.int .i64 W) := cell_of_row _ _ 0 _ _ _ Fmx
      have m1 : u1009.cell? ⟨u1.heap.size, 1, none⟩ = some (.int .i64 H) := cell_of_row _ _ 1 _ _ _ Fmx
      have m2 : u1009.cell? ⟨u1.heap.size, 2, none⟩ = some (.int .i64 P) := cell_of_row _ _ 2 _ _ _ Fmx
      have m3 : u1009.cell? ⟨u1.heap.size, 3, none⟩ = some (.slice A xs.length c) := cell_of_row _ _ 3 _ _ _ Fmx
      clear Fmx
      have S1012 : LSt w (u1009.alloc (.cells #[.int .i64 W, .int .i64 H, .int .i64 P, .slice A1009 xs.length c1009] 25)) [(A1009, xs), (A, xs)] [⟨u1009.heap.size, 25, #[.int .i64 W, .int .i64 H, .int .i64 P, .slice A1009 xs.length c1009]⟩, ⟨u1.heap.size, 25, #[.int .i64 W, .int .i64 H, .int .i64 P, .slice A xs.length c]⟩] := LSt.box2 S1009 25 #[.int .i64 W, .int .i64 H, .int .i64 P, .slice A1009 xs.length c1009] u1009.heap.size (by simp)
      have HL1013 : Hid (Rdim (u1009.alloc (.cells #[.int .i64 W, .int .i64 H, .int .i64 P, .slice A1009 xs.length c1009] 25)) (u1009.alloc (.cells #[.int .i64 W, .int .i64 H, .int .i64 P, .slice A1009 xs.length c1009] 25)).heap.size A1004 ms) := Lib.hid ((HL1010.out.below ((Below.refl _ _).alloc (Nat.le_refl _) _)).more (by simp))
      clear HL1010
      have HL1014 : Hid (Rdim (u1009.alloc (.cells #[.int .i64 W, .int .i64 H, .int .i64 P, .slice A1009 xs.length c1009] 25)) (u1009.alloc (.cells #[.int .i64 W, .int .i64 H, .int .i64 P, .slice A1009 xs.length c1009] 25)).heap.size A1003 ms) := Lib.hid ((HL1011.out.below ((Below.refl _ _).alloc (Nat.le_refl _) _)).more (by simp))
      clear HL1011
      go_wp2_with fail
      clear ml m0 m1 m2 m3
      clear S1009
      generalize u1009.alloc (.cells #[.int .i64 W, .int .i64 H, .int .i64 P, .slice A1009 xs.length c1009] 25) = u1015 at *
      refine (lEqIm W H P xs A1009 A c1009 c _ ((S1012).rds (A := A1009) (xs := xs) (by simp)) ((S1012).rds (A := A) (xs := xs) (by simp)) (by omega)).mono ?_
      rintro e u1016 ⟨rfl, hB1016⟩
      have S1016 := S1012.call hB1016
      have HL1017 : Hid (Rdim u1016 u1016.heap.size A1004 ms) := Lib.hid ((HL1013.out.below hB1016).more hB1016.size)
      clear HL1013
      have HL1018 : Hid (Rdim u1016 u1016.heap.size A1003 ms) := Lib.hid ((HL1014.out.below hB1016).more hB1016.size)
      clear HL1014
      clear hB1016 S1012
      have Fmx := S1016.2.2 ⟨u1.heap.size, 25, #[.int .i64 W, .int .i64 H, .int .i64 P, .slice A xs.length c]⟩ (by simp)
      have ml : u1.heap.size < u1016.heap.size := Fmx.lt
      have m0 : u1016.cell? ⟨u1.heap.size, 0, none⟩ = some (.int .i64 W) := cell_of_row _ _ 0 _ _ _ Fmx
      have m1 : u1016.cell? ⟨u1.heap.size, 1, none⟩ = some (.int .i64 H) := cell_of_row _ _ 1 _ _ _ Fmx
      have m2 : u1016.cell? ⟨u1.heap.size, 2, none⟩ = some (.int .i64 P) := cell_of_row _ _ 2 _ _ _ Fmx
      have m3 : u1016.cell? ⟨u1.heap.size, 3, none⟩ = some (.slice A xs.length c) := cell_of_row _ _ 3 _ _ _ Fmx
      clear Fmx
      go_wp2
      go_ret
      exact ⟨rfl, S1016.1⟩

/-! ### From the walk to the statement. -/
theorem own : ownKnob Try.prog.godebug = none := by kernel_rfl
theorem laidOut : laidOutB Try.prog = true := by kernel_rfl
set_option maxRecDepth 100000 in
theorem lifted (os : Os) (started : os.Started) (H : Type) (enc : TypeId × Value → H) :
    ReturnsInHanded {} Try.checked os 3 .any (Rows.fnSplitPlanesSpec.pre6 enc Try.prog Try.f3 Rows.fnSplitPlanesRow.domain false) (Rows.fnSplitPlanesSpec.post enc Try.prog Try.f3 false true false false) := by
  refine returnsInHanded_of_change (C := Try.checked) own started (by kernel_rfl) Try.func3
    (ChangeSpec.witness6 (enc := enc) (C := Try.checked) false ⟨#[], #[.slice none 0 0], []⟩ 8 (by kernel_rfl) (by kernel_rfl) (by kernel_rfl) (by kernel_rfl)) ?_
  intro W base args ds gs before hval0 hW hcnd _
  have hval : ∀ (j : Nat) t v, Try.f3.params[j]? = some t → args[j]? = some v → Value.okWide Try.prog W .any base t v := hval0
  have hW' := hW
  obtain ⟨p, q, hA0, hV, rfl, hfz, hnd⟩ := hW
  have hA : DataW.TrodAll enc Try.prog W 0 (fun _ => true) true Try.f3.params.toList args.toList ds p := hA0
  rw [Try.params3] at hA hval
  obtain ⟨v0, vs0, d0, ds0, p0, q0, hargs, rfl, rfl, h0, r0⟩ := trodAll_cons hA
  obtain ⟨rfl, rfl, rfl⟩ := trodAll_nil r0
  obtain rfl : args = #[v0] := by cases args; simp_all
  obtain ⟨rfl, rfl⟩ := trodVars_none hV
  obtain ⟨a0, len0, cap0, rfl⟩ := okWide_slice Try.underlying22 (hval 0 22 v0 rfl rfl)
  have k0 := h0
  have lt0 : ∀ x ∈ p0, x.block < W.heap.size := by obtain ⟨m, hm⟩ := k0; exact DataW.trod_lt m _ _ _ hm
  obtain ⟨z0, hl0, hc0, w0⟩ : ∃ zs : List Int, len0 = zs.length ∧ zs.length ≤ cap0 ∧ Rdw .u8 W W.heap.size a0 zs := by
    obtain ⟨fuel, hf⟩ := h0
    rcases open_ints Try.underlying22 Try.underlying5 (by kernel_rfl) hf with ⟨hcs, _⟩ | ⟨x, l, c, zs, hcs, _, hl, hm, hz, _, hcell, hwz⟩
    · simp [Value.cells] at hcs
      obtain ⟨rfl, rfl, rfl⟩ := hcs
      exact ⟨[], rfl, Nat.le_refl _, Rdw.nil⟩
    · simp [Value.cells] at hcs
      obtain ⟨rfl, rfl, rfl⟩ := hcs
      exact ⟨zs.take len0, by simp at hz ⊢; omega, by simp at hz ⊢; omega, Rdw.of_row hl hm (by simpa using hz) hcell hwz⟩
  subst hl0
  clear hA0 hval0
  refine (walk W a0 cap0 z0 hc0 w0).mono fun e W' ⟨he, bel⟩ => ?_
  subst he
  exact ⟨_, rfl, _, _, _, [], _, [], hW', trodAll_mk1 (shut_bool Try.underlying4 _), (trodAll_cons_mk (Below.trod laidOut (by kernel_rfl) (of_decide_eq_true (by kernel_rfl)) k0 bel lt0) trodAll_mk0), rfl, bel.frame _, fun h => by cases h⟩

theorem over : Rows.fnSplitPlanesRow.holds Try.pinned (OpenSpec.ofChange Rows.fnSplitPlanesSpec) :=
  OpenClaim.holds_of_wide 3 Try.f3 rfl rfl rfl rfl rfl rfl rfl ⟨rfl, rfl, rfl, rfl, rfl⟩ rfl rfl rfl rfl rfl (by kernel_rfl) Try.func3 (by kernel_rfl)
    (of_decide_eq_true (by kernel_rfl)) (by unfold Func.isWrapper; first | (rw [if_pos (by decide +kernel)]; kernel_rfl) | (rw [if_neg (by decide +kernel)]; exact ⟨rfl, rfl⟩))
    (fun os started H enc _ => lifted os started H enc)

theorem proved : Rows.FnSplitPlanesSaid := over
end Go.Proofs.Ytfeldhhbnhdodaa.fnSplitPlanes
