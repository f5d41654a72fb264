/- Whatever the code: MergePlanes of the drawn images answers what the model answers, and where there is an image, its planes are the images. -/
import Derived.Test.YtfeldhhbnhdodaaRows
import Derived.WalkKit
import Derived.ProofKit
import Derived.OpenShut
import Derived.ShutString
import Derived.ChangeOld
import Derived.Below
import Derived.Test.YtfeldhhbnhdodaaPlnL
import Derived.Test.YtfeldhhbnhdodaaDrawMrg
import Derived.Deep.QuietTactic
import Derived.BigQuiet
namespace Go.Proofs.Ytfeldhhbnhdodaa.fnMergePlanes
open Go.ChangeShapes Go.WideShapes Go.ChangeAt Go.RowKit
open Go.ChangeMaps (open_string shut_string)
set_option linter.unusedVariables false

set_option maxRecDepth 20000
set_option maxHeartbeats 16000000 in
theorem walk (w : World) (a0 : Option Addr) (cap0 : Nat) (z0 : List Int) (hc0 : z0.length ≤ cap0) (w0 : Rdw .u8 w w.heap.size a0 z0) :
    Calls Try.prog 4 #[.slice a0 z0.length cap0] w fun e w' => e = .returned (.bool true) ∧ Below w.heap.size w w' := by
  have hm := w0.2.1
  unfold maxLen at hm
  by_cases hlen : 1048576 < z0.length
  · go_enter Try.func4, Try.ntmps4
    go_wp2
    go_ret
    exact ⟨rfl, Below.refl _ _⟩
  · go_enter Try.func4, Try.ntmps4
    go_wp2_with fail
    refine (drawMrg_any a0 cap0 z0 w hc0 w0).mono ?_
    rintro e u1 ⟨ms, A, c, rfl, hml, HD, hr, hbel⟩
    have S1 : LSt w u1 [] [] := LSt.start hbel
    have HL1 := Lib.hid hr
    obtain ⟨X, Y, Z, ys, ok, hys, HI, HQ, hor⟩ := mrg_law ms (by omega) (fun i hi => by have := HD.out i hi; omega)
    clear w0 hr hbel hm
    go_wp2_with fail
    refine (HI.out A c _ HL1.out).mono ?_
    rintro e u1001 ⟨A1001, c1001, rfl, hc1001, hr1001, hB1001⟩
    have S1001 := (S1.call hB1001).add hr1001
    have HL1002 : Hid (Rdim u1001 u1001.heap.size A ms) := Lib.hid ((HL1.out.below hB1001).more hB1001.size)
    clear HL1
    clear hr1001 hB1001 S1
    have S1003 : LSt w (u1001.alloc (.cells #[.int .i64 X, .int .i64 Y, .int .i64 Z, .slice A1001 ys.length c1001] 25)) [(A1001, ys)] [⟨u1001.heap.size, 25, #[.int .i64 X, .int .i64 Y, .int .i64 Z, .slice A1001 ys.length c1001]⟩] := LSt.box2 S1001 25 #[.int .i64 X, .int .i64 Y, .int .i64 Z, .slice A1001 ys.length c1001] u1001.heap.size (by simp)
    have HL1004 : Hid (Rdim (u1001.alloc (.cells #[.int .i64 X, .int .i64 Y, .int .i64 Z, .slice A1001 ys.length c1001] 25)) (u1001.alloc (.cells #[.int .i64 X, .int .i64 Y, .int .i64 Z, .slice A1001 ys.length c1001] 25)).heap.size A ms) := Lib.hid ((HL1002.out.below ((Below.refl _ _).alloc (Nat.le_refl _) _)).more (by simp))
    clear HL1002
    go_wp2_with fail
    clear S1001
    generalize u1001.alloc (.cells #[.int .i64 X, .int .i64 Y, .int .i64 Z, .slice A1001 ys.length c1001] 25) = u1005 at *
    refine (HQ.out A c _ HL1004.out).mono ?_
    rintro e u1006 ⟨A1006, c1006, rfl, hc1006, hr1006, hB1006⟩
    have S1006 := (S1003.call hB1006).add hr1006
    have HL1007 : Hid (Rdim u1006 u1006.heap.size A ms) := Lib.hid ((HL1004.out.below hB1006).more hB1006.size)
    clear HL1004
    clear hr1006 hB1006 S1003
    have Fmx := S1006.2.2 ⟨u1001.heap.size, 25, #[.int .i64 X, .int .i64 Y, .int .i64 Z, .slice A1001 ys.length c1001]⟩ (by simp)
    have ml : u1001.heap.size < u1006.heap.size := Fmx.lt
    have m0 : u1006.cell? ⟨u1001.heap.size, 0, none⟩ = some (.int .i64 X) := cell_of_row _ _ 0 _ _ _ Fmx
    have m1 : u1006.cell? ⟨u1001.heap.size, 1, none⟩ = some (.int .i64 Y) := cell_of_row _ _ 1 _ _ _ Fmx
    have m2 : u1006.cell? ⟨u1001.heap.size, 2, none⟩ = some (.int .i64 Z) := cell_of_row _ _ 2 _ _ _ Fmx
    have m3 : u1006.cell? ⟨u1001.heap.size, 3, none⟩ = some (.slice A1001 ys.length c1001) := cell_of_row _ _ 3 _ _ _ Fmx
    clear Fmx
    have S1008 : LSt w (u1006.alloc (.cells #[.int .i64 X, .int .i64 Y, .int .i64 Z, .slice A1006 ys.length c1006] 25)) [(A1006, ys), (A1001, ys)] [⟨u1006.heap.size, 25, #[.int .i64 X, .int .i64 Y, .int .i64 Z, .slice A1006 ys.length c1006]⟩, ⟨u1001.heap.size, 25, #[.int .i64 X, .int .i64 Y, .int .i64 Z, .slice A1001 ys.length c1001]⟩] := LSt.box2 S1006 25 #[.int .i64 X, .int .i64 Y, .int .i64 Z, .slice A1006 ys.length c1006] u1006.heap.size (by simp)
    have HL1009 : Hid (Rdim (u1006.alloc (.cells #[.int .i64 X, .int .i64 Y, .int .i64 Z, .slice A1006 ys.length c1006] 25)) (u1006.alloc (.cells #[.int .i64 X, .int .i64 Y, .int .i64 Z, .slice A1006 ys.length c1006] 25)).heap.size A ms) := Lib.hid ((HL1007.out.below ((Below.refl _ _).alloc (Nat.le_refl _) _)).more (by simp))
    clear HL1007
    go_wp2_with fail
    clear ml m0 m1 m2 m3
    clear S1006
    generalize u1006.alloc (.cells #[.int .i64 X, .int .i64 Y, .int .i64 Z, .slice A1006 ys.length c1006] 25) = u1010 at *
    refine (lEqIm X Y Z ys A1001 A1006 c1001 c1006 _ ((S1008).rds (A := A1001) (xs := ys) (by simp)) ((S1008).rds (A := A1006) (xs := ys) (by simp)) (by omega)).mono ?_
    rintro e u1011 ⟨rfl, hB1011⟩
    have S1011 := S1008.call hB1011
    have HL1012 : Hid (Rdim u1011 u1011.heap.size A ms) := Lib.hid ((HL1009.out.below hB1011).more hB1011.size)
    clear HL1009
    clear hB1011 S1008
    rcases hor with rfl | ⟨rfl, HS⟩
    · skip
      have Fmx := S1011.2.2 ⟨u1001.heap.size, 25, #[.int .i64 X, .int .i64 Y, .int .i64 Z, .slice A1001 ys.length c1001]⟩ (by simp)
      have ml : u1001.heap.size < u1011.heap.size := Fmx.lt
      have m0 : u1011.cell? ⟨u1001.heap.size, 0, none⟩ = some (.int .i64 X) := cell_of_row _ _ 0 _ _ _ Fmx
      have m1 : u1011.cell? ⟨u1001.heap.size, 1, none⟩ = some (.int .i64 Y) := cell_of_row _ _ 1 _ _ _ Fmx
      have m2 : u1011.cell? ⟨u1001.heap.size, 2, none⟩ = some (.int .i64 Z) := cell_of_row _ _ 2 _ _ _ Fmx
      have m3 : u1011.cell? ⟨u1001.heap.size, 3, none⟩ = some (.slice A1001 ys.length c1001) := cell_of_row _ _ 3 _ _ _ Fmx
      clear Fmx
      have Fox := S1011.2.2 ⟨u1006.heap.size, 25, #[.int .i64 X, .int .i64 Y, .int .i64 Z, .slice A1006 ys.length c1006]⟩ (by simp)
      have ol : u1006.heap.size < u1011.heap.size := Fox.lt
      have o0 : u1011.cell? ⟨u1006.heap.size, 0, none⟩ = some (.int .i64 X) := cell_of_row _ _ 0 _ _ _ Fox
      have o1 : u1011.cell? ⟨u1006.heap.size, 1, none⟩ = some (.int .i64 Y) := cell_of_row _ _ 1 _ _ _ Fox
      have o2 : u1011.cell? ⟨u1006.heap.size, 2, none⟩ = some (.int .i64 Z) := cell_of_row _ _ 2 _ _ _ Fox
      have o3 : u1011.cell? ⟨u1006.heap.size, 3, none⟩ = some (.slice A1006 ys.length c1006) := cell_of_row _ _ 3 _ _ _ Fox
      clear Fox
      go_wp2_with fail
      refine (lEqIm X Y Z ys A1001 A1006 c1001 c1006 _ ((S1011).rds (A := A1001) (xs := ys) (by simp)) ((S1011).rds (A := A1006) (xs := ys) (by simp)) (by omega)).mono ?_
      rintro e u1013 ⟨rfl, hB1013⟩
      have S1013 := S1011.call hB1013
      have HL1014 : Hid (Rdim u1013 u1013.heap.size A ms) := Lib.hid ((HL1012.out.below hB1013).more hB1013.size)
      clear HL1012
      clear ml m0 m1 m2 m3
      clear ol o0 o1 o2 o3
      clear hB1013 S1011
      go_wp2
      go_ret
      exact ⟨rfl, S1013.1⟩
    · skip
      have Fmx := S1011.2.2 ⟨u1001.heap.size, 25, #[.int .i64 X, .int .i64 Y, .int .i64 Z, .slice A1001 ys.length c1001]⟩ (by simp)
      have ml : u1001.heap.size < u1011.heap.size := Fmx.lt
      have m0 : u1011.cell? ⟨u1001.heap.size, 0, none⟩ = some (.int .i64 X) := cell_of_row _ _ 0 _ _ _ Fmx
      have m1 : u1011.cell? ⟨u1001.heap.size, 1, none⟩ = some (.int .i64 Y) := cell_of_row _ _ 1 _ _ _ Fmx
      have m2 : u1011.cell? ⟨u1001.heap.size, 2, none⟩ = some (.int .i64 Z) := cell_of_row _ _ 2 _ _ _ Fmx
      have m3 : u1011.cell? ⟨u1001.heap.size, 3, none⟩ = some (.slice A1001 ys.length c1001) := cell_of_row _ _ 3 _ _ _ Fmx
      clear Fmx
      go_wp2_with fail
      refine (HS.out A1001 c1001 _ ((S1011).rds (A := A1001) (xs := ys) (by simp)) hc1001).mono ?_
      rintro e u1013 ⟨A1013, c1013, rfl, hc1013, hr1013, hB1013⟩
      have S1013 := S1011.call hB1013
      have HL1014 : Hid (Rdim u1013 u1013.heap.size A ms) := Lib.hid ((HL1012.out.below hB1013).more hB1013.size)
      clear HL1012
      have HL10130 := Lib.hid hr1013
      clear hr1013
      clear ml m0 m1 m2 m3
      clear hB1013 S1011
      go_wp2_with fail
      refine (lEqIms A1013 A c1013 c _ _ ms _ rfl rfl HL10130.out HL1014.out (by omega) (fun i hi => by have := HD.out i hi; omega)).mono ?_
      rintro e u1015 ⟨rfl, hB1015⟩
      have S1015 := S1013.call hB1015
      have HL1016 : Hid (Rdim u1015 u1015.heap.size A1013 ms) := Lib.hid ((HL10130.out.below hB1015).more hB1015.size)
      clear HL10130
      have HL1017 : Hid (Rdim u1015 u1015.heap.size A ms) := Lib.hid ((HL1014.out.below hB1015).more hB1015.size)
      clear HL1014
      clear hB1015 S1013
      go_wp2
      go_ret
      exact ⟨rfl, S1015.1⟩

/-! ### From the walk to the statement. -/
theorem own : ownKnob Try.prog.godebug = none := by kernel_rfl
theorem laidOut : laidOutB Try.prog = true := by kernel_rfl
set_option maxRecDepth 100000 in
theorem lifted (os : Os) (started : os.Started) (H : Type) (enc : TypeId × Value → H) :
    ReturnsInHanded {} Try.checked os 4 .any (Rows.fnMergePlanesSpec.pre6 enc Try.prog Try.f4 Rows.fnMergePlanesRow.domain false) (Rows.fnMergePlanesSpec.post enc Try.prog Try.f4 false true false false) := by
  refine returnsInHanded_of_change (C := Try.checked) own started (by kernel_rfl) Try.func4
    (ChangeSpec.witness6 (enc := enc) (C := Try.checked) false ⟨#[], #[.slice none 0 0], []⟩ 8 (by kernel_rfl) (by kernel_rfl) (by kernel_rfl) (by kernel_rfl)) ?_
  intro W base args ds gs before hval0 hW hcnd _
  have hval : ∀ (j : Nat) t v, Try.f4.params[j]? = some t → args[j]? = some v → Value.okWide Try.prog W .any base t v := hval0
  have hW' := hW
  obtain ⟨p, q, hA0, hV, rfl, hfz, hnd⟩ := hW
  have hA : DataW.TrodAll enc Try.prog W 0 (fun _ => true) true Try.f4.params.toList args.toList ds p := hA0
  rw [Try.params4] at hA hval
  obtain ⟨v0, vs0, d0, ds0, p0, q0, hargs, rfl, rfl, h0, r0⟩ := trodAll_cons hA
  obtain ⟨rfl, rfl, rfl⟩ := trodAll_nil r0
  obtain rfl : args = #[v0] := by cases args; simp_all
  obtain ⟨rfl, rfl⟩ := trodVars_none hV
  obtain ⟨a0, len0, cap0, rfl⟩ := okWide_slice Try.underlying22 (hval 0 22 v0 rfl rfl)
  have k0 := h0
  have lt0 : ∀ x ∈ p0, x.block < W.heap.size := by obtain ⟨m, hm⟩ := k0; exact DataW.trod_lt m _ _ _ hm
  obtain ⟨z0, hl0, hc0, w0⟩ : ∃ zs : List Int, len0 = zs.length ∧ zs.length ≤ cap0 ∧ Rdw .u8 W W.heap.size a0 zs := by
    obtain ⟨fuel, hf⟩ := h0
    rcases open_ints Try.underlying22 Try.underlying5 (by kernel_rfl) hf with ⟨hcs, _⟩ | ⟨x, l, c, zs, hcs, _, hl, hm, hz, _, hcell, hwz⟩
    · simp [Value.cells] at hcs
      obtain ⟨rfl, rfl, rfl⟩ := hcs
      exact ⟨[], rfl, Nat.le_refl _, Rdw.nil⟩
    · simp [Value.cells] at hcs
      obtain ⟨rfl, rfl, rfl⟩ := hcs
      exact ⟨zs.take len0, by simp at hz ⊢; omega, by simp at hz ⊢; omega, Rdw.of_row hl hm (by simpa using hz) hcell hwz⟩
  subst hl0
  clear hA0 hval0
  refine (walk W a0 cap0 z0 hc0 w0).mono fun e W' ⟨he, bel⟩ => ?_
  subst he
  exact ⟨_, rfl, _, _, _, [], _, [], hW', trodAll_mk1 (shut_bool Try.underlying4 _), (trodAll_cons_mk (Below.trod laidOut (by kernel_rfl) (of_decide_eq_true (by kernel_rfl)) k0 bel lt0) trodAll_mk0), rfl, bel.frame _, fun h => by cases h⟩

theorem over : Rows.fnMergePlanesRow.holds Try.pinned (OpenSpec.ofChange Rows.fnMergePlanesSpec) :=
  OpenClaim.holds_of_wide 4 Try.f4 rfl rfl rfl rfl rfl rfl rfl ⟨rfl, rfl, rfl, rfl, rfl⟩ rfl rfl rfl rfl rfl (by kernel_rfl) Try.func4 (by kernel_rfl)
    (of_decide_eq_true (by kernel_rfl)) (by unfold Func.isWrapper; first | (rw [if_pos (by decide +kernel)]; kernel_rfl) | (rw [if_neg (by decide +kernel)]; exact ⟨rfl, rfl⟩))
    (fun os started H enc _ => lifted os started H enc)

theorem proved : Rows.FnMergePlanesSaid := over
end Go.Proofs.Ytfeldhhbnhdodaa.fnMergePlanes
