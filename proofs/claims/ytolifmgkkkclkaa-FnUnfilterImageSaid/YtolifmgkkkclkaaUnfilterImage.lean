/- Whatever the code: UnfilterImage of the drawn shape and list answers what the model answers, and where there is an image, it is valid, and UnfilterImage of FilterImage of it is the image. -/
import Derived.Test.YtolifmgkkkclkaaRows
import Derived.WalkKit
import Derived.ProofKit
import Derived.OpenShut
import Derived.ShutString
import Derived.ChangeOld
import Derived.Below
import Derived.Test.YtolifmgkkkclkaaUfL
import Derived.Test.YtolifmgkkkclkaaDrawUfi
import Derived.Deep.QuietTactic
import Derived.BigQuiet
namespace Go.Proofs.Ytolifmgkkkclkaa.fnUnfilterImage
open Go.ChangeShapes Go.WideShapes Go.ChangeAt Go.RowKit
open Go.ChangeMaps (open_string shut_string)
set_option linter.unusedVariables false

set_option maxRecDepth 20000
theorem LSt.box2 {W0 w : World} {R : List (Option Addr × List Int)} {Bs : List Bxs} (h : LSt W0 w R Bs) (T : TypeId) (cs : Array Value) (g : Nat) (hg : g = w.heap.size) : LSt W0 (w.alloc (.cells cs T)) R (⟨g, T, cs⟩ :: Bs) := by
  subst hg; exact h.box T cs
set_option maxHeartbeats 16000000 in
theorem walk (w : World) (a0 : Option Addr) (cap0 : Nat) (z0 : List Int) (hc0 : z0.length ≤ cap0) (w0 : Rdw .u8 w w.heap.size a0 z0) :
    Calls Try.prog 4 #[.slice a0 z0.length cap0] w fun e w' => e = .returned (.bool true) ∧ Below w.heap.size w w' := by
  have hm := w0.2.1
  unfold maxLen at hm
  by_cases hlen : 1048576 < z0.length
  · go_enter Try.func4, Try.ntmps4
    go_wp2
    go_ret
    exact ⟨rfl, Below.refl _ _⟩
  · go_enter Try.func4, Try.ntmps4
    go_wp2_with fail
    refine (drawUfi_any a0 cap0 z0 w hc0 w0).mono ?_
    rintro e u1 ⟨W, H, P, A, c, l, rfl, hx, hxc, hr, hbel⟩
    have S1 : LSt w u1 [(A, l)] [] := (LSt.start hbel).add hr
    obtain ⟨X, Y, Z, ys, ok, hys, HI, HQ, hor⟩ := ufi_law W H P l hx
    clear w0 hr hbel hm
    go_wp2_with fail
    refine (HI.out A c _ ((S1).rds (A := A) (xs := l) (by simp)) hxc).mono ?_
    rintro e u1001 ⟨A1001, c1001, rfl, hc1001, hr1001, hB1001⟩
    have S1001 := (S1.call hB1001).add hr1001
    clear hr1001 hB1001 S1
    have S1002 : LSt w (u1001.alloc (.cells #[.int .i64 X, .int .i64 Y, .int .i64 Z, .slice A1001 ys.length c1001] 25)) [(A1001, ys), (A, l)] [⟨u1001.heap.size, 25, #[.int .i64 X, .int .i64 Y, .int .i64 Z, .slice A1001 ys.length c1001]⟩] := LSt.box2 S1001 25 #[.int .i64 X, .int .i64 Y, .int .i64 Z, .slice A1001 ys.length c1001] u1001.heap.size (by simp)
    go_wp2_with fail
    clear S1001
    generalize u1001.alloc (.cells #[.int .i64 X, .int .i64 Y, .int .i64 Z, .slice A1001 ys.length c1001] 25) = u1003 at *
    refine (HQ.out A c _ ((S1002).rds (A := A) (xs := l) (by simp)) hxc).mono ?_
    rintro e u1004 ⟨A1004, c1004, rfl, hc1004, hr1004, hB1004⟩
    have S1004 := (S1002.call hB1004).add hr1004
    clear hr1004 hB1004 S1002
    have Fmx := S1004.2.2 ⟨u1001.heap.size, 25, #[.int .i64 X, .int .i64 Y, .int .i64 Z, .slice A1001 ys.length c1001]⟩ (by simp)
    have ml : u1001.heap.size < u1004.heap.size := Fmx.lt
    have m0 : u1004.cell? ⟨u1001.heap.size, 0, none⟩ = some (.int .i64 X) := cell_of_row _ _ 0 _ _ _ Fmx
    have m1 : u1004.cell? ⟨u1001.heap.size, 1, none⟩ = some (.int .i64 Y) := cell_of_row _ _ 1 _ _ _ Fmx
    have m2 : u1004.cell? ⟨u1001.heap.size, 2, none⟩ = some (.int .i64 Z) := cell_of_row _ _ 2 _ _ _ Fmx
    have m3 : u1004.cell? ⟨u1001.heap.size, 3, none⟩ = some (.slice A1001 ys.length c1001) := cell_of_row _ _ 3 _ _ _ Fmx
    clear Fmx
    have S1005 : LSt w (u1004.alloc (.cells #[.int .i64 X, .int .i64 Y, .int .i64 Z, .slice A1004 ys.length c1004] 25)) [(A1004, ys), (A1001, ys), (A, l)] [⟨u1004.heap.size, 25, #[.int .i64 X, .int .i64 Y, .int .i64 Z, .slice A1004 ys.length c1004]⟩, ⟨u1001.heap.size, 25, #[.int .i64 X, .int .i64 Y, .int .i64 Z, .slice A1001 ys.length c1001]⟩] := LSt.box2 S1004 25 #[.int .i64 X, .int .i64 Y, .int .i64 Z, .slice A1004 ys.length c1004] u1004.heap.size (by simp)
    go_wp2_with fail
    clear ml m0 m1 m2 m3
    clear S1004
    generalize u1004.alloc (.cells #[.int .i64 X, .int .i64 Y, .int .i64 Z, .slice A1004 ys.length c1004] 25) = u1006 at *
    refine (lEqIm X Y Z ys A1001 A1004 c1001 c1004 _ ((S1005).rds (A := A1001) (xs := ys) (by simp)) ((S1005).rds (A := A1004) (xs := ys) (by simp)) (by omega)).mono ?_
    rintro e u1007 ⟨rfl, hB1007⟩
    have S1007 := S1005.call hB1007
    clear hB1007 S1005
    rcases hor with rfl | ⟨rfl, rfl, rfl, rfl, zs, hz, HF, HU, HV⟩
    · skip
      have Fmx := S1007.2.2 ⟨u1001.heap.size, 25, #[.int .i64 X, .int .i64 Y, .int .i64 Z, .slice A1001 ys.length c1001]⟩ (by simp)
      have ml : u1001.heap.size < u1007.heap.size := Fmx.lt
      have m0 : u1007.cell? ⟨u1001.heap.size, 0, none⟩ = some (.int .i64 X) := cell_of_row _ _ 0 _ _ _ Fmx
      have m1 : u1007.cell? ⟨u1001.heap.size, 1, none⟩ = some (.int .i64 Y) := cell_of_row _ _ 1 _ _ _ Fmx
      have m2 : u1007.cell? ⟨u1001.heap.size, 2, none⟩ = some (.int .i64 Z) := cell_of_row _ _ 2 _ _ _ Fmx
      have m3 : u1007.cell? ⟨u1001.heap.size, 3, none⟩ = some (.slice A1001 ys.length c1001) := cell_of_row _ _ 3 _ _ _ Fmx
      clear Fmx
      have Fox := S1007.2.2 ⟨u1004.heap.size, 25, #[.int .i64 X, .int .i64 Y, .int .i64 Z, .slice A1004 ys.length c1004]⟩ (by simp)
      have ol : u1004.heap.size < u1007.heap.size := Fox.lt
      have o0 : u1007.cell? ⟨u1004.heap.size, 0, none⟩ = some (.int .i64 X) := cell_of_row _ _ 0 _ _ _ Fox
      have o1 : u1007.cell? ⟨u1004.heap.size, 1, none⟩ = some (.int .i64 Y) := cell_of_row _ _ 1 _ _ _ Fox
      have o2 : u1007.cell? ⟨u1004.heap.size, 2, none⟩ = some (.int .i64 Z) := cell_of_row _ _ 2 _ _ _ Fox
      have o3 : u1007.cell? ⟨u1004.heap.size, 3, none⟩ = some (.slice A1004 ys.length c1004) := cell_of_row _ _ 3 _ _ _ Fox
      clear Fox
      go_wp2_with fail
      refine (lEqIm X Y Z ys A1001 A1004 c1001 c1004 _ ((S1007).rds (A := A1001) (xs := ys) (by simp)) ((S1007).rds (A := A1004) (xs := ys) (by simp)) (by omega)).mono ?_
      rintro e u1008 ⟨rfl, hB1008⟩
      have S1008 := S1007.call hB1008
      clear ml m0 m1 m2 m3
      clear ol o0 o1 o2 o3
      clear hB1008 S1007
      go_wp2
      go_ret
      exact ⟨rfl, S1008.1⟩
    · skip
      have Fmx := S1007.2.2 ⟨u1001.heap.size, 25, #[.int .i64 X, .int .i64 Y, .int .i64 Z, .slice A1001 ys.length c1001]⟩ (by simp)
      have ml : u1001.heap.size < u1007.heap.size := Fmx.lt
      have m0 : u1007.cell? ⟨u1001.heap.size, 0, none⟩ = some (.int .i64 X) := cell_of_row _ _ 0 _ _ _ Fmx
      have m1 : u1007.cell? ⟨u1001.heap.size, 1, none⟩ = some (.int .i64 Y) := cell_of_row _ _ 1 _ _ _ Fmx
      have m2 : u1007.cell? ⟨u1001.heap.size, 2, none⟩ = some (.int .i64 Z) := cell_of_row _ _ 2 _ _ _ Fmx
      have m3 : u1007.cell? ⟨u1001.heap.size, 3, none⟩ = some (.slice A1001 ys.length c1001) := cell_of_row _ _ 3 _ _ _ Fmx
      clear Fmx
      go_wp2_with fail
      refine (HF.out A1001 c1001 _ ((S1007).rds (A := A1001) (xs := ys) (by simp)) hc1001).mono ?_
      rintro e u1008 ⟨A1008, c1008, rfl, hc1008, hr1008, hB1008⟩
      have S1008 := (S1007.call hB1008).add hr1008
      clear ml m0 m1 m2 m3
      clear hr1008 hB1008 S1007
      go_wp2_with fail
      refine (HU.out A1008 c1008 _ ((S1008).rds (A := A1008) (xs := zs) (by simp)) hc1008).mono ?_
      rintro e u1009 ⟨A1009, c1009, rfl, hc1009, hr1009, hB1009⟩
      have S1009 := (S1008.call hB1009).add hr1009
      clear hr1009 hB1009 S1008
      have Fmx := S1009.2.2 ⟨u1001.heap.size, 25, #[.int .i64 X, .int .i64 Y, .int .i64 Z, .slice A1001 ys.length c1001]⟩ (by simp)
      have ml : u1001.heap.size < u1009.heap.size := Fmx.lt
      have m0 : u1009.cell? ⟨u1001.heap.size, 0, none⟩ = some (.int .i64 X) := cell_of_row _ _ 0 _ _ _ Fmx
      have m1 : u1009.cell? ⟨u1001.heap.size, 1, none⟩ = some (.int .i64 Y) := cell_of_row _ _ 1 _ _ _ Fmx
      have m2 : u1009.cell? ⟨u1001.heap.size, 2, none⟩ = some (.int .i64 Z) := cell_of_row _ _ 2 _ _ _ Fmx
      have m3 : u1009.cell? ⟨u1001.heap.size, 3, none⟩ = some (.slice A1001 ys.length c1001) := cell_of_row _ _ 3 _ _ _ Fmx
      clear Fmx
      have S1010 : LSt w (u1009.alloc (.cells #[.int .i64 X, .int .i64 Y, .int .i64 Z, .slice A1009 ys.length c1009] 25)) [(A1009, ys), (A1008, zs), (A1004, ys), (A1001, ys), (A, l)] [⟨u1009.heap.size, 25, #[.int .i64 X, .int .i64 Y, .int .i64 Z, .slice A1009 ys.length c1009]⟩, ⟨u1004.heap.size, 25, #[.int .i64 X, .int .i64 Y, .int .i64 Z, .slice A1004 ys.length c1004]⟩, ⟨u1001.heap.size, 25, #[.int .i64 X, .int .i64 Y, .int .i64 Z, .slice A1001 ys.length c1001]⟩] := LSt.box2 S1009 25 #[.int .i64 X, .int .i64 Y, .int .i64 Z, .slice A1009 ys.length c1009] u1009.heap.size (by simp)
      go_wp2_with fail
      clear ml m0 m1 m2 m3
      clear S1009
      generalize u1009.alloc (.cells #[.int .i64 X, .int .i64 Y, .int .i64 Z, .slice A1009 ys.length c1009] 25) = u1011 at *
      refine (HV.out A1001 c1001 _ ((S1010).rds (A := A1001) (xs := ys) (by simp))).mono ?_
      rintro e u1012 ⟨rfl, hB1012⟩
      have S1012 := S1010.call hB1012
      clear hB1012 S1010
      have Fmx := S1012.2.2 ⟨u1001.heap.size, 25, #[.int .i64 X, .int .i64 Y, .int .i64 Z, .slice A1001 ys.length c1001]⟩ (by simp)
      have ml : u1001.heap.size < u1012.heap.size := Fmx.lt
      have m0 : u1012.cell? ⟨u1001.heap.size, 0, none⟩ = some (.int .i64 X) := cell_of_row _ _ 0 _ _ _ Fmx
      have m1 : u1012.cell? ⟨u1001.heap.size, 1, none⟩ = some (.int .i64 Y) := cell_of_row _ _ 1 _ _ _ Fmx
      have m2 : u1012.cell? ⟨u1001.heap.size, 2, none⟩ = some (.int .i64 Z) := cell_of_row _ _ 2 _ _ _ Fmx
      have m3 : u1012.cell? ⟨u1001.heap.size, 3, none⟩ = some (.slice A1001 ys.length c1001) := cell_of_row _ _ 3 _ _ _ Fmx
      clear Fmx
      have Fux := S1012.2.2 ⟨u1009.heap.size, 25, #[.int .i64 X, .int .i64 Y, .int .i64 Z, .slice A1009 ys.length c1009]⟩ (by simp)
      have ul : u1009.heap.size < u1012.heap.size := Fux.lt
      have u0 : u1012.cell? ⟨u1009.heap.size, 0, none⟩ = some (.int .i64 X) := cell_of_row _ _ 0 _ _ _ Fux
      have u1 : u1012.cell? ⟨u1009.heap.size, 1, none⟩ = some (.int .i64 Y) := cell_of_row _ _ 1 _ _ _ Fux
      have u2 : u1012.cell? ⟨u1009.heap.size, 2, none⟩ = some (.int .i64 Z) := cell_of_row _ _ 2 _ _ _ Fux
      have u3 : u1012.cell? ⟨u1009.heap.size, 3, none⟩ = some (.slice A1009 ys.length c1009) := cell_of_row _ _ 3 _ _ _ Fux
      clear Fux
      go_wp2_with fail
      refine (lEqIm X Y Z ys A1009 A1001 c1009 c1001 _ ((S1012).rds (A := A1009) (xs := ys) (by simp)) ((S1012).rds (A := A1001) (xs := ys) (by simp)) (by omega)).mono ?_
      rintro e u1013 ⟨rfl, hB1013⟩
      have S1013 := S1012.call hB1013
      clear ml m0 m1 m2 m3
      clear ul u0 u1 u2 u3
      clear hB1013 S1012
      go_wp2
      go_ret
      exact ⟨rfl, S1013.1⟩

/-! ### From the walk to the statement. -/
theorem own : ownKnob Try.prog.godebug = none := by kernel_rfl
theorem laidOut : laidOutB Try.prog = true := by kernel_rfl
set_option maxRecDepth 100000 in
theorem lifted (os : Os) (started : os.Started) (H : Type) (enc : TypeId × Value → H) :
    ReturnsInHanded {} Try.checked os 4 .any (Rows.fnUnfilterImageSpec.pre6 enc Try.prog Try.f4 Rows.fnUnfilterImageRow.domain false) (Rows.fnUnfilterImageSpec.post enc Try.prog Try.f4 false true false false) := by
  refine returnsInHanded_of_change (C := Try.checked) own started (by kernel_rfl) Try.func4
    (ChangeSpec.witness6 (enc := enc) (C := Try.checked) false ⟨#[], #[.slice none 0 0], []⟩ 8 (by kernel_rfl) (by kernel_rfl) (by kernel_rfl) (by kernel_rfl)) ?_
  intro W base args ds gs before hval0 hW hcnd _
  have hval : ∀ (j : Nat) t v, Try.f4.params[j]? = some t → args[j]? = some v → Value.okWide Try.prog W .any base t v := hval0
  have hW' := hW
  obtain ⟨p, q, hA0, hV, rfl, hfz, hnd⟩ := hW
  have hA : DataW.TrodAll enc Try.prog W 0 (fun _ => true) true Try.f4.params.toList args.toList ds p := hA0
  rw [Try.params4] at hA hval
  obtain ⟨v0, vs0, d0, ds0, p0, q0, hargs, rfl, rfl, h0, r0⟩ := trodAll_cons hA
  obtain ⟨rfl, rfl, rfl⟩ := trodAll_nil r0
  obtain rfl : args = #[v0] := by cases args; simp_all
  obtain ⟨rfl, rfl⟩ := trodVars_none hV
  obtain ⟨a0, len0, cap0, rfl⟩ := okWide_slice Try.underlying22 (hval 0 22 v0 rfl rfl)
  have k0 := h0
  have lt0 : ∀ x ∈ p0, x.block < W.heap.size := by obtain ⟨m, hm⟩ := k0; exact DataW.trod_lt m _ _ _ hm
  obtain ⟨z0, hl0, hc0, w0⟩ : ∃ zs : List Int, len0 = zs.length ∧ zs.length ≤ cap0 ∧ Rdw .u8 W W.heap.size a0 zs := by
    obtain ⟨fuel, hf⟩ := h0
    rcases open_ints Try.underlying22 Try.underlying5 (by kernel_rfl) hf with ⟨hcs, _⟩ | ⟨x, l, c, zs, hcs, _, hl, hm, hz, _, hcell, hwz⟩
    · simp [Value.cells] at hcs
      obtain ⟨rfl, rfl, rfl⟩ := hcs
      exact ⟨[], rfl, Nat.le_refl _, Rdw.nil⟩
    · simp [Value.cells] at hcs
      obtain ⟨rfl, rfl, rfl⟩ := hcs
      exact ⟨zs.take len0, by simp at hz ⊢; omega, by simp at hz ⊢; omega, Rdw.of_row hl hm (by simpa using hz) hcell hwz⟩
  subst hl0
  clear hA0 hval0
  refine (walk W a0 cap0 z0 hc0 w0).mono fun e W' ⟨he, bel⟩ => ?_
  subst he
  exact ⟨_, rfl, _, _, _, [], _, [], hW', trodAll_mk1 (shut_bool Try.underlying4 _), (trodAll_cons_mk (Below.trod laidOut (by kernel_rfl) (of_decide_eq_true (by kernel_rfl)) k0 bel lt0) trodAll_mk0), rfl, bel.frame _, fun h => by cases h⟩

theorem over : Rows.fnUnfilterImageRow.holds Try.pinned (OpenSpec.ofChange Rows.fnUnfilterImageSpec) :=
  OpenClaim.holds_of_wide 4 Try.f4 rfl rfl rfl rfl rfl rfl rfl ⟨rfl, rfl, rfl, rfl, rfl⟩ rfl rfl rfl rfl rfl (by kernel_rfl) Try.func4 (by kernel_rfl)
    (of_decide_eq_true (by kernel_rfl)) (by unfold Func.isWrapper; first | (rw [if_pos (by decide +kernel)]; kernel_rfl) | (rw [if_neg (by decide +kernel)]; exact ⟨rfl, rfl⟩))
    (fun os started H enc _ => lifted os started H enc)

theorem proved : Rows.FnUnfilterImageSaid := over
end Go.Proofs.Ytolifmgkkkclkaa.fnUnfilterImage
