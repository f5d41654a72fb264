/- Whatever the code: FilterImage of the drawn image answers what the model answers, and where there are rows, UnfilterImage of them is the image, and there are as many numbers as the image and its filters have. -/
import Derived.Test.YtolifmgkkkclkaaRows
import Derived.WalkKit
import Derived.ProofKit
import Derived.OpenShut
import Derived.ShutString
import Derived.ChangeOld
import Derived.Below
import Derived.Test.YtolifmgkkkclkaaUfL
import Derived.Test.YtolifmgkkkclkaaDrawImg2
import Derived.Deep.QuietTactic
import Derived.BigQuiet
namespace Go.Proofs.Ytolifmgkkkclkaa.fnFilterImage
open Go.ChangeShapes Go.WideShapes Go.ChangeAt Go.RowKit
open Go.ChangeMaps (open_string shut_string)
set_option linter.unusedVariables false

set_option maxRecDepth 20000
theorem LSt.box2 {W0 w : World} {R : List (Option Addr × List Int)} {Bs : List Bxs} (h : LSt W0 w R Bs) (T : TypeId) (cs : Array Value) (g : Nat) (hg : g = w.heap.size) : LSt W0 (w.alloc (.cells cs T)) R (⟨g, T, cs⟩ :: Bs) := by
  subst hg; exact h.box T cs
set_option maxHeartbeats 16000000 in
theorem walk (w : World) (a0 : Option Addr) (cap0 : Nat) (z0 : List Int) (hc0 : z0.length ≤ cap0) (w0 : Rdw .u8 w w.heap.size a0 z0) :
    Calls Try.prog 3 #[.slice a0 z0.length cap0] w fun e w' => e = .returned (.bool true) ∧ Below w.heap.size w w' := by
  have hm := w0.2.1
  unfold maxLen at hm
  by_cases hlen : 1048576 < z0.length
  · go_enter Try.func3, Try.ntmps3
    go_wp2
    go_ret
    exact ⟨rfl, Below.refl _ _⟩
  · go_enter Try.func3, Try.ntmps3
    go_wp2_with fail
    refine (drawFli_any a0 cap0 z0 w hc0 w0).mono ?_
    rintro e u1 ⟨W, H, P, A, c, xs, rfl, hx, hxc, hr, hbel⟩
    have S1 : LSt w u1 [(A, xs)] [] := (LSt.start hbel).add hr
    obtain ⟨ys, hys, HI, HQ, hor⟩ := fli_law W H P xs hx
    clear w0 hr hbel hm
    have S1001 : LSt w (u1.alloc (.cells #[.int .i64 W, .int .i64 H, .int .i64 P, .slice A xs.length c] 25)) [(A, xs)] [⟨u1.heap.size, 25, #[.int .i64 W, .int .i64 H, .int .i64 P, .slice A xs.length c]⟩] := LSt.box2 S1 25 #[.int .i64 W, .int .i64 H, .int .i64 P, .slice A xs.length c] u1.heap.size (by simp)
    go_wp2_with fail
    clear S1
    generalize u1.alloc (.cells #[.int .i64 W, .int .i64 H, .int .i64 P, .slice A xs.length c] 25) = u1002 at *
    refine (HI.out A c _ ((S1001).rds (A := A) (xs := xs) (by simp)) hxc).mono ?_
    rintro e u1003 ⟨A1003, c1003, rfl, hc1003, hr1003, hB1003⟩
    have S1003 := (S1001.call hB1003).add hr1003
    clear hr1003 hB1003 S1001
    have Fmx := S1003.2.2 ⟨u1.heap.size, 25, #[.int .i64 W, .int .i64 H, .int .i64 P, .slice A xs.length c]⟩ (by simp)
    have ml : u1.heap.size < u1003.heap.size := Fmx.lt
    have m0 : u1003.cell? ⟨u1.heap.size, 0, none⟩ = some (.int .i64 W) := cell_of_row _ _ 0 _ _ _ Fmx
    have m1 : u1003.cell? ⟨u1.heap.size, 1, none⟩ = some (.int .i64 H) := cell_of_row _ _ 1 _ _ _ Fmx
    have m2 : u1003.cell? ⟨u1.heap.size, 2, none⟩ = some (.int .i64 P) := cell_of_row _ _ 2 _ _ _ Fmx
    have m3 : u1003.cell? ⟨u1.heap.size, 3, none⟩ = some (.slice A xs.length c) := cell_of_row _ _ 3 _ _ _ Fmx
    clear Fmx
    go_wp2_with fail
    refine (HQ.out A c _ ((S1003).rds (A := A) (xs := xs) (by simp)) hxc).mono ?_
    rintro e u1004 ⟨A1004, c1004, rfl, hc1004, hr1004, hB1004⟩
    have S1004 := (S1003.call hB1004).add hr1004
    clear ml m0 m1 m2 m3
    clear hr1004 hB1004 S1003
    go_wp2_with fail
    refine (lEqInts_same A1003 A1004 c1003 c1004 _ _ ((S1004).rds (A := A1003) (xs := ys) (by simp)) ((S1004).rds (A := A1004) (xs := ys) (by simp)) (by omega)).mono ?_
    rintro e u1005 ⟨rfl, hB1005⟩
    have S1005 := S1004.call hB1005
    clear hB1005 S1004
    rcases hor with hn | ⟨a, b, d, rfl, rfl, rfl, ha, hb, hd, h0, hlen, HU⟩
    · have hz : ((ys.length : Int) == 0) = true := by rw [hn]; rfl
      clear hn
      have Fmx := S1005.2.2 ⟨u1.heap.size, 25, #[.int .i64 W, .int .i64 H, .int .i64 P, .slice A xs.length c]⟩ (by simp)
      have ml : u1.heap.size < u1005.heap.size := Fmx.lt
      have m0 : u1005.cell? ⟨u1.heap.size, 0, none⟩ = some (.int .i64 W) := cell_of_row _ _ 0 _ _ _ Fmx
      have m1 : u1005.cell? ⟨u1.heap.size, 1, none⟩ = some (.int .i64 H) := cell_of_row _ _ 1 _ _ _ Fmx
      have m2 : u1005.cell? ⟨u1.heap.size, 2, none⟩ = some (.int .i64 P) := cell_of_row _ _ 2 _ _ _ Fmx
      have m3 : u1005.cell? ⟨u1.heap.size, 3, none⟩ = some (.slice A xs.length c) := cell_of_row _ _ 3 _ _ _ Fmx
      clear Fmx
      go_wp2_with fail
      refine (HQ.out A c _ ((S1005).rds (A := A) (xs := xs) (by simp)) hxc).mono ?_
      rintro e u1006 ⟨A1006, c1006, rfl, hc1006, hr1006, hB1006⟩
      have S1006 := (S1005.call hB1006).add hr1006
      clear ml m0 m1 m2 m3
      clear hr1006 hB1006 S1005
      go_wp2_with fail
      refine (lEqInts_same A1003 A1006 c1003 c1006 _ _ ((S1006).rds (A := A1003) (xs := ys) (by simp)) ((S1006).rds (A := A1006) (xs := ys) (by simp)) (by omega)).mono ?_
      rintro e u1007 ⟨rfl, hB1007⟩
      have S1007 := S1006.call hB1007
      clear hB1007 S1006
      go_wp2
      go_ret
      exact ⟨rfl, S1007.1⟩
    · skip
      have hz : ((ys.length : Int) == 0) = false := beq_eq_false_iff_ne.2 (by omega)
      have Hlen := Lib.hid hlen
      clear hlen
      have Fmx := S1005.2.2 ⟨u1.heap.size, 25, #[.int .i64 (a : Int), .int .i64 (b : Int), .int .i64 (d : Int), .slice A xs.length c]⟩ (by simp)
      have ml : u1.heap.size < u1005.heap.size := Fmx.lt
      have m0 : u1005.cell? ⟨u1.heap.size, 0, none⟩ = some (.int .i64 (a : Int)) := cell_of_row _ _ 0 _ _ _ Fmx
      have m1 : u1005.cell? ⟨u1.heap.size, 1, none⟩ = some (.int .i64 (b : Int)) := cell_of_row _ _ 1 _ _ _ Fmx
      have m2 : u1005.cell? ⟨u1.heap.size, 2, none⟩ = some (.int .i64 (d : Int)) := cell_of_row _ _ 2 _ _ _ Fmx
      have m3 : u1005.cell? ⟨u1.heap.size, 3, none⟩ = some (.slice A xs.length c) := cell_of_row _ _ 3 _ _ _ Fmx
      clear Fmx
      go_wp2_with fail
      refine (HU.out A1003 c1003 _ ((S1005).rds (A := A1003) (xs := ys) (by simp)) hc1003).mono ?_
      rintro e u1006 ⟨A1006, c1006, rfl, hc1006, hr1006, hB1006⟩
      have S1006 := (S1005.call hB1006).add hr1006
      clear ml m0 m1 m2 m3
      clear hr1006 hB1006 S1005
      have Fmx := S1006.2.2 ⟨u1.heap.size, 25, #[.int .i64 (a : Int), .int .i64 (b : Int), .int .i64 (d : Int), .slice A xs.length c]⟩ (by simp)
      have ml : u1.heap.size < u1006.heap.size := Fmx.lt
      have m0 : u1006.cell? ⟨u1.heap.size, 0, none⟩ = some (.int .i64 (a : Int)) := cell_of_row _ _ 0 _ _ _ Fmx
      have m1 : u1006.cell? ⟨u1.heap.size, 1, none⟩ = some (.int .i64 (b : Int)) := cell_of_row _ _ 1 _ _ _ Fmx
      have m2 : u1006.cell? ⟨u1.heap.size, 2, none⟩ = some (.int .i64 (d : Int)) := cell_of_row _ _ 2 _ _ _ Fmx
      have m3 : u1006.cell? ⟨u1.heap.size, 3, none⟩ = some (.slice A xs.length c) := cell_of_row _ _ 3 _ _ _ Fmx
      clear Fmx
      have S1007 : LSt w (u1006.alloc (.cells #[.int .i64 (a : Int), .int .i64 (b : Int), .int .i64 (d : Int), .slice A1006 xs.length c1006] 25)) [(A1006, xs), (A1004, ys), (A1003, ys), (A, xs)] [⟨u1006.heap.size, 25, #[.int .i64 (a : Int), .int .i64 (b : Int), .int .i64 (d : Int), .slice A1006 xs.length c1006]⟩, ⟨u1.heap.size, 25, #[.int .i64 (a : Int), .int .i64 (b : Int), .int .i64 (d : Int), .slice A xs.length c]⟩] := LSt.box2 S1006 25 #[.int .i64 (a : Int), .int .i64 (b : Int), .int .i64 (d : Int), .slice A1006 xs.length c1006] u1006.heap.size (by simp)
      go_wp2_with fail
      clear ml m0 m1 m2 m3
      clear S1006
      generalize u1006.alloc (.cells #[.int .i64 (a : Int), .int .i64 (b : Int), .int .i64 (d : Int), .slice A1006 xs.length c1006] 25) = u1008 at *
      refine (lEqIm (a : Int) (b : Int) (d : Int) xs A1006 A c1006 c _ ((S1007).rds (A := A1006) (xs := xs) (by simp)) ((S1007).rds (A := A) (xs := xs) (by simp)) (by omega)).mono ?_
      rintro e u1009 ⟨rfl, hB1009⟩
      have S1009 := S1007.call hB1009
      clear hB1009 S1007
      obtain ⟨n, hn⟩ : ∃ n, n = a * d := ⟨_, rfl⟩
      have hn64 : n ≤ 64 := by rw [hn]; exact Nat.mul_le_mul ha hd
      have hnI : (n : Int) + 1 = ((n + 1 : Nat) : Int) := by simp
      have i1 : (a : Int) * (d : Int) = (n : Int) := by rw [hn]; simp
      have i2 : (b : Int) * ((n : Int) + 1) = (ys.length : Int) := by rw [Hlen.out, ← hn, hnI]; simp
      have q0 : IntKind.i64.wrap (n : Int) = (n : Int) := IntWalk.i64_in _ (by omega)
      have q1 : IntKind.i64.wrap ((n : Int) + 1) = (n : Int) + 1 := IntWalk.i64_in _ (by omega)
      have q2 : IntKind.i64.wrap (ys.length : Int) = (ys.length : Int) := IntWalk.i64_in _ (by omega)
      clear hnI hn
      have Fmx := S1009.2.2 ⟨u1.heap.size, 25, #[.int .i64 (a : Int), .int .i64 (b : Int), .int .i64 (d : Int), .slice A xs.length c]⟩ (by simp)
      have ml : u1.heap.size < u1009.heap.size := Fmx.lt
      have m0 : u1009.cell? ⟨u1.heap.size, 0, none⟩ = some (.int .i64 (a : Int)) := cell_of_row _ _ 0 _ _ _ Fmx
      have m1 : u1009.cell? ⟨u1.heap.size, 1, none⟩ = some (.int .i64 (b : Int)) := cell_of_row _ _ 1 _ _ _ Fmx
      have m2 : u1009.cell? ⟨u1.heap.size, 2, none⟩ = some (.int .i64 (d : Int)) := cell_of_row _ _ 2 _ _ _ Fmx
      have m3 : u1009.cell? ⟨u1.heap.size, 3, none⟩ = some (.slice A xs.length c) := cell_of_row _ _ 3 _ _ _ Fmx
      clear Fmx
      go_wp2
      go_ret
      exact ⟨rfl, S1009.1⟩

/-! ### From the walk to the statement. -/
theorem own : ownKnob Try.prog.godebug = none := by kernel_rfl
theorem laidOut : laidOutB Try.prog = true := by kernel_rfl
set_option maxRecDepth 100000 in
theorem lifted (os : Os) (started : os.Started) (H : Type) (enc : TypeId × Value → H) :
    ReturnsInHanded {} Try.checked os 3 .any (Rows.fnFilterImageSpec.pre6 enc Try.prog Try.f3 Rows.fnFilterImageRow.domain false) (Rows.fnFilterImageSpec.post enc Try.prog Try.f3 false true false false) := by
  refine returnsInHanded_of_change (C := Try.checked) own started (by kernel_rfl) Try.func3
    (ChangeSpec.witness6 (enc := enc) (C := Try.checked) false ⟨#[], #[.slice none 0 0], []⟩ 8 (by kernel_rfl) (by kernel_rfl) (by kernel_rfl) (by kernel_rfl)) ?_
  intro W base args ds gs before hval0 hW hcnd _
  have hval : ∀ (j : Nat) t v, Try.f3.params[j]? = some t → args[j]? = some v → Value.okWide Try.prog W .any base t v := hval0
  have hW' := hW
  obtain ⟨p, q, hA0, hV, rfl, hfz, hnd⟩ := hW
  have hA : DataW.TrodAll enc Try.prog W 0 (fun _ => true) true Try.f3.params.toList args.toList ds p := hA0
  rw [Try.params3] at hA hval
  obtain ⟨v0, vs0, d0, ds0, p0, q0, hargs, rfl, rfl, h0, r0⟩ := trodAll_cons hA
  obtain ⟨rfl, rfl, rfl⟩ := trodAll_nil r0
  obtain rfl : args = #[v0] := by cases args; simp_all
  obtain ⟨rfl, rfl⟩ := trodVars_none hV
  obtain ⟨a0, len0, cap0, rfl⟩ := okWide_slice Try.underlying22 (hval 0 22 v0 rfl rfl)
  have k0 := h0
  have lt0 : ∀ x ∈ p0, x.block < W.heap.size := by obtain ⟨m, hm⟩ := k0; exact DataW.trod_lt m _ _ _ hm
  obtain ⟨z0, hl0, hc0, w0⟩ : ∃ zs : List Int, len0 = zs.length ∧ zs.length ≤ cap0 ∧ Rdw .u8 W W.heap.size a0 zs := by
    obtain ⟨fuel, hf⟩ := h0
    rcases open_ints Try.underlying22 Try.underlying5 (by kernel_rfl) hf with ⟨hcs, _⟩ | ⟨x, l, c, zs, hcs, _, hl, hm, hz, _, hcell, hwz⟩
    · simp [Value.cells] at hcs
      obtain ⟨rfl, rfl, rfl⟩ := hcs
      exact ⟨[], rfl, Nat.le_refl _, Rdw.nil⟩
    · simp [Value.cells] at hcs
      obtain ⟨rfl, rfl, rfl⟩ := hcs
      exact ⟨zs.take len0, by simp at hz ⊢; omega, by simp at hz ⊢; omega, Rdw.of_row hl hm (by simpa using hz) hcell hwz⟩
  subst hl0
  clear hA0 hval0
  refine (walk W a0 cap0 z0 hc0 w0).mono fun e W' ⟨he, bel⟩ => ?_
  subst he
  exact ⟨_, rfl, _, _, _, [], _, [], hW', trodAll_mk1 (shut_bool Try.underlying4 _), (trodAll_cons_mk (Below.trod laidOut (by kernel_rfl) (of_decide_eq_true (by kernel_rfl)) k0 bel lt0) trodAll_mk0), rfl, bel.frame _, fun h => by cases h⟩

theorem over : Rows.fnFilterImageRow.holds Try.pinned (OpenSpec.ofChange Rows.fnFilterImageSpec) :=
  OpenClaim.holds_of_wide 3 Try.f3 rfl rfl rfl rfl rfl rfl rfl ⟨rfl, rfl, rfl, rfl, rfl⟩ rfl rfl rfl rfl rfl (by kernel_rfl) Try.func3 (by kernel_rfl)
    (of_decide_eq_true (by kernel_rfl)) (by unfold Func.isWrapper; first | (rw [if_pos (by decide +kernel)]; kernel_rfl) | (rw [if_neg (by decide +kernel)]; exact ⟨rfl, rfl⟩))
    (fun os started H enc _ => lifted os started H enc)

theorem proved : Rows.FnFilterImageSaid := over
end Go.Proofs.Ytolifmgkkkclkaa.fnFilterImage
