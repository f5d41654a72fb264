/- Whatever the code: HistogramOf of the drawn image answers what the model answers, its numbers add up to the number of pixels, and the inverted image has them in reverse. -/
import Derived.Test.YtpjljhboodbmeaaRows
import Derived.WalkKit
import Derived.ProofKit
import Derived.OpenShut
import Derived.ShutString
import Derived.ChangeOld
import Derived.Below
import Derived.Test.YtpjljhboodbmeaaImgHs
import Derived.Test.YtpjljhboodbmeaaDrawHis
import Derived.Deep.QuietTactic
import Derived.BigQuiet
namespace Go.Proofs.Ytpjljhboodbmeaa.fnHistogramOf
open Go.ChangeShapes Go.WideShapes Go.ChangeAt Go.RowKit
open Go.ChangeMaps (open_string shut_string)
set_option linter.unusedVariables false

set_option linter.unusedSimpArgs false
set_option maxRecDepth 20000
set_option maxHeartbeats 16000000 in
theorem walk (w : World) (a0 : Option Addr) (cap0 : Nat) (z0 : List Int) (hc0 : z0.length ≤ cap0) (w0 : Rdw .u8 w w.heap.size a0 z0) :
    Calls Try.prog 7 #[.slice a0 z0.length cap0] w fun e w' => e = .returned (.bool true) ∧ Below w.heap.size w w' := by
  have hm := w0.2.1
  unfold maxLen at hm
  by_cases hlen : 1048576 < z0.length
  · go_enter Try.func7, Try.ntmps7
    go_wp2
    go_ret
    exact ⟨rfl, Below.refl _ _⟩
  · go_enter Try.func7, Try.ntmps7
    go_wp2_with fail
    refine (drawHis_any a0 cap0 z0 w hc0 w0).mono ?_
    rintro e u1 ⟨W, H, P, A, c, xs, rfl, hx, hxc, hr, hbel⟩
    have S1 : LSt w u1 [(A, xs)] [] := (LSt.start hbel).add hr
    obtain ⟨ys, hys, HI, HQ, hor⟩ := his_law W H P xs hx
    clear w0 hr hbel hm
    have S1001 : LSt w (u1.alloc (.cells #[.int .i64 W, .int .i64 H, .int .i64 P, .slice A xs.length c] 26)) [(A, xs)] [⟨u1.heap.size, 26, #[.int .i64 W, .int .i64 H, .int .i64 P, .slice A xs.length c]⟩] := LSt.box2 S1 26 #[.int .i64 W, .int .i64 H, .int .i64 P, .slice A xs.length c] u1.heap.size (by simp)
    go_wp2_with fail
    clear S1
    generalize u1.alloc (.cells #[.int .i64 W, .int .i64 H, .int .i64 P, .slice A xs.length c] 26) = u1002 at *
    refine (HiC.use HI A c _ ((S1001).rds (A := A) (xs := xs) (by simp)) hxc).mono ?_
    rintro e u1003 ⟨A1003, c1003, rfl, hc1003, hr1003, hB1003⟩
    have S1003 := (S1001.call hB1003).add hr1003
    clear hr1003 hB1003 S1001
    have Fmx := S1003.2.2 ⟨u1.heap.size, 26, #[.int .i64 W, .int .i64 H, .int .i64 P, .slice A xs.length c]⟩ (by simp)
    have ml : u1.heap.size < u1003.heap.size := Fmx.lt
    have m0 : u1003.cell? ⟨u1.heap.size, 0, none⟩ = some (.int .i64 W) := cell_of_row _ _ 0 _ _ _ Fmx
    have m1 : u1003.cell? ⟨u1.heap.size, 1, none⟩ = some (.int .i64 H) := cell_of_row _ _ 1 _ _ _ Fmx
    have m2 : u1003.cell? ⟨u1.heap.size, 2, none⟩ = some (.int .i64 P) := cell_of_row _ _ 2 _ _ _ Fmx
    have m3 : u1003.cell? ⟨u1.heap.size, 3, none⟩ = some (.slice A xs.length c) := cell_of_row _ _ 3 _ _ _ Fmx
    clear Fmx
    go_wp2_with fail
    refine (HiC.use HQ A c _ ((S1003).rds (A := A) (xs := xs) (by simp)) hxc).mono ?_
    rintro e u1004 ⟨A1004, c1004, rfl, hc1004, hr1004, hB1004⟩
    have S1004 := (S1003.call hB1004).add hr1004
    clear ml m0 m1 m2 m3
    clear hr1004 hB1004 S1003
    go_wp2_with fail
    refine (lEqInts_same A1003 A1004 c1003 c1004 ys _ ((S1004).rds (A := A1003) (xs := ys) (by simp)) ((S1004).rds (A := A1004) (xs := ys) (by simp)) (by omega)).mono ?_
    rintro e u1005 ⟨rfl, hB1005⟩
    have S1005 := S1004.call hB1005
    clear hB1005 S1004
    rcases hor with ⟨hn0, hn1⟩ | ⟨h256, ⟨hW0, hW1⟩, ⟨hH0, hH1⟩, HB, HSM, X, Y, Z, vs, bs, HV, HVh, hb256, HE⟩
    · have Hn0 := Lib.hid hn0
      clear hn0
      have Fmx := S1005.2.2 ⟨u1.heap.size, 26, #[.int .i64 W, .int .i64 H, .int .i64 P, .slice A xs.length c]⟩ (by simp)
      have ml : u1.heap.size < u1005.heap.size := Fmx.lt
      have m0 : u1005.cell? ⟨u1.heap.size, 0, none⟩ = some (.int .i64 W) := cell_of_row _ _ 0 _ _ _ Fmx
      have m1 : u1005.cell? ⟨u1.heap.size, 1, none⟩ = some (.int .i64 H) := cell_of_row _ _ 1 _ _ _ Fmx
      have m2 : u1005.cell? ⟨u1.heap.size, 2, none⟩ = some (.int .i64 P) := cell_of_row _ _ 2 _ _ _ Fmx
      have m3 : u1005.cell? ⟨u1.heap.size, 3, none⟩ = some (.slice A xs.length c) := cell_of_row _ _ 3 _ _ _ Fmx
      clear Fmx
      go_wp2_with fail
      refine (HiC.use HQ A c _ ((S1005).rds (A := A) (xs := xs) (by simp)) hxc).mono ?_
      rintro e u1006 ⟨A1006, c1006, rfl, hc1006, hr1006, hB1006⟩
      have S1006 := (S1005.call hB1006).add hr1006
      clear ml m0 m1 m2 m3
      clear hr1006 hB1006 S1005
      go_wp2_with fail
      refine (lEqInts_same A1003 A1006 c1003 c1006 ys _ ((S1006).rds (A := A1003) (xs := ys) (by simp)) ((S1006).rds (A := A1006) (xs := ys) (by simp)) (by omega)).mono ?_
      rintro e u1007 ⟨rfl, hB1007⟩
      have S1007 := S1006.call hB1007
      clear hB1007 S1006
      go_wp2
      go_ret
      exact ⟨rfl, S1007.1⟩
    · have n256 : (ys.length : Int) = 256 := by omega
      have m256 : (bs.length : Int) = 256 := by omega
      have N256 := Lib.hid h256
      have M256 := Lib.hid hb256
      have HWH : Hid ((1 ≤ W ∧ W ≤ 16) ∧ 1 ≤ H ∧ H ≤ 16) := Lib.hid ⟨⟨hW0, hW1⟩, hH0, hH1⟩
      clear h256 hb256 hW0 hW1 hH0 hH1
      have Fmx := S1005.2.2 ⟨u1.heap.size, 26, #[.int .i64 W, .int .i64 H, .int .i64 P, .slice A xs.length c]⟩ (by simp)
      have ml : u1.heap.size < u1005.heap.size := Fmx.lt
      have m0 : u1005.cell? ⟨u1.heap.size, 0, none⟩ = some (.int .i64 W) := cell_of_row _ _ 0 _ _ _ Fmx
      have m1 : u1005.cell? ⟨u1.heap.size, 1, none⟩ = some (.int .i64 H) := cell_of_row _ _ 1 _ _ _ Fmx
      have m2 : u1005.cell? ⟨u1.heap.size, 2, none⟩ = some (.int .i64 P) := cell_of_row _ _ 2 _ _ _ Fmx
      have m3 : u1005.cell? ⟨u1.heap.size, 3, none⟩ = some (.slice A xs.length c) := cell_of_row _ _ 3 _ _ _ Fmx
      clear Fmx
      go_wp2_with fail
      refine (ImC0.use HV A c _ ((S1005).rds (A := A) (xs := xs) (by simp)) hxc).mono ?_
      rintro e u1006 ⟨A1006, c1006, rfl, hc1006, hr1006, hB1006⟩
      have S1006 := (S1005.call hB1006).add hr1006
      clear ml m0 m1 m2 m3
      clear hr1006 hB1006 S1005
      go_wp2_with fail
      refine (HiC.use HVh A1006 c1006 _ ((S1006).rds (A := A1006) (xs := vs) (by simp)) hc1006).mono ?_
      rintro e u1007 ⟨A1007, c1007, rfl, hc1007, hr1007, hB1007⟩
      have S1007 := (S1006.call hB1007).add hr1007
      clear hr1007 hB1007 S1006
      have HI0 := Lib.hid S1007
      clear S1007
      go_wp2
      go_loopw [6] (fun i wr => ∃ k : Nat, k ≤ 256 ∧ i = .int .i64 k ∧ Hid (LSt w wr [(A1007, bs), (A1006, vs), (A1004, ys), (A1003, ys), (A, xs)] [⟨u1.heap.size, 26, #[.int .i64 W, .int .i64 H, .int .i64 P, .slice A xs.length c]⟩])) (fun i _ => 256 - (intOf i).toNat)
      case atStart => exact ⟨0, Nat.zero_le _, rfl, HI0⟩
      case round =>
        obtain ⟨k, hk, rfl, hI⟩ := hrel
        clear HI0
        by_cases hlt : k < 256
        · obtain ⟨b1, f1, rfl, hb1, hc1⟩ := (hI.out.rds (A := A1003) (xs := ys) (by simp)).cells_ (j := k) (by have := N256.out; omega)
          obtain ⟨b2, f2, rfl, hb2, hc2⟩ := (hI.out.rds (A := A1007) (xs := bs) (by simp)).cells_ (j := 255 - k) (by have := M256.out; omega)
          have c1 : wr.cell? ⟨b1, f1 + k, none⟩ = _ := hc1 k (by have := N256.out; omega)
          have c2 : wr.cell? ⟨b2, f2 + (255 - k), none⟩ = _ := hc2 (255 - k) (by have := M256.out; omega)
          rw [HE.out k hlt] at c2
          have HN := Lib.hid hI.out
          clear hc1 hc2 hI
          generalize ys.getD k 0 = z at *
          have k1 : IntKind.i64.wrap (255 - (k : Int)) = 255 - (k : Int) := IntWalk.i64_in _ (by omega)
          have t1 : (255 - (k : Int)).toNat = 255 - k := by omega
          have p1 : (0 : Int) ≤ 255 - (k : Int) := by omega
          have q1 : 255 - (k : Int) < (bs.length : Int) := by omega
          have q2 : (k : Int) < (ys.length : Int) := by omega
          have q3 : 255 - (k : Int) < 256 := by omega
          go_wp2
          go_quiet (fail)
          go_wp2
          go_roundw
          case rel => exact ⟨k + 1, by omega, by go_num, Lib.hid (HN.out.drewN _)⟩
          case measure => simp [intOf]; omega
        · have hk' : k = 256 := by omega
          subst hk'
          have FM := hI.out.2.2 ⟨u1.heap.size, 26, #[.int .i64 W, .int .i64 H, .int .i64 P, .slice A xs.length c]⟩ (by simp)
          have ml := FM.lt
          have m0 : wr.cell? ⟨u1.heap.size, 0, none⟩ = some (.int .i64 W) := cell_of_row _ _ 0 _ _ _ FM
          have m1 : wr.cell? ⟨u1.heap.size, 1, none⟩ = some (.int .i64 H) := cell_of_row _ _ 1 _ _ _ FM
          have HN := Lib.hid hI.out
          have HF := Lib.hid hI.out.1
          have hq : IntKind.i64.wrap (W * H) = W * H := IntWalk.i64_in _ (by have := HWH.out; have h1 : 0 ≤ W * H := Int.mul_nonneg (by omega) (by omega); have h2 : W * H ≤ 16 * 16 := Int.mul_le_mul (by omega) (by omega) (by omega) (by omega); omega)
          clear FM hI
          go_wp2
          have HSU : Hid (∀ w' : World, Rds .i64 w' w'.heap.size A1003 ys → Calls Try.prog 34 #[.slice A1003 ys.length c1003] w' fun e w'' => e = .returned (.int .i64 (W * H)) ∧ w'' = w') := Lib.hid fun w' hr => (sum_any A1003 c1003 ys w' hr (by have := N256.out; omega) HB.out).mono fun _ _ h => ⟨by rw [h.1, HSM.out], h.2⟩
          go_quiet ((go_at_call 34; exact Calls.quiet_of_same (HSU.out _ ((HN.out.drewN _).rds (A := A1003) (xs := ys) (by simp)))))
          go_wp2
          go_ret
          exact ⟨rfl, (HN.out.drewN _).1⟩

/-! ### From the walk to the statement. -/
theorem own : ownKnob Try.prog.godebug = none := by kernel_rfl
theorem laidOut : laidOutB Try.prog = true := by kernel_rfl
set_option maxRecDepth 100000 in
theorem lifted (os : Os) (started : os.Started) (H : Type) (enc : TypeId × Value → H) :
    ReturnsInHanded {} Try.checked os 7 .any (Rows.fnHistogramOfSpec.pre6 enc Try.prog Try.f7 Rows.fnHistogramOfRow.domain false) (Rows.fnHistogramOfSpec.post enc Try.prog Try.f7 false true false false) := by
  refine returnsInHanded_of_change (C := Try.checked) own started (by kernel_rfl) Try.func7
    (ChangeSpec.witness6 (enc := enc) (C := Try.checked) false ⟨#[], #[.slice none 0 0], []⟩ 8 (by kernel_rfl) (by kernel_rfl) (by kernel_rfl) (by kernel_rfl)) ?_
  intro W base args ds gs before hval0 hW hcnd _
  have hval : ∀ (j : Nat) t v, Try.f7.params[j]? = some t → args[j]? = some v → Value.okWide Try.prog W .any base t v := hval0
  have hW' := hW
  obtain ⟨p, q, hA0, hV, rfl, hfz, hnd⟩ := hW
  have hA : DataW.TrodAll enc Try.prog W 0 (fun _ => true) true Try.f7.params.toList args.toList ds p := hA0
  rw [Try.params7] at hA hval
  obtain ⟨v0, vs0, d0, ds0, p0, q0, hargs, rfl, rfl, h0, r0⟩ := trodAll_cons hA
  obtain ⟨rfl, rfl, rfl⟩ := trodAll_nil r0
  obtain rfl : args = #[v0] := by cases args; simp_all
  obtain ⟨rfl, rfl⟩ := trodVars_none hV
  obtain ⟨a0, len0, cap0, rfl⟩ := okWide_slice Try.underlying38 (hval 0 38 v0 rfl rfl)
  have k0 := h0
  have lt0 : ∀ x ∈ p0, x.block < W.heap.size := by obtain ⟨m, hm⟩ := k0; exact DataW.trod_lt m _ _ _ hm
  obtain ⟨z0, hl0, hc0, w0⟩ : ∃ zs : List Int, len0 = zs.length ∧ zs.length ≤ cap0 ∧ Rdw .u8 W W.heap.size a0 zs := by
    obtain ⟨fuel, hf⟩ := h0
    rcases open_ints Try.underlying38 Try.underlying5 (by kernel_rfl) hf with ⟨hcs, _⟩ | ⟨x, l, c, zs, hcs, _, hl, hm, hz, _, hcell, hwz⟩
    · simp [Value.cells] at hcs
      obtain ⟨rfl, rfl, rfl⟩ := hcs
      exact ⟨[], rfl, Nat.le_refl _, Rdw.nil⟩
    · simp [Value.cells] at hcs
      obtain ⟨rfl, rfl, rfl⟩ := hcs
      exact ⟨zs.take len0, by simp at hz ⊢; omega, by simp at hz ⊢; omega, Rdw.of_row hl hm (by simpa using hz) hcell hwz⟩
  subst hl0
  clear hA0 hval0
  refine (walk W a0 cap0 z0 hc0 w0).mono fun e W' ⟨he, bel⟩ => ?_
  subst he
  exact ⟨_, rfl, _, _, _, [], _, [], hW', trodAll_mk1 (shut_bool Try.underlying4 _), (trodAll_cons_mk (Below.trod laidOut (by kernel_rfl) (of_decide_eq_true (by kernel_rfl)) k0 bel lt0) trodAll_mk0), rfl, bel.frame _, fun h => by cases h⟩

theorem over : Rows.fnHistogramOfRow.holds Try.pinned (OpenSpec.ofChange Rows.fnHistogramOfSpec) :=
  OpenClaim.holds_of_wide 7 Try.f7 rfl rfl rfl rfl rfl rfl rfl ⟨rfl, rfl, rfl, rfl, rfl⟩ rfl rfl rfl rfl rfl (by kernel_rfl) Try.func7 (by kernel_rfl)
    (of_decide_eq_true (by kernel_rfl)) (by unfold Func.isWrapper; first | (rw [if_pos (by decide +kernel)]; kernel_rfl) | (rw [if_neg (by decide +kernel)]; exact ⟨rfl, rfl⟩))
    (fun os started H enc _ => lifted os started H enc)

theorem proved : Rows.FnHistogramOfSaid := over
end Go.Proofs.Ytpjljhboodbmeaa.fnHistogramOf
