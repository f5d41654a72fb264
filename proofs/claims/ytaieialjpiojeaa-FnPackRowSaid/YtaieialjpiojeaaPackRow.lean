/- Whatever the code: PackRow of what is drawn from it answers what the model answers, and UnpackRow of packed bytes, if there are any, is the row. -/
import Derived.Test.YtaieialjpiojeaaRows
import Derived.WalkKit
import Derived.ProofKit
import Derived.OpenShut
import Derived.ShutString
import Derived.ChangeOld
import Derived.Below
import Derived.Test.YtaieialjpiojeaaUnpackI
import Derived.Test.YtaieialjpiojeaaDrawPack
import Derived.Test.YtaieialjpiojeaaExact
namespace Go.Proofs.Ytaieialjpiojeaa.fnPackRow
open Go.ChangeShapes Go.WideShapes Go.ChangeAt Go.RowKit
open Go.ChangeMaps (open_string shut_string)
set_option linter.unusedVariables false

theorem div_low (q r : Int) (a b : Nat) (h0 : 0 ≤ r) (h1 : r < 2 ^ a) : (q * 2 ^ a + r) / 2 ^ (a + b) = (q * 2 ^ a) / 2 ^ (a + b) := by
  have hp : (0 : Int) < 2 ^ a := pow_pos' a
  rw [Int.pow_add, ← Int.ediv_ediv_of_nonneg (Int.le_of_lt hp), ← Int.ediv_ediv_of_nonneg (Int.le_of_lt hp), Int.mul_ediv_cancel _ (by omega), Int.add_comm, Int.add_mul_ediv_right _ _ (by omega), Int.ediv_eq_zero_of_lt h0 h1, Int.zero_add]
theorem un_bt {D : Nat} (hD : Dep D) {xs : List Int} (hx : Fits D xs) (i k : Nat) (hk : i < k) : bt D xs k (i * D / 8) / 2 ^ (8 - D - i * D % 8) % 2 ^ D = xs.getD i 0 := by
  induction k with
  | zero => omega
  | succ k ih =>
    have hxi := hx.get i
    have hpD : (0 : Int) < 2 ^ D := pow_pos' D
    by_cases e : i = k
    · subst e
      obtain ⟨q, h1, _, _⟩ := bt_last hD hx i
      have hr := dep_room hD i
      have hm : (0 : Int) < 2 ^ (8 - D - i * D % 8) := pow_pos' _
      simp only [bt]
      rw [if_pos trivial, h1, show 8 - i * D % 8 = D + (8 - D - i * D % 8) by omega, Int.pow_add, ← Int.mul_assoc]
      unfold sh
      rw [← Int.add_mul, Int.mul_ediv_cancel _ (by omega), Int.add_comm, Int.add_mul_emod_self_right]
      exact Int.emod_eq_of_lt hxi.1 hxi.2
    · have h := ih (by omega)
      simp only [bt]
      by_cases hj : k * D / 8 = i * D / 8
      · rw [if_pos hj]
        obtain ⟨q, h1, _, _⟩ := bt_last hD hx k
        have hs := sh_small hD hx k
        rw [hj] at h1
        have hle : i * D + D ≤ k * D := by
          have := Nat.mul_le_mul_right D (show i + 1 ≤ k by omega)
          rw [succ_mul'] at this
          exact this
        have hr := dep_room hD k
        have hi := dep_room hD i
        rw [h1] at h ⊢
        obtain ⟨b, hb⟩ : ∃ b, 8 - D - i * D % 8 = (8 - k * D % 8) + b := ⟨8 - D - i * D % 8 - (8 - k * D % 8), by omega⟩
        rw [hb] at h ⊢
        rw [div_low q _ _ b hs.1 hs.2]
        exact h
      · rw [if_neg hj, Int.add_zero]
        exact h
theorem uns_pk {D : Nat} (hD : Dep D) {xs : List Int} (hx : Fits D xs) : uns D (pk D xs) xs.length = xs := by
  apply List.ext_getElem?
  intro i
  rcases Nat.lt_or_ge i xs.length with hi | hi
  · have hidx : i * D / 8 < sz D xs.length := by
      have := Nat.mul_le_mul_right D (show i + 1 ≤ xs.length from hi)
      rw [succ_mul'] at this
      have := dep_le hD
      unfold sz
      omega
    have h := un_bt hD hx i xs.length hi
    simp only [uns, List.getElem?_map, List.getElem?_range hi, Option.map_some]
    rw [List.getElem?_eq_getElem hi]
    congr 1
    unfold un
    rw [show (pk D xs).getD (i * D / 8) 0 = bt D xs xs.length (i * D / 8) by simp [pk, pkTo, hidx], h]
    simp [hi]
  · rw [List.getElem?_eq_none (by rw [uns_len]; exact hi), List.getElem?_eq_none hi]
/-- Packed rows can be unpacked. -/
theorem unpacked {xs : List Int} {d : Int} (h : pack xs d ≠ []) : unOk (pack xs d) d xs.length = true ∧ unList (pack xs d) d xs.length = xs ∧ ((pack xs d).length : Int) = ((xs.length : Int) * d + 7) / 8 ∧ ∃ D : Nat, d = D ∧ D ≤ 8 ∧ xs.length ≤ 64 := by
  by_cases hp : vd d = true ∧ xs.length ≤ 64 ∧ allB 0 (2 ^ d.toNat - 1) xs = true
  · obtain ⟨hv, h64, ha⟩ := hp
    obtain ⟨D, rfl, hD⟩ := vd_nat hv
    rw [Int.toNat_natCast] at ha
    have hf := fits_of_allB ha
    have e : pack xs D = pk D xs := pack_fits hD hf h64 hv
    have hl : ((pk D xs).length : Int) = ((xs.length : Int) * (D : Int) + 7) / 8 := by rw [← sz_cast]; unfold pk; rw [pkTo_len]
    have hok : unOk (pk D xs) D xs.length = true := decide_eq_true ⟨hv, by omega, by omega, hl, by rw [Int.toNat_natCast, Int.toNat_natCast, uns_pk hD hf]⟩
    rw [e]
    refine ⟨hok, ?_, hl, D, rfl, (dep_le hD).2, h64⟩
    unfold unList
    rw [if_pos hok, Int.toNat_natCast, Int.toNat_natCast, uns_pk hD hf]
  · exact absurd (if_neg hp) h
theorem pack_len (xs : List Int) (d : Int) : (pack xs d).length ≤ 64 := by
  unfold pack
  split
  · next h =>
    obtain ⟨D, rfl, hD⟩ := vd_nat h.1
    have := dep_le hD
    have := mul_bd xs.length D h.2.1 this.2
    rw [Int.toNat_natCast]
    unfold pk
    rw [pkTo_len]
    unfold sz
    omega
  · simp
set_option maxHeartbeats 8000000 in
theorem walk (w : World) (a0 : Option Addr) (cap0 : Nat) (z0 : List Int) (hc0 : z0.length ≤ cap0) (w0 : Rdw .u8 w w.heap.size a0 z0) :
    Calls Try.prog 12 #[.slice a0 z0.length cap0] w fun e w' => e = .returned (.bool true) ∧ Below w.heap.size w w' := by
  have hm := w0.2.1
  unfold maxLen at hm
  by_cases hlen : 1048576 < z0.length
  · go_enter Try.func12, Try.ntmps12
    go_wp2
    go_ret
    exact ⟨rfl, Below.refl _ _⟩
  · go_enter Try.func12, Try.ntmps12
    go_wp2_with fail
    refine (drawPackRow_any a0 cap0 z0 w hc0 w0).mono ?_
    rintro e w1 ⟨A, c, xs, d, rfl, hx, hd0, hd8, hR, hb⟩
    have HR := Lib.hid hR
    have S0 := St.start w1
    have hpl := pack_len xs d
    clear hR w0
    go_wp2_with fail
    refine (i_PackRow A c xs d w1 HR.out (by omega)).mono ?_
    rintro e w2 ⟨v2, rfl, hO2, hB2⟩
    obtain ⟨A2, c2, rfl, _⟩ := hO2.slice
    have S2 := S0.add hO2 hB2
    clear S0 hO2 hB2
    go_wp2_with fail
    refine (s_PackRow A c xs d w2 (S2.arg HR.out) (by omega)).mono ?_
    rintro e w3 ⟨v3, rfl, hO3, hB3⟩
    obtain ⟨A3, c3, rfl, _⟩ := hO3.slice
    have S3 := S2.add hO3 hB3
    clear S2 hO3 hB3
    go_wp2_with fail
    refine (lEqualInts_any A2 A3 c2 c3 (pack xs d) (pack xs d) _ _ w3 (S3.rds (lo := w1.heap.size) (hi := w2.heap.size) (n := (pack xs d).length) (c := c2) (by simp)) (S3.rds (lo := w2.heap.size) (hi := w3.heap.size) (n := (pack xs d).length) (c := c3) (by simp)) (by omega) (by omega)).mono ?_
    rintro e w4 ⟨rfl, n4, rfl⟩
    have S4 := S3.drewN n4
    clear S3
    generalize hw4 : w3.drewN n4 = w4 at *
    clear hw4
    by_cases h0 : pack xs d = []
    · have h0' : (((pack xs d).length : Int) == 0) = true := by rw [h0]; rfl
      clear h0
      go_wp2_with fail
      refine (s_PackRow A c xs d w4 (S4.arg HR.out) (by omega)).mono ?_
      rintro e w5 ⟨v5, rfl, hO5, hB5⟩
      obtain ⟨A5, c5, rfl, _⟩ := hO5.slice
      have S5 := S4.add hO5 hB5
      clear S4 hO5 hB5
      go_wp2_with fail
      refine (lEqualInts_any A2 A5 c2 c5 (pack xs d) (pack xs d) _ _ w5 (S5.rds (lo := w1.heap.size) (hi := w2.heap.size) (n := (pack xs d).length) (c := c2) (by simp)) (S5.rds (lo := w4.heap.size) (hi := w5.heap.size) (n := (pack xs d).length) (c := c5) (by simp)) (by omega) (by omega)).mono ?_
      rintro e w6 ⟨rfl, n6, rfl⟩
      have S6 := S5.drewN n6
      clear S5
      go_wp2
      go_ret
      exact ⟨by simp, hb.trans (S6.below.mono hb.size)⟩
    · have hne : 0 < (pack xs d).length := List.length_pos_iff.2 h0
      have h0' : (((pack xs d).length : Int) == 0) = false := beq_eq_false_iff_ne.2 (by omega)
      obtain ⟨hok, hul, hpl2, D, rfl, hD8, h64⟩ := unpacked h0
      have HUL := Lib.hid hul
      have hm0 : 0 ≤ (xs.length : Int) * (D : Int) := Int.mul_nonneg (by omega) (by omega)
      have hm1 : (xs.length : Int) * (D : Int) ≤ 512 := mul_bdI _ _ h64 hD8
      have hq : (((pack xs D).length : Int) == ((xs.length : Int) * (D : Int) + 7) / 8) = true := by rw [hpl2]; simp
      have hl2 : (unList (pack xs D) D xs.length).length ≤ 64 := by rw [hul]; exact h64
      have hdec : decide (unList (pack xs D) D xs.length = xs) = true := decide_eq_true hul
      clear h0 hul hpl2
      go_wp2_with fail
      refine (i_UnpackRow A2 c2 (pack xs D) D xs.length w4 (S4.rds (lo := w1.heap.size) (hi := w2.heap.size) (n := (pack xs D).length) (c := c2) (by simp)) (by omega)).mono ?_
      rintro e w5 ⟨v5, rfl, hO5, hB5⟩
      obtain ⟨A5, c5, rfl, _⟩ := hO5.slice
      have S5 := S4.add hO5 hB5
      clear S4 hO5 hB5
      rw [hok]
      go_wp2_with fail
      refine (lEqualInts_any A5 A c5 c (unList (pack xs D) D xs.length) xs _ _ w5 (S5.rds (lo := w4.heap.size) (hi := w5.heap.size) (n := (unList (pack xs D) D xs.length).length) (c := c5) (by simp)) (S5.arg HR.out) (by omega) (by omega)).mono ?_
      rintro e w6 ⟨rfl, n6, rfl⟩
      have S6 := S5.drewN n6
      clear S5
      rw [hdec]
      go_wp2
      go_ret
      exact ⟨rfl, hb.trans (S6.below.mono hb.size)⟩

/-! ### From the walk to the statement. -/
theorem own : ownKnob Try.prog.godebug = none := by kernel_rfl
theorem laidOut : laidOutB Try.prog = true := by kernel_rfl
set_option maxRecDepth 100000 in
theorem lifted (os : Os) (started : os.Started) (H : Type) (enc : TypeId × Value → H) :
    ReturnsInHanded {} Try.checked os 12 .any (Rows.fnPackRowSpec.pre6 enc Try.prog Try.f12 Rows.fnPackRowRow.domain false) (Rows.fnPackRowSpec.post enc Try.prog Try.f12 false true false false) := by
  refine returnsInHanded_of_change (C := Try.checked) own started (by kernel_rfl) Try.func12
    (ChangeSpec.witness6 (enc := enc) (C := Try.checked) false ⟨#[], #[.slice none 0 0], []⟩ 8 (by kernel_rfl) (by kernel_rfl) (by kernel_rfl) (by kernel_rfl)) ?_
  intro W base args ds gs before hval0 hW hcnd _
  have hval : ∀ (j : Nat) t v, Try.f12.params[j]? = some t → args[j]? = some v → Value.okWide Try.prog W .any base t v := hval0
  have hW' := hW
  obtain ⟨p, q, hA0, hV, rfl, hfz, hnd⟩ := hW
  have hA : DataW.TrodAll enc Try.prog W 0 (fun _ => true) true Try.f12.params.toList args.toList ds p := hA0
  rw [Try.params12] at hA hval
  obtain ⟨v0, vs0, d0, ds0, p0, q0, hargs, rfl, rfl, h0, r0⟩ := trodAll_cons hA
  obtain ⟨rfl, rfl, rfl⟩ := trodAll_nil r0
  obtain rfl : args = #[v0] := by cases args; simp_all
  obtain ⟨rfl, rfl⟩ := trodVars_none hV
  obtain ⟨a0, len0, cap0, rfl⟩ := okWide_slice Try.underlying30 (hval 0 30 v0 rfl rfl)
  have k0 := h0
  have lt0 : ∀ x ∈ p0, x.block < W.heap.size := by obtain ⟨m, hm⟩ := k0; exact DataW.trod_lt m _ _ _ hm
  obtain ⟨z0, hl0, hc0, w0⟩ : ∃ zs : List Int, len0 = zs.length ∧ zs.length ≤ cap0 ∧ Rdw .u8 W W.heap.size a0 zs := by
    obtain ⟨fuel, hf⟩ := h0
    rcases open_ints Try.underlying30 Try.underlying5 (by kernel_rfl) hf with ⟨hcs, _⟩ | ⟨x, l, c, zs, hcs, _, hl, hm, hz, _, hcell, hwz⟩
    · simp [Value.cells] at hcs
      obtain ⟨rfl, rfl, rfl⟩ := hcs
      exact ⟨[], rfl, Nat.le_refl _, Rdw.nil⟩
    · simp [Value.cells] at hcs
      obtain ⟨rfl, rfl, rfl⟩ := hcs
      exact ⟨zs.take len0, by simp at hz ⊢; omega, by simp at hz ⊢; omega, Rdw.of_row hl hm (by simpa using hz) hcell hwz⟩
  subst hl0
  clear hA0 hval0
  refine (walk W a0 cap0 z0 hc0 w0).mono fun e W' ⟨he, bel⟩ => ?_
  subst he
  exact ⟨_, rfl, _, _, _, [], _, [], hW', trodAll_mk1 (shut_bool Try.underlying4 _), (trodAll_cons_mk (Below.trod laidOut (by kernel_rfl) (of_decide_eq_true (by kernel_rfl)) k0 bel lt0) trodAll_mk0), rfl, bel.frame _, fun h => by cases h⟩

theorem over : Rows.fnPackRowRow.holds Try.pinned (OpenSpec.ofChange Rows.fnPackRowSpec) :=
  OpenClaim.holds_of_wide 12 Try.f12 rfl rfl rfl rfl rfl rfl rfl ⟨rfl, rfl, rfl, rfl, rfl⟩ rfl rfl rfl rfl rfl (by kernel_rfl) Try.func12 (by kernel_rfl)
    (of_decide_eq_true (by kernel_rfl)) (by unfold Func.isWrapper; first | (rw [if_pos (by decide +kernel)]; kernel_rfl) | (rw [if_neg (by decide +kernel)]; exact ⟨rfl, rfl⟩))
    (fun os started H enc _ => lifted os started H enc)

theorem proved : Rows.FnPackRowSaid := over
end Go.Proofs.Ytaieialjpiojeaa.fnPackRow
