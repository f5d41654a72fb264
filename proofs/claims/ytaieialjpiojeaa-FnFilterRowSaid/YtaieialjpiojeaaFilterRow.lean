/- Whatever the code: FilterRow of what is drawn from it answers what the model answers, and UnfilterRow of a filtered row that is not empty is the row. -/
import Derived.Test.YtaieialjpiojeaaRows
import Derived.WalkKit
import Derived.ProofKit
import Derived.OpenShut
import Derived.ShutString
import Derived.ChangeOld
import Derived.Below
import Derived.Test.YtaieialjpiojeaaFilterF
import Derived.Test.YtaieialjpiojeaaDrawFilter
import Derived.Test.YtaieialjpiojeaaExact
namespace Go.Proofs.Ytaieialjpiojeaa.fnFilterRow
open Go.ChangeShapes Go.WideShapes Go.ChangeAt Go.RowKit
open Go.ChangeMaps (open_string shut_string)
set_option linter.unusedVariables false

theorem rok_flt {k : Int} {xs bs : List Int} {S : Nat} (hok : rok xs bs (S : Int) = true) (ys : List Int) (hy : ys.length = xs.length) (hb : Byt ys) : rok ys bs (S : Int) = true := by
  obtain ⟨h1, h2, h3, h4, h5⟩ := of_decide_eq_true hok
  exact decide_eq_true ⟨by omega, by omega, h3, decide_eq_true (of_byt hb), h5⟩
/-- Filters can be undone. -/
theorem undo (k : Int) (xs bs : List Int) (st : Int) (h : fil k xs bs st ≠ []) : ufil k (fil k xs bs st) bs st = xs := by
  by_cases hk : 0 ≤ k ∧ k ≤ 4
  · cases hok : rok xs bs st
    · exact absurd (fil_nok hok) h
    · obtain ⟨S, rfl, hS1, hS4, h64, hlen, hbx, hbb⟩ := rok_parts hok
      have e := fil_yes hk.1 hk.2 hok
      have hok2 := rok_flt (k := k) hok (flt k xs bs S xs.length) (flt_len _ _ _ _ _) (flt_byt _ _ _ _ _)
      rw [e, ufil_yes hk.1 hk.2 hok2, flt_len, unf_flt k hS1 hbx _ (Nat.le_refl _) _ (Nat.le_refl _), List.take_of_length_le (Nat.le_refl _)]
  · exact absurd (fil_nk hk) h
/-- Rows can be filtered again. -/
theorem redo (k : Int) (xs bs : List Int) (st : Int) (h : ufil k xs bs st ≠ []) : fil k (ufil k xs bs st) bs st = xs := by
  by_cases hk : 0 ≤ k ∧ k ≤ 4
  · cases hok : rok xs bs st
    · exact absurd (ufil_nok hok) h
    · obtain ⟨S, rfl, hS1, hS4, h64, hlen, hbx, hbb⟩ := rok_parts hok
      have e := ufil_yes hk.1 hk.2 hok
      have hok2 := rok_flt (k := k) hok (unf k xs bs S xs.length) (unf_len _ _ _ _ _) (unf_byt _ _ _ _ _)
      rw [e, fil_yes hk.1 hk.2 hok2, unf_len, flt_unf k hS1 hbx _ rfl]
  · exact absurd (ufil_nk hk) h
set_option maxHeartbeats 8000000 in
theorem walk (w : World) (a0 : Option Addr) (cap0 : Nat) (z0 : List Int) (hc0 : z0.length ≤ cap0) (w0 : Rdw .u8 w w.heap.size a0 z0) :
    Calls Try.prog 6 #[.slice a0 z0.length cap0] w fun e w' => e = .returned (.bool true) ∧ Below w.heap.size w w' := by
  have hm := w0.2.1
  unfold maxLen at hm
  by_cases hlen : 1048576 < z0.length
  · go_enter Try.func6, Try.ntmps6
    go_wp2
    go_ret
    exact ⟨rfl, Below.refl _ _⟩
  · go_enter Try.func6, Try.ntmps6
    go_wp2_with fail
    refine (drawFilterRow_any a0 cap0 z0 w hc0 w0).mono ?_
    rintro e w1 ⟨k, st, A, A', c, c', xs, bs, rfl, hx, hb, hX, hY, hbel⟩
    have HX := Lib.hid hX
    have HY := Lib.hid hY
    have S0 := St.start w1
    have hl := fil_len k xs bs st
    clear hX hY w0
    go_wp2_with fail
    refine (i_FilterRow k A A' c c' xs bs st w1 HX.out HY.out (by omega) (by omega)).mono ?_
    rintro e w2 ⟨v2, rfl, hO2, hB2⟩
    obtain ⟨A2, c2, rfl, _⟩ := hO2.slice
    have S2 := S0.add hO2 hB2
    clear S0 hO2 hB2
    go_wp2_with fail
    refine (s_FilterRow k A A' c c' xs bs st w2 (S2.arg HX.out) (S2.arg HY.out) (by omega) (by omega)).mono ?_
    rintro e w3 ⟨v3, rfl, hO3, hB3⟩
    obtain ⟨A3, c3, rfl, _⟩ := hO3.slice
    have S3 := S2.add hO3 hB3
    clear S2 hO3 hB3
    go_wp2_with fail
    refine (lEqualInts_any A2 A3 c2 c3 (fil k xs bs st) (fil k xs bs st) _ _ w3 (S3.rds (lo := w1.heap.size) (hi := w2.heap.size) (n := (fil k xs bs st).length) (c := c2) (by simp)) (S3.rds (lo := w2.heap.size) (hi := w3.heap.size) (n := (fil k xs bs st).length) (c := c3) (by simp)) (by omega) (by omega)).mono ?_
    rintro e w4 ⟨rfl, n4, rfl⟩
    have S4 := S3.drewN n4
    clear S3
    generalize hw4 : w3.drewN n4 = w4 at *
    clear hw4
    by_cases h0 : (fil k xs bs st) = []
    · have h0' : (((fil k xs bs st).length : Int) == 0) = true := by rw [h0]; rfl
      have H0 := Lib.hid h0
      clear h0
      go_wp2_with fail
      refine (s_FilterRow k A A' c c' xs bs st w4 (S4.arg HX.out) (S4.arg HY.out) (by omega) (by omega)).mono ?_
      rintro e w5 ⟨v5, rfl, hO5, hB5⟩
      obtain ⟨A5, c5, rfl, _⟩ := hO5.slice
      have S5 := S4.add hO5 hB5
      clear S4 hO5 hB5
      go_wp2_with fail
      refine (lEqualInts_any A2 A5 c2 c5 (fil k xs bs st) (fil k xs bs st) _ _ w5 (S5.rds (lo := w1.heap.size) (hi := w2.heap.size) (n := (fil k xs bs st).length) (c := c2) (by simp)) (S5.rds (lo := w4.heap.size) (hi := w5.heap.size) (n := (fil k xs bs st).length) (c := c5) (by simp)) (by omega) (by omega)).mono ?_
      rintro e w6 ⟨rfl, n6, rfl⟩
      have S6 := S5.drewN n6
      clear S5
      go_wp2
      go_ret
      exact ⟨by simp, hbel.trans (S6.below.mono hbel.size)⟩
    · have hne : 0 < (fil k xs bs st).length := List.length_pos_iff.2 h0
      have h0' : (((fil k xs bs st).length : Int) == 0) = false := beq_eq_false_iff_ne.2 (by omega)
      have HE := Lib.hid (undo k xs bs st h0)
      clear h0
      have hl2 : (ufil k (fil k xs bs st) bs st).length ≤ 13 := by rw [HE.out]; exact hx
      go_wp2_with fail
      refine (i_UnfilterRow k A2 A' c2 c' (fil k xs bs st) bs st w4 (S4.rds (lo := w1.heap.size) (hi := w2.heap.size) (n := (fil k xs bs st).length) (c := c2) (by simp)) (S4.arg HY.out) (by omega) (by omega)).mono ?_
      rintro e w5 ⟨v5, rfl, hO5, hB5⟩
      obtain ⟨A5, c5, rfl, _⟩ := hO5.slice
      have S5 := S4.add hO5 hB5
      clear S4 hO5 hB5
      have hdec : decide ((ufil k (fil k xs bs st) bs st) = xs) = true := decide_eq_true HE.out
      go_wp2_with fail
      refine (lEqualInts_any A5 A c5 c (ufil k (fil k xs bs st) bs st) xs _ _ w5 (S5.rds (lo := w4.heap.size) (hi := w5.heap.size) (n := (ufil k (fil k xs bs st) bs st).length) (c := c5) (by simp)) (S5.arg HX.out) (by omega) (by omega)).mono ?_
      rintro e w6 ⟨rfl, n6, rfl⟩
      have S6 := S5.drewN n6
      clear S5
      rw [hdec]
      go_wp2
      go_ret
      exact ⟨rfl, hbel.trans (S6.below.mono hbel.size)⟩

/-! ### From the walk to the statement. -/
theorem own : ownKnob Try.prog.godebug = none := by kernel_rfl
theorem laidOut : laidOutB Try.prog = true := by kernel_rfl
set_option maxRecDepth 100000 in
theorem lifted (os : Os) (started : os.Started) (H : Type) (enc : TypeId × Value → H) :
    ReturnsInHanded {} Try.checked os 6 .any (Rows.fnFilterRowSpec.pre6 enc Try.prog Try.f6 Rows.fnFilterRowRow.domain false) (Rows.fnFilterRowSpec.post enc Try.prog Try.f6 false true false false) := by
  refine returnsInHanded_of_change (C := Try.checked) own started (by kernel_rfl) Try.func6
    (ChangeSpec.witness6 (enc := enc) (C := Try.checked) false ⟨#[], #[.slice none 0 0], []⟩ 8 (by kernel_rfl) (by kernel_rfl) (by kernel_rfl) (by kernel_rfl)) ?_
  intro W base args ds gs before hval0 hW hcnd _
  have hval : ∀ (j : Nat) t v, Try.f6.params[j]? = some t → args[j]? = some v → Value.okWide Try.prog W .any base t v := hval0
  have hW' := hW
  obtain ⟨p, q, hA0, hV, rfl, hfz, hnd⟩ := hW
  have hA : DataW.TrodAll enc Try.prog W 0 (fun _ => true) true Try.f6.params.toList args.toList ds p := hA0
  rw [Try.params6] at hA hval
  obtain ⟨v0, vs0, d0, ds0, p0, q0, hargs, rfl, rfl, h0, r0⟩ := trodAll_cons hA
  obtain ⟨rfl, rfl, rfl⟩ := trodAll_nil r0
  obtain rfl : args = #[v0] := by cases args; simp_all
  obtain ⟨rfl, rfl⟩ := trodVars_none hV
  obtain ⟨a0, len0, cap0, rfl⟩ := okWide_slice Try.underlying30 (hval 0 30 v0 rfl rfl)
  have k0 := h0
  have lt0 : ∀ x ∈ p0, x.block < W.heap.size := by obtain ⟨m, hm⟩ := k0; exact DataW.trod_lt m _ _ _ hm
  obtain ⟨z0, hl0, hc0, w0⟩ : ∃ zs : List Int, len0 = zs.length ∧ zs.length ≤ cap0 ∧ Rdw .u8 W W.heap.size a0 zs := by
    obtain ⟨fuel, hf⟩ := h0
    rcases open_ints Try.underlying30 Try.underlying5 (by kernel_rfl) hf with ⟨hcs, _⟩ | ⟨x, l, c, zs, hcs, _, hl, hm, hz, _, hcell, hwz⟩
    · simp [Value.cells] at hcs
      obtain ⟨rfl, rfl, rfl⟩ := hcs
      exact ⟨[], rfl, Nat.le_refl _, Rdw.nil⟩
    · simp [Value.cells] at hcs
      obtain ⟨rfl, rfl, rfl⟩ := hcs
      exact ⟨zs.take len0, by simp at hz ⊢; omega, by simp at hz ⊢; omega, Rdw.of_row hl hm (by simpa using hz) hcell hwz⟩
  subst hl0
  clear hA0 hval0
  refine (walk W a0 cap0 z0 hc0 w0).mono fun e W' ⟨he, bel⟩ => ?_
  subst he
  exact ⟨_, rfl, _, _, _, [], _, [], hW', trodAll_mk1 (shut_bool Try.underlying4 _), (trodAll_cons_mk (Below.trod laidOut (by kernel_rfl) (of_decide_eq_true (by kernel_rfl)) k0 bel lt0) trodAll_mk0), rfl, bel.frame _, fun h => by cases h⟩

theorem over : Rows.fnFilterRowRow.holds Try.pinned (OpenSpec.ofChange Rows.fnFilterRowSpec) :=
  OpenClaim.holds_of_wide 6 Try.f6 rfl rfl rfl rfl rfl rfl rfl ⟨rfl, rfl, rfl, rfl, rfl⟩ rfl rfl rfl rfl rfl (by kernel_rfl) Try.func6 (by kernel_rfl)
    (of_decide_eq_true (by kernel_rfl)) (by unfold Func.isWrapper; first | (rw [if_pos (by decide +kernel)]; kernel_rfl) | (rw [if_neg (by decide +kernel)]; exact ⟨rfl, rfl⟩))
    (fun os started H enc _ => lifted os started H enc)

theorem proved : Rows.FnFilterRowSaid := over
end Go.Proofs.Ytaieialjpiojeaa.fnFilterRow
