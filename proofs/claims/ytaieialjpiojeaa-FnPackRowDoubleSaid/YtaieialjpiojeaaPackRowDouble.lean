/- Whatever the code: PackRow of what is drawn from it answers what the model answers, and the bytes of an even number of numbers of less than 8 bits are those of their pairs at twice the depth. -/
import Derived.Test.YtaieialjpiojeaaRows
import Derived.WalkKit
import Derived.ProofKit
import Derived.OpenShut
import Derived.ShutString
import Derived.ChangeOld
import Derived.Below
import Derived.Test.YtaieialjpiojeaaUnpackI
import Derived.Test.YtaieialjpiojeaaDrawPack
import Derived.Test.YtaieialjpiojeaaExact
namespace Go.Proofs.Ytaieialjpiojeaa.fnPackRowDouble
open Go.ChangeShapes Go.WideShapes Go.ChangeAt Go.RowKit
open Go.ChangeMaps (open_string shut_string)
set_option linter.unusedVariables false

theorem pack_len (xs : List Int) (d : Int) : (pack xs d).length ≤ 64 := by
  unfold pack
  split
  · next h =>
    obtain ⟨D, rfl, hD⟩ := vd_nat h.1
    have := dep_le hD
    have := mul_bd xs.length D h.2.1 this.2
    rw [Int.toNat_natCast]
    unfold pk
    rw [pkTo_len]
    unfold sz
    omega
  · simp
/-- The first k pairs. -/
def pr (D : Nat) (xs : List Int) (k : Nat) : List Int := (List.range k).map (fun i => xs.getD (2 * i) 0 * 2 ^ D + xs.getD (2 * i + 1) 0)
theorem pr_len (D : Nat) (xs : List Int) (k : Nat) : (pr D xs k).length = k := by simp [pr]
theorem pr_succ (D : Nat) (xs : List Int) (k : Nat) : pr D xs (k + 1) = pr D xs k ++ [xs.getD (2 * k) 0 * 2 ^ D + xs.getD (2 * k + 1) 0] := by simp [pr, List.range_succ]
theorem pr_get (D : Nat) (xs : List Int) (n k : Nat) (hk : k < n) : (pr D xs n).getD k 0 = xs.getD (2 * k) 0 * 2 ^ D + xs.getD (2 * k + 1) 0 := by simp [pr, hk]
def Half (D : Nat) : Prop := D = 1 ∨ D = 2 ∨ D = 4
theorem half_dep {D : Nat} (h : Half D) : Dep D ∧ Dep (2 * D) := by
  rcases h with rfl | rfl | rfl
  · exact ⟨.inl rfl, .inr (.inl rfl)⟩
  · exact ⟨.inr (.inl rfl), .inr (.inr (.inl rfl))⟩
  · exact ⟨.inr (.inr (.inl rfl)), .inr (.inr (.inr rfl))⟩
theorem bt_pr {D : Nat} (h : Half D) (xs : List Int) (n k j : Nat) (hk : k ≤ n) : bt (2 * D) (pr D xs n) k j = bt D xs (2 * k) j := by
  induction k with
  | zero => rfl
  | succ k ih =>
    have h1 := dep_room (half_dep h).2 k
    have e1 : k * (2 * D) = 2 * k * D := by rw [← Nat.mul_assoc, Nat.mul_comm k 2]
    have e2 : (2 * k + 1) * D = 2 * k * D + D := succ_mul' (2 * k) D
    rw [e1] at h1
    have hs1 : sh (2 * D) k = 8 - 2 * D - 2 * k * D % 8 := by unfold sh; rw [e1]
    have hs2 : sh D (2 * k) = D + sh (2 * D) k := by rw [hs1]; unfold sh; omega
    have hd := dep_le (half_dep h).1
    have hs3 : sh D (2 * k + 1) = sh (2 * D) k := by rw [hs1]; unfold sh; rw [e2]; omega
    have hq : (2 * k * D + D) / 8 = 2 * k * D / 8 := by omega
    rw [show 2 * (k + 1) = 2 * k + 1 + 1 by omega]
    simp only [bt]
    rw [ih (by omega), pr_get D xs n k (by omega), hs2, hs3, e1, e2, hq]
    split
    · rw [Int.add_mul, Int.mul_assoc, ← Int.pow_add, Int.add_assoc]
    · simp
theorem sz_pr (D k : Nat) : sz (2 * D) k = sz D (2 * k) := by
  unfold sz
  rw [← Nat.mul_assoc, Nat.mul_comm k 2]
theorem fits_pr {D : Nat} {xs : List Int} (hx : Fits D xs) (n : Nat) : Fits (2 * D) (pr D xs n) := by
  intro y hy
  simp only [pr, List.mem_map] at hy
  obtain ⟨i, _, rfl⟩ := hy
  have h1 := hx.get (2 * i)
  have h2 := hx.get (2 * i + 1)
  have hp : (0 : Int) < 2 ^ D := pow_pos' D
  have h3 : (xs.getD (2 * i) 0 + 1) * 2 ^ D ≤ 2 ^ D * 2 ^ D := Int.mul_le_mul_of_nonneg_right (by omega) (by omega)
  rw [Int.add_mul, Int.one_mul] at h3
  have h4 := Int.mul_nonneg h1.1 (Int.le_of_lt hp)
  rw [show 2 * D = D + D by omega, Int.pow_add]
  omega
/-- The bytes of pairs at twice the depth are the bytes. -/
theorem doubled {D : Nat} (h : Half D) {xs : List Int} (hx : Fits D xs) (h64 : xs.length ≤ 64) (k : Nat) (hk : xs.length = 2 * k) : pack (pr D xs k) ((2 * D : Nat) : Int) = pk D xs := by
  have hv : vd ((2 * D : Nat) : Int) = true := by rcases h with rfl | rfl | rfl <;> decide
  rw [pack_fits (half_dep h).2 (fits_pr hx k) (by rw [pr_len]; omega) hv]
  unfold pk pkTo
  rw [pr_len, sz_pr, hk]
  apply List.map_congr_left
  intro j _
  exact bt_pr h xs k k j (Nat.le_refl _)
theorem pack_parts {xs : List Int} {d : Int} (h : pack xs d ≠ []) : ∃ D : Nat, d = D ∧ Dep D ∧ Fits D xs ∧ xs.length ≤ 64 ∧ pack xs d = pk D xs := by
  by_cases hp : vd d = true ∧ xs.length ≤ 64 ∧ allB 0 (2 ^ d.toNat - 1) xs = true
  · obtain ⟨hv, h64, ha⟩ := hp
    obtain ⟨D, rfl, hD⟩ := vd_nat hv
    rw [Int.toNat_natCast] at ha
    exact ⟨D, rfl, hD, fits_of_allB ha, h64, pack_fits hD (fits_of_allB ha) h64 hv⟩
  · exact absurd (if_neg hp) h
set_option maxHeartbeats 8000000 in
theorem walk (w : World) (a0 : Option Addr) (cap0 : Nat) (z0 : List Int) (hc0 : z0.length ≤ cap0) (w0 : Rdw .u8 w w.heap.size a0 z0) :
    Calls Try.prog 13 #[.slice a0 z0.length cap0] w fun e w' => e = .returned (.bool true) ∧ Below w.heap.size w w' := by
  have hm := w0.2.1
  unfold maxLen at hm
  by_cases hlen : 1048576 < z0.length
  · go_enter Try.func13, Try.ntmps13
    go_wp2
    go_ret
    exact ⟨rfl, Below.refl _ _⟩
  · go_enter Try.func13, Try.ntmps13
    go_wp2_with fail
    refine (drawPackRow_any a0 cap0 z0 w hc0 w0).mono ?_
    rintro e w1 ⟨A, c, xs, d, rfl, hx, hd0, hd8, hR, hb⟩
    have HR := Lib.hid hR
    have S0 := St.start w1
    have hpl := pack_len xs d
    clear hR w0
    go_wp2_with fail
    refine (i_PackRow A c xs d w1 HR.out (by omega)).mono ?_
    rintro e w2 ⟨v2, rfl, hO2, hB2⟩
    obtain ⟨A2, c2, rfl, _⟩ := hO2.slice
    have S2 := S0.add hO2 hB2
    clear S0 hO2 hB2
    go_wp2_with fail
    refine (s_PackRow A c xs d w2 (S2.arg HR.out) (by omega)).mono ?_
    rintro e w3 ⟨v3, rfl, hO3, hB3⟩
    obtain ⟨A3, c3, rfl, _⟩ := hO3.slice
    have S3 := S2.add hO3 hB3
    clear S2 hO3 hB3
    go_wp2_with fail
    refine (lEqualInts_any A2 A3 c2 c3 (pack xs d) (pack xs d) _ _ w3 (S3.rds (lo := w1.heap.size) (hi := w2.heap.size) (n := (pack xs d).length) (c := c2) (by simp)) (S3.rds (lo := w2.heap.size) (hi := w3.heap.size) (n := (pack xs d).length) (c := c3) (by simp)) (by omega) (by omega)).mono ?_
    rintro e w4 ⟨rfl, n4, rfl⟩
    have S4 := S3.drewN n4
    clear S3
    generalize hw4 : w3.drewN n4 = w4 at *
    clear hw4
    by_cases hgo : pack xs d ≠ [] ∧ d ≠ 8 ∧ xs.length % 2 = 0
    · obtain ⟨h0, h8, hev⟩ := hgo
      have hne : 0 < (pack xs d).length := List.length_pos_iff.2 h0
      have h0' : (((pack xs d).length : Int) == 0) = false := beq_eq_false_iff_ne.2 (by omega)
      obtain ⟨D, rfl, hD, hf, h64, hpk⟩ := pack_parts h0
      have hH : Half D := by
        rcases hD with h | h | h | h
        · exact .inl h
        · exact .inr (.inl h)
        · exact .inr (.inr h)
        · exact absurd (by omega) h8
      have hh : D ≤ 4 := by rcases hH with rfl | rfl | rfl <;> omega
      have h8' : ((D : Int) == 8) = false := beq_eq_false_iff_ne.2 h8
      have hev' : ((xs.length : Int) % 2 == 1) = false := beq_eq_false_iff_ne.2 (by omega)
      have HE := Lib.hid ((doubled hH hf h64 (xs.length / 2) (by omega)).trans hpk.symm)
      have Hev : Hid (xs.length = 2 * (xs.length / 2)) := Lib.hid (by omega)
      have HH := Lib.hid hH
      have Hf := Lib.hid hf
      have hpow : (2 : Int) ≤ 2 ^ D ∧ (2 : Int) ^ D ≤ 16 := by rcases hH with rfl | rfl | rfl <;> decide
      have H0 := Lib.hid (own_none w4)
      clear h0 h8 hev hD hf hpk hH
      go_wp2
      go_loopw [6, 7] (fun v i wr => ∃ k : Nat, k ≤ xs.length / 2 ∧ i = .int .i64 (2 * (k : Int)) ∧ Own wr w4.heap.size v (pr D xs k) ∧ Below w4.heap.size w4 wr) (fun _ i _ => xs.length - (intOf i).toNat)
      case atStart => exact ⟨0, Nat.zero_le _, rfl, by simpa [pr] using H0.out, (Below.refl _ _).alloc (Nat.le_refl _) _⟩
      case round =>
        obtain ⟨k, hk, rfl, hO, hbel⟩ := hrel
        obtain ⟨A1, c1, rfl, hc1⟩ := hO.slice
        have hsz := hbel.size
        by_cases hlt : k < xs.length / 2
        · have hk2 : 2 * k + 1 < xs.length := by omega
          obtain ⟨b, off, rfl, hb1, hc⟩ := ((S4.arg HR.out).below hbel).cells_ hk2
          have hca := hc (2 * k) (by omega)
          have hcb := hc (2 * k + 1) hk2
          have hra := Hf.out.get (2 * k)
          have hrb := Hf.out.get (2 * k + 1)
          have HU : Hid (pr D xs k ++ [xs.getD (2 * k) 0 * 2 ^ D + xs.getD (2 * k + 1) 0] = pr D xs (k + 1)) := Lib.hid (pr_succ D xs k).symm
          have hul : (pr D xs k).length ≤ 64 := by rw [pr_len]; omega
          have HL1 := Lib.hid (fun i hi => (hO.lt i hi).1)
          have HK : Hid (k + 1 ≤ xs.length / 2) := Lib.hid (by omega)
          have HK2 : Hid (2 * k + 1 < xs.length) := Lib.hid hk2
          have HO := Lib.hid (fun y : Int => hO.alloc (.cells #[.int .i64 y] 3))
          have HL : Hid (∀ y : Int, (pr D xs k).length + [y].length ≤ 10000000) := Lib.hid (fun y => by simp; omega)
          have HZ : Hid (∀ y : Int, w4.heap.size ≤ (wr.alloc (.cells #[.int .i64 y] 3)).heap.size) := Lib.hid (fun y => by simp; omega)
          clear hc hO
          generalize xs.getD (2 * k) 0 = x at *
          generalize xs.getD (2 * k + 1) 0 = y at *
          go_wp2
          have q1 : b < wr.heap.size := by omega
          have q2 : 0 ≤ 2 * (k : Int) := by omega
          have q3 : 2 * (k : Int) < (xs.length : Int) := by omega
          have q4 : 0 ≤ 2 * (k : Int) + 1 := by omega
          have q5 : 2 * (k : Int) + 1 < (xs.length : Int) := by omega
          have q6 : (0 : Int) ≤ (D : Int) := by omega
          have q7 : (D : Int) ≤ 64 := by omega
          have p0 : 0 ≤ x * 2 ^ D := Int.mul_nonneg hra.1 (by omega)
          have p1 : x * 2 ^ D ≤ 16 * 16 := Int.mul_le_mul (by omega) hpow.2 (by omega) (by omega)
          have r1 : (2 * (k : Int)).toNat = 2 * k := by omega
          have r2 : IntKind.i64.wrap (2 * (k : Int) + 1) = 2 * (k : Int) + 1 := IntWalk.i64_in _ (by omega)
          have r3 : (2 * (k : Int) + 1).toNat = 2 * k + 1 := by omega
          have r4 : IntKind.i64.wrap (x * 2 ^ D) = x * 2 ^ D := IntWalk.i64_in _ (by omega)
          have r5 : IntKind.i64.wrap (x * 2 ^ D + y) = x * 2 ^ D + y := IntWalk.i64_in _ (by omega)
          go_region_law (refine step_app rfl (.tmp 53) (.tmp 66) rfl w4.heap.size (.slice A1 (pr D xs k).length c1) (pr D xs k) (by simp [Act.eval]) (by exact HO.out _) (some ⟨wr.heap.size, 0, none⟩) 1 1 _ [x * 2 ^ D + y] (by simp [Act.eval]) rfl (by exact rds_one wr _) (HL.out _) (by exact HZ.out _) ?_; intro v5 w5 hO5 hG5)
          all_goals
            clear r1 r2 r3 r4 r5
            have HO5 : Hid (Own w5 w4.heap.size v5 (pr D xs (k + 1))) := Lib.hid (by rw [← HU.out]; exact hO5)
            have hbel5 : Below w4.heap.size w4 w5 := ((hbel.alloc hsz _).drew).grown hG5 (HZ.out _) (fun i hi => HL1.out i hi)
            clear hO5 hG5
            go_wp2
            go_roundw
            case rel => exact ⟨k + 1, HK.out, by go_num, HO5.out, hbel5⟩
            case measure => have := HK2.out; simp [intOf]; omega
        · have hk' : k = xs.length / 2 := by omega
          have Hk := Lib.hid hk'
          have S5 := S4.add hO hbel
          have hkl : (pr D xs k).length ≤ 64 := by rw [pr_len]; omega
          have hk2 : ¬ (2 * (k : Int) + 1 < (xs.length : Int)) := by have := Hev.out; omega
          clear hk' S4 hO hbel H0
          have hcast : ((2 * D : Nat) : Int) = 2 * (D : Int) := by omega
          have cI := i_PackRow A1 c1 (pr D xs k) ((2 * D : Nat) : Int) wr (S5.rds (lo := w4.heap.size) (hi := wr.heap.size) (n := (pr D xs k).length) (c := c1) (by simp)) (by omega)
          rw [show pack (pr D xs k) ((2 * D : Nat) : Int) = pack xs D by rw [Hk.out]; exact HE.out, hcast] at cI
          have HC := Lib.hid cI
          clear cI hcast
          go_wp2_with fail
          refine HC.out.mono ?_
          rintro e w6 ⟨v6, rfl, hO6, hB6⟩
          obtain ⟨A6, c6, rfl, _⟩ := hO6.slice
          have S6 := S5.add hO6 hB6
          clear S5 hO6 hB6
          go_wp2_with fail
          refine (lEqualInts_any A6 A2 c6 c2 (pack xs D) (pack xs D) _ _ w6 (S6.rds (lo := wr.heap.size) (hi := w6.heap.size) (n := (pack xs D).length) (c := c6) (by simp)) (S6.rds (lo := w1.heap.size) (hi := w2.heap.size) (n := (pack xs D).length) (c := c2) (by simp)) (by omega) (by omega)).mono ?_
          rintro e w7 ⟨rfl, n7, rfl⟩
          have S7 := S6.drewN n7
          clear S6
          go_wp2
          go_ret
          exact ⟨by simp, hb.trans (S7.below.mono hb.size)⟩
    · have hg : (((pack xs d).length : Int) == 0) = true ∨ ((((pack xs d).length : Int) == 0) = false ∧ (d == 8) = true) ∨ (((((pack xs d).length : Int) == 0) = false ∧ (d == 8) = false) ∧ ((xs.length : Int) % 2 == 1) = true) := by
        by_cases h0 : pack xs d = []
        · exact .inl (by rw [h0]; rfl)
        · have hne : 0 < (pack xs d).length := List.length_pos_iff.2 h0
          have h0' : (((pack xs d).length : Int) == 0) = false := beq_eq_false_iff_ne.2 (by omega)
          by_cases h8 : d = 8
          · exact .inr (.inl ⟨h0', by rw [h8]; rfl⟩)
          · have : ¬ xs.length % 2 = 0 := fun h => hgo ⟨h0, h8, h⟩
            exact .inr (.inr ⟨⟨h0', beq_eq_false_iff_ne.2 h8⟩, by rw [show (xs.length : Int) % 2 = 1 by omega]; rfl⟩)
      clear hgo
      rcases hg with g1 | ⟨g1, g2⟩ | ⟨⟨g1, g2⟩, g3⟩
      all_goals
        go_wp2_with fail
        refine (s_PackRow A c xs d w4 (S4.arg HR.out) (by omega)).mono ?_
        rintro e w5 ⟨v5, rfl, hO5, hB5⟩
        obtain ⟨A5, c5, rfl, _⟩ := hO5.slice
        have S5 := S4.add hO5 hB5
        clear S4 hO5 hB5
        go_wp2_with fail
        refine (lEqualInts_any A2 A5 c2 c5 (pack xs d) (pack xs d) _ _ w5 (S5.rds (lo := w1.heap.size) (hi := w2.heap.size) (n := (pack xs d).length) (c := c2) (by simp)) (S5.rds (lo := w4.heap.size) (hi := w5.heap.size) (n := (pack xs d).length) (c := c5) (by simp)) (by omega) (by omega)).mono ?_
        rintro e w6 ⟨rfl, n6, rfl⟩
        have S6 := S5.drewN n6
        clear S5
        go_wp2
        go_ret
        exact ⟨by simp, hb.trans (S6.below.mono hb.size)⟩

/-! ### From the walk to the statement. -/
theorem own : ownKnob Try.prog.godebug = none := by kernel_rfl
theorem laidOut : laidOutB Try.prog = true := by kernel_rfl
set_option maxRecDepth 100000 in
theorem lifted (os : Os) (started : os.Started) (H : Type) (enc : TypeId × Value → H) :
    ReturnsInHanded {} Try.checked os 13 .any (Rows.fnPackRowDoubleSpec.pre6 enc Try.prog Try.f13 Rows.fnPackRowDoubleRow.domain false) (Rows.fnPackRowDoubleSpec.post enc Try.prog Try.f13 false true false false) := by
  refine returnsInHanded_of_change (C := Try.checked) own started (by kernel_rfl) Try.func13
    (ChangeSpec.witness6 (enc := enc) (C := Try.checked) false ⟨#[], #[.slice none 0 0], []⟩ 8 (by kernel_rfl) (by kernel_rfl) (by kernel_rfl) (by kernel_rfl)) ?_
  intro W base args ds gs before hval0 hW hcnd _
  have hval : ∀ (j : Nat) t v, Try.f13.params[j]? = some t → args[j]? = some v → Value.okWide Try.prog W .any base t v := hval0
  have hW' := hW
  obtain ⟨p, q, hA0, hV, rfl, hfz, hnd⟩ := hW
  have hA : DataW.TrodAll enc Try.prog W 0 (fun _ => true) true Try.f13.params.toList args.toList ds p := hA0
  rw [Try.params13] at hA hval
  obtain ⟨v0, vs0, d0, ds0, p0, q0, hargs, rfl, rfl, h0, r0⟩ := trodAll_cons hA
  obtain ⟨rfl, rfl, rfl⟩ := trodAll_nil r0
  obtain rfl : args = #[v0] := by cases args; simp_all
  obtain ⟨rfl, rfl⟩ := trodVars_none hV
  obtain ⟨a0, len0, cap0, rfl⟩ := okWide_slice Try.underlying30 (hval 0 30 v0 rfl rfl)
  have k0 := h0
  have lt0 : ∀ x ∈ p0, x.block < W.heap.size := by obtain ⟨m, hm⟩ := k0; exact DataW.trod_lt m _ _ _ hm
  obtain ⟨z0, hl0, hc0, w0⟩ : ∃ zs : List Int, len0 = zs.length ∧ zs.length ≤ cap0 ∧ Rdw .u8 W W.heap.size a0 zs := by
    obtain ⟨fuel, hf⟩ := h0
    rcases open_ints Try.underlying30 Try.underlying5 (by kernel_rfl) hf with ⟨hcs, _⟩ | ⟨x, l, c, zs, hcs, _, hl, hm, hz, _, hcell, hwz⟩
    · simp [Value.cells] at hcs
      obtain ⟨rfl, rfl, rfl⟩ := hcs
      exact ⟨[], rfl, Nat.le_refl _, Rdw.nil⟩
    · simp [Value.cells] at hcs
      obtain ⟨rfl, rfl, rfl⟩ := hcs
      exact ⟨zs.take len0, by simp at hz ⊢; omega, by simp at hz ⊢; omega, Rdw.of_row hl hm (by simpa using hz) hcell hwz⟩
  subst hl0
  clear hA0 hval0
  refine (walk W a0 cap0 z0 hc0 w0).mono fun e W' ⟨he, bel⟩ => ?_
  subst he
  exact ⟨_, rfl, _, _, _, [], _, [], hW', trodAll_mk1 (shut_bool Try.underlying4 _), (trodAll_cons_mk (Below.trod laidOut (by kernel_rfl) (of_decide_eq_true (by kernel_rfl)) k0 bel lt0) trodAll_mk0), rfl, bel.frame _, fun h => by cases h⟩

theorem over : Rows.fnPackRowDoubleRow.holds Try.pinned (OpenSpec.ofChange Rows.fnPackRowDoubleSpec) :=
  OpenClaim.holds_of_wide 13 Try.f13 rfl rfl rfl rfl rfl rfl rfl ⟨rfl, rfl, rfl, rfl, rfl⟩ rfl rfl rfl rfl rfl (by kernel_rfl) Try.func13 (by kernel_rfl)
    (of_decide_eq_true (by kernel_rfl)) (by unfold Func.isWrapper; first | (rw [if_pos (by decide +kernel)]; kernel_rfl) | (rw [if_neg (by decide +kernel)]; exact ⟨rfl, rfl⟩))
    (fun os started H enc _ => lifted os started H enc)

theorem proved : Rows.FnPackRowDoubleSaid := over
end Go.Proofs.Ytaieialjpiojeaa.fnPackRowDouble
