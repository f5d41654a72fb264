/- Sums of areas in the model. -/
import Derived.Test.YtmkfgcmabmocfaaScaJ
import Derived.Test.YtmkfgcmabmocfaaGenP
namespace Go.Proofs.Ytmkfgcmabmocfaa
open Go.RowKit Go.Shelf
set_option linter.unusedSimpArgs false
set_option linter.unusedVariables false
set_option maxRecDepth 20000

theorem sa_model (W H a b x y : Nat) (f : Nat → Nat → Int) : sumN (fun r => sumN (fun c => (ovn c W x a : Int) * (ovn r H y b : Int) * f c r) W) H = saF W H a b f x y := by
  unfold saF scF
  refine sumN_ext (fun r _ => ?_)
  rw [← sumN_mul]
  refine sumN_ext (fun c _ => ?_)
  rw [Int.mul_comm (_ * _) (f c r), Int.mul_assoc]
set_option maxHeartbeats 2000000 in
theorem sOvl_any (p1 q1 p2 q2 : Nat) (b1 : p1 ≤ 5000) (b2 : q1 ≤ 5000) (b3 : p2 ≤ 5000) (b4 : q2 ≤ 5000) (w : World) : Calls Try.prog 106 #[.int .i64 (p1 : Int), .int .i64 (q1 : Int), .int .i64 (p2 : Int), .int .i64 (q2 : Int)] w fun e w' => e = .returned (.int .i64 ((min q1 q2 - max p1 p2 : Nat) : Int)) ∧ w = w' := by
  by_cases k1 : q2 < q1 <;> by_cases k2 : p1 < p2
  all_goals
    go_enter Try.func106, Try.ntmps106
    go_wp2
    all_goals
      go_ret
      exact ⟨ret_int (by omega), rfl⟩
/-- The products of one overlap. -/
theorem ov_facts {i a j W : Nat} (hi : i ≤ 16) (ha : a ≤ 16) (hj : j ≤ 16) (hW : W ≤ 16) : ∃ p1 q1 p2 q2 : Nat, (i : Int) * (a : Int) = (p1 : Int) ∧ ((i : Int) + 1) * (a : Int) = (q1 : Int) ∧ (j : Int) * (W : Int) = (p2 : Int) ∧ ((j : Int) + 1) * (W : Int) = (q2 : Int) ∧ (p1 ≤ 2000 ∧ q1 ≤ 2000 ∧ p2 ≤ 2000 ∧ q2 ≤ 2000) ∧ Hid (min q1 q2 - max p1 p2 = ovn i W j a) :=
  ⟨i * a, (i + 1) * a, j * W, (j + 1) * W, by simp, by simp, by simp, by simp, ⟨by have := Nat.mul_le_mul hi ha; omega, by have := Nat.mul_le_mul (show i + 1 ≤ 17 by omega) ha; omega, by have := Nat.mul_le_mul hj hW; omega, by have := Nat.mul_le_mul (show j + 1 ≤ 17 by omega) hW; omega⟩, Lib.hid rfl⟩
theorem wr_nat {n : Nat} (h : n ≤ 100000) : IntKind.i64.wrap (n : Int) = (n : Int) := IntWalk.i64_in _ (by omega)
set_option maxHeartbeats 16000000 in
theorem sSum_any (W H P a b x y p : Nat) (hW : W ≤ 16) (hH : H ≤ 16) (hP : P ≤ 4) (ha : a ≤ 16) (hb : b ≤ 16) (hx : x < a) (hy : y < b) (hp : p < P) (A : Option Addr) (c : Nat) (xs : List Int) (hl : xs.length = W * H * P) (hf : ∀ x y, x < W → y < H → 0 ≤ px W P xs x y p ∧ px W P xs x y p ≤ 255) (w : World) (hr : Rds .i64 w w.heap.size A xs) :
    Calls Try.prog 81 #[.agg #[.int .i64 (W : Int), .int .i64 (H : Int), .int .i64 (P : Int), .slice A xs.length c], .int .i64 (a : Int), .int .i64 (b : Int), .int .i64 (x : Int), .int .i64 (y : Int), .int .i64 (p : Int)] w
      fun e w' => e = .returned (.int .i64 (saF W H a b (fun x y => px W P xs x y p) x y)) ∧ Below w.heap.size w w' := by
  have Hr := Lib.hid hr
  have Hl := Lib.hid hl
  have HF := Lib.hid hf
  have hWH : W * H ≤ 256 := by have := Nat.mul_le_mul hW hH; omega
  have hx1024 : xs.length ≤ 1024 := by rw [hl]; have := Nat.mul_le_mul hWH hP; omega
  obtain ⟨R, hR⟩ : ∃ R : Nat → Nat → Int, R = fun r k => sumN (fun c => (ovn c W x a : Int) * (ovn r H y b : Int) * px W P xs c r p) k := ⟨_, rfl⟩
  obtain ⟨T, hT⟩ : ∃ T : Nat → Int, T = fun k => sumN (fun r => R r W) k := ⟨_, rfl⟩
  have HR := Lib.hid hR
  have HT := Lib.hid hT
  have HT0 : Hid (T 0 = 0) := Lib.hid (by rw [hT]; rfl)
  have HR0 : Hid (∀ r, R r 0 = 0) := Lib.hid (fun r => by rw [hR]; rfl)
  have HE : Hid (T H = saF W H a b (fun x y => px W P xs x y p) x y) := Lib.hid (by rw [hT, hR]; exact sa_model W H a b x y (fun x y => px W P xs x y p))
  have HTm : Hid (∀ r c, r < H → c < W → 0 ≤ (ovn c W x a : Int) * (ovn r H y b : Int) * px W P xs c r p ∧ (ovn c W x a : Int) * (ovn r H y b : Int) * px W P xs c r p ≤ 65280) := Lib.hid (fun r c hr hc => by
    have h1 := ovn_le c W x a
    have h2 := ovn_le r H y b
    have h3 := hf c r hc hr
    have h4 : (ovn c W x a : Int) * (ovn r H y b : Int) ≤ 16 * 16 := Int.mul_le_mul (by omega) (by omega) (by omega) (by omega)
    have h5 : 0 ≤ (ovn c W x a : Int) * (ovn r H y b : Int) := Int.mul_nonneg (by omega) (by omega)
    have h6 : (ovn c W x a : Int) * (ovn r H y b : Int) * px W P xs c r p ≤ 256 * 255 := Int.mul_le_mul (by omega) h3.2 h3.1 (by omega)
    exact ⟨Int.mul_nonneg h5 h3.1, by omega⟩)
  have HRb : Hid (∀ r k, r < H → k ≤ W → 0 ≤ R r k ∧ R r k ≤ 1044480) := Lib.hid (fun r k hr hk => by
    have := sumN_bd (f := fun c => (ovn c W x a : Int) * (ovn r H y b : Int) * px W P xs c r p) (b := 65280) (n := k) (fun c hc => HTm.out r c hr (by omega))
    rw [hR]
    show 0 ≤ sumN _ k ∧ sumN _ k ≤ _
    omega)
  have HTb : Hid (∀ k, k ≤ H → 0 ≤ T k ∧ T k ≤ 16711680) := Lib.hid (fun k hk => by
    have := sumN_bd (f := fun r => R r W) (b := 1044480) (n := k) (fun r hr => HRb.out r W (by omega) (Nat.le_refl _))
    rw [hT]
    show 0 ≤ sumN _ k ∧ sumN _ k ≤ _
    omega)
  have S0 : GS w (w.alloc (.cells #[.int .i64 (W : Int), .int .i64 (H : Int), .int .i64 (P : Int), .slice A xs.length c] 35)) [] [⟨w.heap.size, 35, #[.int .i64 (W : Int), .int .i64 (H : Int), .int .i64 (P : Int), .slice A xs.length c]⟩] :=
    GS.box' (GS.start w) _ _ w.heap.size (by simp)
  have HS := Lib.hid S0
  clear hr hl hf hR hT S0
  go_enter Try.func81, Try.ntmps81
  go_wp2
  generalize w.alloc (.cells #[.int .i64 (W : Int), .int .i64 (H : Int), .int .i64 (P : Int), .slice A xs.length c] 35) = u0 at *
  go_loopw [13, 14] (fun s i wr => ∃ r : Nat, r ≤ H ∧ i = .int .i64 (r : Int) ∧ s = .int .i64 (T r) ∧ Hid (GS w wr [] [⟨w.heap.size, 35, #[.int .i64 (W : Int), .int .i64 (H : Int), .int .i64 (P : Int), .slice A xs.length c]⟩])) (fun _ i _ => H - (intOf i).toNat)
  case atStart => exact ⟨0, Nat.zero_le _, rfl, by rw [HT0.out], HS⟩
  case round =>
    clear HS
    obtain ⟨r, hr, rfl, rfl, HS⟩ := hrel
    obtain ⟨m0, m1, m2, m3⟩ := HS.out.b0_4
    have hTb := HTb.out r hr
    obtain ⟨tb0, tb1⟩ := hTb
    by_cases hrH : r < H
    · have HRs : Hid (T r = T r + R r 0) := Lib.hid (by rw [HR0.out]; omega)
      have HTn : Hid (T (r + 1) = T r + R r W) := Lib.hid (by rw [HT.out]; rfl)
      go_wp2
      go_loopw [13, 15] (fun s i wr => ∃ k : Nat, k ≤ W ∧ i = .int .i64 (k : Int) ∧ s = .int .i64 (T r + R r k) ∧ Hid (GS w wr [] [⟨w.heap.size, 35, #[.int .i64 (W : Int), .int .i64 (H : Int), .int .i64 (P : Int), .slice A xs.length c]⟩])) (fun _ i _ => W - (intOf i).toNat)
      case atStart => exact ⟨0, Nat.zero_le _, rfl, by rw [← HRs.out], HS⟩
      case round =>
        clear HS m0 m1 m2 m3
        obtain ⟨k, hk, rfl, rfl, HS⟩ := hrel
        obtain ⟨m0, m1, m2, m3⟩ := HS.out.b0_4
        have hRb := HRb.out r k hrH hk
        obtain ⟨rb0, rb1⟩ := hRb
        obtain ⟨s, hs⟩ : ∃ s, s = T r + R r k := ⟨_, rfl⟩
        have hsb : 0 ≤ s ∧ s ≤ 20000000 := by omega
        obtain ⟨sb0, sb1⟩ := hsb
        have Hs := Lib.hid hs
        rw [← hs]
        by_cases hkW : k < W
        · obtain ⟨p1, q1, p2, q2, e1, e2, e3, e4, ⟨b1, b2, b3, b4⟩, hov⟩ := ov_facts (i := k) (a := a) (j := x) (W := W) (by omega) ha (by omega) hW
          obtain ⟨p3, q3, p4, q4, e5, e6, e7, e8, ⟨b5, b6, b7, b8⟩, hov2⟩ := ov_facts (i := r) (a := b) (j := y) (W := H) (by omega) hb (by omega) hH
          have f1 := wr_nat (n := p1) (by omega)
          have f2 := wr_nat (n := q1) (by omega)
          have f3 := wr_nat (n := p2) (by omega)
          have f4 := wr_nat (n := q2) (by omega)
          have f5 := wr_nat (n := p3) (by omega)
          have f6 := wr_nat (n := q3) (by omega)
          have f7 := wr_nat (n := p4) (by omega)
          have f8 := wr_nat (n := q4) (by omega)
          obtain ⟨o1, ho1⟩ : ∃ o, o = ovn k W x a := ⟨_, rfl⟩
          obtain ⟨o2, ho2⟩ : ∃ o, o = ovn r H y b := ⟨_, rfl⟩
          have ob1 : o1 ≤ 16 := by rw [ho1]; exact Nat.le_trans (ovn_le _ _ _ _) ha
          have ob2 : o2 ≤ 16 := by rw [ho2]; exact Nat.le_trans (ovn_le _ _ _ _) hb
          have HO1 : Hid (min q1 q2 - max p1 p2 = o1) := Lib.hid (by rw [ho1]; exact hov.out)
          have HO2 : Hid (min q3 q4 - max p3 p4 = o2) := Lib.hid (by rw [ho2]; exact hov2.out)
          have hlt := row_lt hkW hrH
          obtain ⟨j1, g1⟩ : ∃ q, q = r * W := ⟨_, rfl⟩
          obtain ⟨j2, g2⟩ : ∃ q, q = j1 + k := ⟨_, rfl⟩
          obtain ⟨j3, g3⟩ : ∃ q, q = j2 * P := ⟨_, rfl⟩
          obtain ⟨id, g4⟩ : ∃ k, k = j3 + p := ⟨_, rfl⟩
          have hj2 : j2 < W * H := by rw [g2, g1]; exact hlt
          have hid : id < xs.length := by
            rw [Hl.out, g4, g3]
            have := Nat.mul_le_mul_right P (show j2 + 1 ≤ W * H from hj2)
            rw [Nat.add_mul, Nat.one_mul] at this
            omega
          obtain ⟨bb, off, rfl, hb2, hcc⟩ := (HS.out.arg Hr.out).cells_ hid
          have hck := hcc id hid
          have ep : px W P xs k r p = xs.getD id 0 := by unfold px pix; rw [g4, g3, g2, g1]
          have hfb := HF.out k r hkW hrH
          have htm := HTm.out r k hrH hkW
          rw [ep] at hfb htm
          rw [← ho1, ← ho2] at htm
          obtain ⟨z, hz⟩ : ∃ z, z = xs.getD id 0 := ⟨_, rfl⟩
          rw [← hz] at hck hfb htm
          obtain ⟨zb0, zb1⟩ := hfb
          obtain ⟨o12, h12⟩ : ∃ o : Nat, o = o1 * o2 := ⟨_, rfl⟩
          have ob12 : o12 ≤ 256 := by rw [h12]; have := Nat.mul_le_mul ob1 ob2; omega
          have e12 : (o1 : Int) * (o2 : Int) = (o12 : Int) := by rw [h12]; simp
          rw [e12] at htm
          obtain ⟨t, ht⟩ : ∃ t, t = (o12 : Int) * z := ⟨_, rfl⟩
          rw [← ht] at htm
          obtain ⟨tm0, tm1⟩ := htm
          have HN : Hid (T r + R r (k + 1) = s + t) := Lib.hid (by
            have : R r (k + 1) = R r k + t := by
              have hterm : (ovn k W x a : Int) * (ovn r H y b : Int) * px W P xs k r p = t := by rw [ep, ← ho1, ← ho2, e12, ← hz, ← ht]
              rw [HR.out]
              show sumN _ k + (ovn k W x a : Int) * (ovn r H y b : Int) * px W P xs k r p = sumN _ k + t
              rw [hterm]
            rw [this, hs]; omega)
          have et : (o12 : Int) * z = t := ht.symm
          have i1 : (r : Int) * (W : Int) = (j1 : Int) := by rw [g1]; simp
          have i2 : (j1 : Int) + (k : Int) = (j2 : Int) := by rw [g2]; simp
          have i3 : (j2 : Int) * (P : Int) = (j3 : Int) := by rw [g3]; simp
          have i4 : (j3 : Int) + (p : Int) = (id : Int) := by rw [g4]; simp
          have w1 := wr_nat (n := j1) (by omega)
          have w2 := wr_nat (n := j2) (by omega)
          have w3 := wr_nat (n := j3) (by omega)
          have w4 := wr_nat (n := id) (by omega)
          have w5 := wr_nat (n := o12) (by omega)
          have w6 : IntKind.i64.wrap t = t := IntWalk.i64_in _ (by omega)
          have w7 : IntKind.i64.wrap (s + t) = s + t := IntWalk.i64_in _ (by omega)
          have hidI : (id : Int) < (xs.length : Int) := by omega
          clear hcc g1 g2 g3 g4 hj2 ep hz ho1 ho2 h12 ht hs hov hov2 hlt tb0 tb1 rb0 rb1
          go_wp2_with fail
          refine (sOvl_any p1 q1 p2 q2 (by omega) (by omega) (by omega) (by omega) wr).mono ?_
          rintro e w' ⟨rfl, rfl⟩
          rw [HO1.out]
          go_wp2_with fail
          refine (sOvl_any p3 q3 p4 q4 (by omega) (by omega) (by omega) (by omega) wr).mono ?_
          rintro e w' ⟨rfl, rfl⟩
          rw [HO2.out]
          go_wp2
          go_roundw
          case rel => exact ⟨k + 1, by omega, by go_num, by rw [HN.out], HS⟩
          case measure => simp [intOf]; omega
        · have hkW' : k = W := by omega
          have HQ : Hid (s = T (r + 1)) := Lib.hid (by rw [hs, HTn.out, hkW'])
          clear hs
          go_wp2
          go_roundw
          case rel => exact ⟨r + 1, by omega, by go_num, by rw [← HQ.out], HS⟩
          case measure => simp [intOf]; omega
    · have hrH' : r = H := by omega
      have HQ : Hid (T r = saF W H a b (fun x y => px W P xs x y p) x y) := Lib.hid (by rw [hrH']; exact HE.out)
      have HB := Lib.hid HS.out.below
      clear HS
      go_wp2
      go_ret
      exact ⟨by rw [← HQ.out]; rfl, HB.out⟩
end Go.Proofs.Ytmkfgcmabmocfaa
