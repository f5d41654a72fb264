/- Contracts of partsOf and between in the model. -/
import Derived.Test.YtaejhodikpjeoaaThrM
import Derived.Test.YtaejhodikpjeoaaHisS
namespace Go.Proofs.Ytaejhodikpjeoaa
open Go.RowKit Go.Shelf
set_option linter.unusedSimpArgs false
set_option linter.unusedVariables false
set_option maxRecDepth 20000

set_option maxHeartbeats 8000000 in
theorem s_partsOf (cs : List Int) (hC : ThC cs) (t : Nat) (ht : t ≤ 256) (A : Option Addr) (c : Nat) (w : World) (hr : Rds .i64 w w.heap.size A cs) :
    Calls Try.prog 16 #[.slice A cs.length c, .int .i64 t] w fun e w' => e = .returned (.tuple #[.int .i64 (thA cs t), .int .i64 (thB cs t)]) ∧ w' = w := by
  obtain ⟨b, off, rfl, hb1, hc⟩ := hr.cells_ (show 0 < cs.length by rw [hC.len]; omega)
  have hlen := hC.len
  have HC := Lib.hid hc
  have HH := Lib.hid hC
  clear hc hr hC
  have hst := HH.out.bds t ht
  go_enter Try.func16, Try.ntmps16
  go_wp2
  go_loopw [6, 7] (fun s i wr => ∃ k : Nat, k ≤ t ∧ i = .int .i64 k ∧ s = .int .i64 (sm cs k) ∧ wr = w) (fun _ i _ => t - (intOf i).toNat)
  case atStart => exact ⟨0, Nat.zero_le _, rfl, rfl, rfl⟩
  case round =>
    obtain ⟨k, hk, rfl, rfl, hwr⟩ := hrel
    subst hwr
    rename World => wv
    by_cases hlt : k < t
    · have hck := HC.out k (by omega)
      obtain ⟨s0, s1, _, _⟩ := HH.out.bds k (by omega)
      obtain ⟨y0, y1, _, _⟩ := HH.out.one k (by omega)
      have HE : Hid (sm cs (k + 1) = sm cs k + cs.getD k 0) := Lib.hid rfl
      have hlen2 : k < cs.length := by omega
      generalize cs.getD k 0 = y at *
      generalize sm cs k = s at *
      have hkt : (k : Int) < t := by omega
      have hw : IntKind.i64.wrap (s + y) = s + y := IntWalk.i64_in _ (by omega)
      go_wp2
      go_roundw
      case rel => exact ⟨k + 1, by omega, by go_num, by rw [HE.out], by trivial⟩
      case measure => simp [intOf]; omega
    · obtain rfl : k = t := by omega
      obtain ⟨s0, s1, _, _⟩ := hst
      obtain ⟨a, ha⟩ : ∃ a, a = sm cs k := ⟨_, rfl⟩
      have HA := Lib.hid ha
      rw [← ha] at s0 s1 ⊢
      clear ha
      have hw : IntKind.i64.wrap (-a) = -a := IntWalk.i64_in _ (by omega)
      go_wp2
      go_loopw [8, 9] (fun s i wr => ∃ n : Nat, n ≤ 256 ∧ i = .int .i64 n ∧ s = .int .i64 (sm cs n - a) ∧ wr = wv) (fun _ i _ => 256 - (intOf i).toNat)
      case atStart => exact ⟨0, Nat.zero_le _, rfl, by simp [sm], rfl⟩
      case round =>
        obtain ⟨n, hn, rfl, rfl, rfl⟩ := hrel
        by_cases hlt2 : n < 256
        · have hck := HC.out n (by omega)
          obtain ⟨z0, z1, _, _⟩ := HH.out.bds n (by omega)
          obtain ⟨y0, y1, _, _⟩ := HH.out.one n (by omega)
          have HE : Hid (sm cs (n + 1) = sm cs n + cs.getD n 0) := Lib.hid rfl
          have hlen2 : n < cs.length := by omega
          generalize cs.getD n 0 = y at *
          generalize sm cs n = s at *
          obtain ⟨d, hd⟩ : ∃ d, d = s - a := ⟨_, rfl⟩
          rw [← hd]
          have hkt : (n : Int) < 256 := by omega
          have hw2 : IntKind.i64.wrap (d + y) = d + y := IntWalk.i64_in _ (by omega)
          go_wp2
          go_roundw
          case rel => exact ⟨n + 1, by omega, by go_num, by rw [HE.out]; refine congrArg _ ?_; omega, by trivial⟩
          case measure => simp [intOf]; omega
        · have hn6 : n = 256 := by omega
          have e : sm cs n - a = thB cs k := by rw [hn6, HA.out]; rfl
          have hkt : ¬ (n : Int) < 256 := by omega
          rw [e]
          clear e hn6
          go_wp2
          go_ret2
          exact ⟨by rw [HA.out]; rfl, rfl⟩
set_option maxHeartbeats 8000000 in
theorem s_between (cs : List Int) (hC : ThC cs) (t : Nat) (ht : t ≤ 256) (A : Option Addr) (c : Nat) (w : World) (hr : Rds .i64 w w.heap.size A cs) :
    Calls Try.prog 17 #[.slice A cs.length c, .int .i64 t] w fun e w' => e = .returned (.int .i64 (thD cs t)) ∧ w' = w := by
  obtain ⟨b, off, rfl, hb1, hc⟩ := hr.cells_ (show 0 < cs.length by rw [hC.len]; omega)
  have hlen := hC.len
  have HC := Lib.hid hc
  have HH := Lib.hid hC
  clear hc hr hC
  obtain ⟨e1, e2, e3, e4⟩ := b_zero cs t
  go_enter Try.func17, Try.ntmps17
  go_wp2
  go_loopw [5, 6, 7, 8, 9] (fun a b x y i wr => ∃ k : Nat, k ≤ 256 ∧ i = .int .i64 k ∧ a = .int .i64 (bA cs t k) ∧ b = .int .i64 (bB cs t k) ∧ x = .int .i64 (bX cs t k) ∧ y = .int .i64 (bY cs t k) ∧ wr = w) (fun _ _ _ _ i _ => 256 - (intOf i).toNat)
  case atStart => exact ⟨0, Nat.zero_le _, rfl, by rw [e1], by rw [e2], by rw [e3], by rw [e4], rfl⟩
  case round =>
    clear e1 e2 e3 e4
    obtain ⟨k, hk, rfl, rfl, rfl, rfl, rfl, rfl⟩ := hrel
    obtain ⟨a0, a1, b0, b1, x0, x1, y0, y1⟩ := HH.out.b_bd t k hk
    by_cases hlt : k < 256
    · have hck := HC.out k (by omega)
      obtain ⟨g0, g1, m0, m1⟩ := HH.out.one k (by omega)
      have hlen2 : k < cs.length := by omega
      have hk6 : (k : Int) < 256 := by omega
      obtain ⟨m, hm⟩ : ∃ m, m = (k : Int) * cs.getD k 0 := ⟨_, rfl⟩
      rw [← hm] at m0 m1
      by_cases hkt : k < t
      · have HE := Lib.hid (bLow cs hkt)
        rw [← hm] at HE
        have hkt : (k : Int) < t := by omega
        generalize cs.getD k 0 = g at *
        generalize bA cs t k = a at *
        generalize bB cs t k = b at *
        generalize bX cs t k = x at *
        generalize bY cs t k = y at *
        have hw0 : IntKind.i64.wrap ((k : Int) * g) = m := by rw [← hm]; exact IntWalk.i64_in _ (by omega)
        have hw1 : IntKind.i64.wrap (a + g) = a + g := IntWalk.i64_in _ (by omega)
        have hw2 : IntKind.i64.wrap (x + m) = x + m := IntWalk.i64_in _ (by omega)
        clear hm
        go_wp2
        go_roundw
        case rel => exact ⟨k + 1, by omega, by go_num, by rw [HE.out.1], by rw [HE.out.2.2.1], by rw [HE.out.2.1], by rw [HE.out.2.2.2], by trivial⟩
        case measure => simp [intOf]; omega
      · have HE := Lib.hid (bHigh cs hkt)
        rw [← hm] at HE
        have hkt : ¬ (k : Int) < t := by omega
        generalize cs.getD k 0 = g at *
        generalize bA cs t k = a at *
        generalize bB cs t k = b at *
        generalize bX cs t k = x at *
        generalize bY cs t k = y at *
        have hw0 : IntKind.i64.wrap ((k : Int) * g) = m := by rw [← hm]; exact IntWalk.i64_in _ (by omega)
        have hw1 : IntKind.i64.wrap (b + g) = b + g := IntWalk.i64_in _ (by omega)
        have hw2 : IntKind.i64.wrap (y + m) = y + m := IntWalk.i64_in _ (by omega)
        clear hm
        go_wp2
        go_roundw
        case rel => exact ⟨k + 1, by omega, by go_num, by rw [HE.out.1], by rw [HE.out.2.2.1], by rw [HE.out.2.1], by rw [HE.out.2.2.2], by trivial⟩
        case measure => simp [intOf]; omega
    · have hn6 : k = 256 := by omega
      have hk6 : ¬ (k : Int) < 256 := by omega
      obtain ⟨e1, e2, e3, e4⟩ := bEnd cs ht
      have HD : Hid (thD cs t = bA cs t k * bY cs t k - bB cs t k * bX cs t k) := Lib.hid (by rw [hn6, e1, e2, e3, e4]; rfl)
      clear e1 e2 e3 e4 hn6
      generalize bA cs t k = a at *
      generalize bB cs t k = b at *
      generalize bX cs t k = x at *
      generalize bY cs t k = y at *
      obtain ⟨p0, p1⟩ := thMul a0 a1 y0 y1
      obtain ⟨q0, q1⟩ := thMul b0 b1 x0 x1
      obtain ⟨p, hp⟩ : ∃ p, p = a * y := ⟨_, rfl⟩
      obtain ⟨q, hq⟩ : ∃ q, q = b * x := ⟨_, rfl⟩
      rw [← hp] at p0 p1 HD
      rw [← hq] at q0 q1 HD
      have hw1 : IntKind.i64.wrap (a * y) = p := by rw [← hp]; exact IntWalk.i64_in _ (by omega)
      have hw2 : IntKind.i64.wrap (b * x) = q := by rw [← hq]; exact IntWalk.i64_in _ (by omega)
      have hw3 : IntKind.i64.wrap (p - q) = p - q := IntWalk.i64_in _ (by omega)
      clear hp hq
      go_wp2
      go_ret
      rw [HD.out]
      exact ⟨rfl, rfl⟩
end Go.Proofs.Ytaejhodikpjeoaa
