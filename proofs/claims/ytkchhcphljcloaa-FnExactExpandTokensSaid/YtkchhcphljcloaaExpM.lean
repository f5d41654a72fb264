/- Mathematics of expanded tokens, and contracts of valid tokens in the model and in the program. -/
import Derived.Test.YtkchhcphljcloaaTri
namespace Go.Proofs.Ytkchhcphljcloaa
open Go.RowKit
set_option linter.unusedSimpArgs false
set_option linter.unusedVariables false
set_option maxRecDepth 20000

/-- Whether a token is valid behind so many bytes. -/
def tokB (B L K : Int) (have_ : Nat) : Bool := if L = 0 then decide (K = 0) && decide (0 ≤ B ∧ B ≤ 255) else decide (B = 0) && (decide (3 ≤ L ∧ L ≤ 18) && decide (1 ≤ K ∧ K ≤ min (have_ : Int) 64))
/-- The last number but K - 1, again and again. -/
def cpy (l : List Int) (K : Nat) : Nat → List Int
  | 0 => l
  | i + 1 => cpy l K i ++ [(cpy l K i).getD ((cpy l K i).length - K) 0]
theorem cpy_len (l : List Int) (K : Nat) : ∀ i, (cpy l K i).length = l.length + i
  | 0 => rfl
  | i + 1 => by unfold cpy; rw [List.length_append, cpy_len l K i]; simp; omega
theorem cpy_succ (l : List Int) (K i : Nat) : cpy l K (i + 1) = cpy l K i ++ [(cpy l K i).getD (l.length + i - K) 0] := by
  show cpy l K i ++ [(cpy l K i).getD ((cpy l K i).length - K) 0] = _
  rw [cpy_len]
def oneT (l : List Int) (B L K : Int) : List Int := if L = 0 then l ++ [B] else cpy l K.toNat L.toNat
def fitT (l : List Int) (L : Int) : Bool := decide ((l.length : Int) + max L 1 ≤ 1200)
def stepT (l : List Int) (B L K : Int) : Option (List Int) := if (tokB B L K l.length && fitT l L) = true then some (oneT l B L K) else none
/-- The bytes of the first k tokens. -/
def exT (xs : List Int) : Nat → Option (List Int)
  | 0 => some []
  | k + 1 => (exT xs k).bind fun l => stepT l (xs.getD (k * 3) 0) (xs.getD (k * 3 + 1) 0) (xs.getD (k * 3 + 2) 0)
def exL (xs : List Int) (n : Nat) : List Int := (exT xs n).getD []
def exO (xs : List Int) (n : Nat) : Bool := (exT xs n).isSome
theorem ex_none {xs : List Int} {k : Nat} (h : exT xs k = none) : ∀ {n}, k ≤ n → exT xs n = none := by
  intro n hn
  induction n with
  | zero => rw [show k = 0 by omega] at h; exact h
  | succ n ih =>
    by_cases e : k = n + 1
    · rw [e] at h; exact h
    · unfold exT; rw [ih (by omega)]; rfl
theorem ex_step {xs : List Int} {k : Nat} {l : List Int} (h : exT xs k = some l) : exT xs (k + 1) = stepT l (xs.getD (k * 3) 0) (xs.getD (k * 3 + 1) 0) (xs.getD (k * 3 + 2) 0) := by
  show (exT xs k).bind _ = _
  rw [h]; rfl
theorem step_bad {l : List Int} {B L K : Int} (h : tokB B L K l.length = false) : stepT l B L K = none := by unfold stepT; rw [h]; rfl
theorem step_full {l : List Int} {B L K : Int} (h : fitT l L = false) : stepT l B L K = none := by unfold stepT; rw [h, Bool.and_false]; rfl
theorem step_ok {l : List Int} {B L K : Int} (h : tokB B L K l.length = true) (h2 : fitT l L = true) : stepT l B L K = some (oneT l B L K) := by unfold stepT; rw [h, h2]; rfl
theorem ex_len {xs : List Int} : ∀ {k : Nat} {l : List Int}, exT xs k = some l → l.length ≤ 1200
  | 0, l, h => by have := Option.some.inj h; subst this; simp
  | k + 1, l, h => by
    cases hk : exT xs k with
    | none => rw [ex_none hk (Nat.le_succ k)] at h; cases h
    | some l' =>
      rw [ex_step hk] at h
      unfold stepT at h
      split at h
      · next hc =>
        have hl := Option.some.inj h
        subst hl
        simp only [Bool.and_eq_true] at hc
        have hf := of_decide_eq_true hc.2
        unfold oneT
        split
        · simp; omega
        · rw [cpy_len]; omega
      · cases h
theorem exL_len (xs : List Int) (n : Nat) : (exL xs n).length ≤ 1200 := by
  unfold exL
  cases h : exT xs n with
  | none => simp
  | some l => exact ex_len h
theorem tok_zero {B K : Int} {m : Nat} (h : tokB B 0 K m = true) : 0 ≤ B ∧ B ≤ 255 := by
  unfold tokB at h; rw [if_pos rfl, Bool.and_eq_true] at h
  exact of_decide_eq_true h.2
theorem tok_pos {B L K : Int} {m : Nat} (h : tokB B L K m = true) (hL : ¬ L = 0) : (3 ≤ L ∧ L ≤ 18) ∧ (1 ≤ K ∧ K ≤ m ∧ K ≤ 64) := by
  unfold tokB at h; rw [if_neg hL, Bool.and_eq_true, Bool.and_eq_true] at h
  have h1 := of_decide_eq_true h.2.1
  have h2 := of_decide_eq_true h.2.2
  omega
set_option maxHeartbeats 1000000 in
theorem sTr_any (n lo hi : Int) (w : World) : Calls Try.prog 56 #[.int .i64 n, .int .i64 lo, .int .i64 hi] w fun e w' => e = .returned (.bool (decide (lo ≤ n ∧ n ≤ hi))) ∧ w = w' := by
  by_cases h1 : lo ≤ n <;> by_cases h2 : n ≤ hi
  all_goals
    go_enter Try.func56, Try.ntmps56
    go_wp2
    go_ret
    exact ⟨ret_bool (by simp [h1, h2] <;> omega), rfl⟩
set_option maxHeartbeats 1000000 in
theorem iTr_any (n lo hi : Int) (w : World) : Calls Try.prog 85 #[.int .i64 n, .int .i64 lo, .int .i64 hi] w fun e w' => e = .returned (.bool (decide (lo ≤ n ∧ n ≤ hi))) ∧ w = w' := by
  by_cases h1 : lo ≤ n <;> by_cases h2 : n ≤ hi
  all_goals
    go_enter Try.func85, Try.ntmps85
    go_wp2
    go_ret
    exact ⟨ret_bool (by simp [h1, h2] <;> omega), rfl⟩
set_option maxHeartbeats 4000000 in
theorem sVt_any (B L K : Int) (m : Nat) (w : World) (hm : m ≤ 1000000) :
    Calls Try.prog 71 #[.agg #[.int .i64 B, .int .i64 L, .int .i64 K], .int .i64 m] w fun e w' => e = .returned (.bool (tokB B L K m)) ∧ Below w.heap.size w w' := by
  by_cases hL : L = 0
  · have hL' : (L == 0) = true := by rw [hL]; rfl
    have HT : Hid (tokB B L K m = (decide (K = 0) && decide (0 ≤ B ∧ B ≤ 255))) := Lib.hid (if_pos hL)
    clear hL
    by_cases hK : K = 0
    · have hK' : (K == 0) = true := by rw [hK]; rfl
      have HT2 : Hid (tokB B L K m = decide (0 ≤ B ∧ B ≤ 255)) := Lib.hid (by rw [HT.out, decide_eq_true hK, Bool.true_and])
      clear hK
      go_enter Try.func71, Try.ntmps71
      go_wp2_with fail
      refine (sTr_any _ _ _ _).mono ?_
      rintro e w' ⟨rfl, rfl⟩
      rw [← HT2.out]
      go_wp2
      go_ret
      exact ⟨rfl, by (repeat' (first | (exact Below.refl _ _) | (refine Below.setCell ?_ (by first | omega | (simp; done) | (simp; omega)) _) | (refine below_dn ?_ _) | (refine Below.drew ?_) | (refine Below.alloc ?_ (by first | omega | (simp; done) | (simp; omega)) _) | (exact Below.refl _ _)))⟩
    · have hK' : (K == 0) = false := beq_eq_false_iff_ne.2 hK
      have HT2 : Hid (tokB B L K m = false) := Lib.hid (by rw [HT.out, decide_eq_false hK, Bool.false_and])
      clear hK
      go_enter Try.func71, Try.ntmps71
      go_wp2
      go_ret
      exact ⟨ret_bool HT2.out.symm, by (repeat' (first | (exact Below.refl _ _) | (refine Below.setCell ?_ (by first | omega | (simp; done) | (simp; omega)) _) | (refine below_dn ?_ _) | (refine Below.drew ?_) | (refine Below.alloc ?_ (by first | omega | (simp; done) | (simp; omega)) _) | (exact Below.refl _ _)))⟩
  · have hL' : (L == 0) = false := beq_eq_false_iff_ne.2 hL
    have HT : Hid (tokB B L K m = (decide (B = 0) && (decide (3 ≤ L ∧ L ≤ 18) && decide (1 ≤ K ∧ K ≤ min (m : Int) 64)))) := Lib.hid (if_neg hL)
    clear hL
    by_cases hB : B = 0
    · have hB' : (B == 0) = true := by rw [hB]; rfl
      have HT2 : Hid (tokB B L K m = (decide (3 ≤ L ∧ L ≤ 18) && decide (1 ≤ K ∧ K ≤ min (m : Int) 64))) := Lib.hid (by rw [HT.out, decide_eq_true hB, Bool.true_and])
      clear hB HT
      cases h3 : decide (3 ≤ L ∧ L ≤ 18)
      · have HT3 : Hid (tokB B L K m = false) := Lib.hid (by rw [HT2.out, h3, Bool.false_and])
        go_enter Try.func71, Try.ntmps71
        go_wp2_with fail
        refine (sTr_any _ _ _ _).mono ?_
        rintro e w' ⟨rfl, rfl⟩
        rw [h3]
        go_wp2
        go_ret
        exact ⟨ret_bool HT3.out.symm, by (repeat' (first | (exact Below.refl _ _) | (refine Below.setCell ?_ (by first | omega | (simp; done) | (simp; omega)) _) | (refine below_dn ?_ _) | (refine Below.drew ?_) | (refine Below.alloc ?_ (by first | omega | (simp; done) | (simp; omega)) _) | (exact Below.refl _ _)))⟩
      · have HT3 : Hid (tokB B L K m = decide (1 ≤ K ∧ K ≤ min (m : Int) 64)) := Lib.hid (by rw [HT2.out, h3, Bool.true_and])
        by_cases hm2 : m ≤ 64
        · have HM : Hid (min (m : Int) 64 = m) := Lib.hid (by omega)
          rw [HM.out] at HT3
          by_cases hm3 : m = 64
          · have hm4 : ((m : Nat) : Int) = 64 := by omega
            subst hm3
            go_enter Try.func71, Try.ntmps71
            go_wp2_with fail
            refine (sTr_any _ _ _ _).mono ?_
            rintro e w' ⟨rfl, rfl⟩
            rw [h3]
            go_wp2_with fail
            all_goals
              refine (sTr_any K 1 64 _).mono ?_
              rintro e w' ⟨rfl, rfl⟩
              go_wp2
              go_ret
              exact ⟨ret_bool (by rw [HT3.out]; simp), by (repeat' (first | (exact Below.refl _ _) | (refine Below.setCell ?_ (by first | omega | (simp; done) | (simp; omega)) _) | (refine below_dn ?_ _) | (refine Below.drew ?_) | (refine Below.alloc ?_ (by first | omega | (simp; done) | (simp; omega)) _) | (exact Below.refl _ _)))⟩
          · have hm4 : m < 64 := by omega
            clear hm3
            go_enter Try.func71, Try.ntmps71
            go_wp2_with fail
            refine (sTr_any _ _ _ _).mono ?_
            rintro e w' ⟨rfl, rfl⟩
            rw [h3]
            go_wp2_with fail
            refine (sTr_any K 1 m _).mono ?_
            rintro e w' ⟨rfl, rfl⟩
            rw [← HT3.out]
            go_wp2
            go_ret
            exact ⟨rfl, by (repeat' (first | (exact Below.refl _ _) | (refine Below.setCell ?_ (by first | omega | (simp; done) | (simp; omega)) _) | (refine below_dn ?_ _) | (refine Below.drew ?_) | (refine Below.alloc ?_ (by first | omega | (simp; done) | (simp; omega)) _) | (exact Below.refl _ _)))⟩
        · have HM : Hid (min (m : Int) 64 = 64) := Lib.hid (by omega)
          rw [HM.out] at HT3
          go_enter Try.func71, Try.ntmps71
          go_wp2_with fail
          refine (sTr_any _ _ _ _).mono ?_
          rintro e w' ⟨rfl, rfl⟩
          rw [h3]
          go_wp2_with fail
          refine (sTr_any K 1 64 _).mono ?_
          rintro e w' ⟨rfl, rfl⟩
          rw [← HT3.out]
          go_wp2
          go_ret
          exact ⟨rfl, by (repeat' (first | (exact Below.refl _ _) | (refine Below.setCell ?_ (by first | omega | (simp; done) | (simp; omega)) _) | (refine below_dn ?_ _) | (refine Below.drew ?_) | (refine Below.alloc ?_ (by first | omega | (simp; done) | (simp; omega)) _) | (exact Below.refl _ _)))⟩
    · have hB' : (B == 0) = false := beq_eq_false_iff_ne.2 hB
      have HT2 : Hid (tokB B L K m = false) := Lib.hid (by rw [HT.out, decide_eq_false hB, Bool.false_and])
      clear hB
      go_enter Try.func71, Try.ntmps71
      go_wp2
      go_ret
      exact ⟨ret_bool HT2.out.symm, by (repeat' (first | (exact Below.refl _ _) | (refine Below.setCell ?_ (by first | omega | (simp; done) | (simp; omega)) _) | (refine below_dn ?_ _) | (refine Below.drew ?_) | (refine Below.alloc ?_ (by first | omega | (simp; done) | (simp; omega)) _) | (exact Below.refl _ _)))⟩
set_option maxHeartbeats 4000000 in
theorem iVt_any (B L K : Int) (m : Nat) (w : World) (hm : m ≤ 1000000) :
    Calls Try.prog 72 #[.agg #[.int .i64 B, .int .i64 L, .int .i64 K], .int .i64 m] w fun e w' => e = .returned (.bool (tokB B L K m)) ∧ Below w.heap.size w w' := by
  by_cases hL : L = 0
  · have hL' : (L == 0) = true := by rw [hL]; rfl
    have HT : Hid (tokB B L K m = (decide (K = 0) && decide (0 ≤ B ∧ B ≤ 255))) := Lib.hid (if_pos hL)
    clear hL
    by_cases hK : K = 0
    · have hK' : (K == 0) = true := by rw [hK]; rfl
      have HT2 : Hid (tokB B L K m = decide (0 ≤ B ∧ B ≤ 255)) := Lib.hid (by rw [HT.out, decide_eq_true hK, Bool.true_and])
      clear hK
      go_enter Try.func72, Try.ntmps72
      go_wp2_with fail
      refine (iTr_any _ _ _ _).mono ?_
      rintro e w' ⟨rfl, rfl⟩
      rw [← HT2.out]
      go_wp2
      go_ret
      exact ⟨rfl, by (repeat' (first | (exact Below.refl _ _) | (refine Below.setCell ?_ (by first | omega | (simp; done) | (simp; omega)) _) | (refine below_dn ?_ _) | (refine Below.drew ?_) | (refine Below.alloc ?_ (by first | omega | (simp; done) | (simp; omega)) _) | (exact Below.refl _ _)))⟩
    · have hK' : (K == 0) = false := beq_eq_false_iff_ne.2 hK
      have HT2 : Hid (tokB B L K m = false) := Lib.hid (by rw [HT.out, decide_eq_false hK, Bool.false_and])
      clear hK
      go_enter Try.func72, Try.ntmps72
      go_wp2
      go_ret
      exact ⟨ret_bool HT2.out.symm, by (repeat' (first | (exact Below.refl _ _) | (refine Below.setCell ?_ (by first | omega | (simp; done) | (simp; omega)) _) | (refine below_dn ?_ _) | (refine Below.drew ?_) | (refine Below.alloc ?_ (by first | omega | (simp; done) | (simp; omega)) _) | (exact Below.refl _ _)))⟩
  · have hL' : (L == 0) = false := beq_eq_false_iff_ne.2 hL
    have HT : Hid (tokB B L K m = (decide (B = 0) && (decide (3 ≤ L ∧ L ≤ 18) && decide (1 ≤ K ∧ K ≤ min (m : Int) 64)))) := Lib.hid (if_neg hL)
    clear hL
    by_cases hB : B = 0
    · have hB' : (B == 0) = true := by rw [hB]; rfl
      have HT2 : Hid (tokB B L K m = (decide (3 ≤ L ∧ L ≤ 18) && decide (1 ≤ K ∧ K ≤ min (m : Int) 64))) := Lib.hid (by rw [HT.out, decide_eq_true hB, Bool.true_and])
      clear hB HT
      cases h3 : decide (3 ≤ L ∧ L ≤ 18)
      · have HT3 : Hid (tokB B L K m = false) := Lib.hid (by rw [HT2.out, h3, Bool.false_and])
        go_enter Try.func72, Try.ntmps72
        go_wp2_with fail
        refine (iTr_any _ _ _ _).mono ?_
        rintro e w' ⟨rfl, rfl⟩
        rw [h3]
        go_wp2
        go_ret
        exact ⟨ret_bool HT3.out.symm, by (repeat' (first | (exact Below.refl _ _) | (refine Below.setCell ?_ (by first | omega | (simp; done) | (simp; omega)) _) | (refine below_dn ?_ _) | (refine Below.drew ?_) | (refine Below.alloc ?_ (by first | omega | (simp; done) | (simp; omega)) _) | (exact Below.refl _ _)))⟩
      · have HT3 : Hid (tokB B L K m = decide (1 ≤ K ∧ K ≤ min (m : Int) 64)) := Lib.hid (by rw [HT2.out, h3, Bool.true_and])
        by_cases hm2 : m ≤ 64
        · have HM : Hid (min (m : Int) 64 = m) := Lib.hid (by omega)
          rw [HM.out] at HT3
          by_cases hm3 : m = 64
          · have hm4 : ((m : Nat) : Int) = 64 := by omega
            subst hm3
            go_enter Try.func72, Try.ntmps72
            go_wp2_with fail
            refine (iTr_any _ _ _ _).mono ?_
            rintro e w' ⟨rfl, rfl⟩
            rw [h3]
            go_wp2_with fail
            all_goals
              refine (iTr_any K 1 64 _).mono ?_
              rintro e w' ⟨rfl, rfl⟩
              go_wp2
              go_ret
              exact ⟨ret_bool (by rw [HT3.out]; simp), by (repeat' (first | (exact Below.refl _ _) | (refine Below.setCell ?_ (by first | omega | (simp; done) | (simp; omega)) _) | (refine below_dn ?_ _) | (refine Below.drew ?_) | (refine Below.alloc ?_ (by first | omega | (simp; done) | (simp; omega)) _) | (exact Below.refl _ _)))⟩
          · have hm4 : m < 64 := by omega
            clear hm3
            go_enter Try.func72, Try.ntmps72
            go_wp2_with fail
            refine (iTr_any _ _ _ _).mono ?_
            rintro e w' ⟨rfl, rfl⟩
            rw [h3]
            go_wp2_with fail
            refine (iTr_any K 1 m _).mono ?_
            rintro e w' ⟨rfl, rfl⟩
            rw [← HT3.out]
            go_wp2
            go_ret
            exact ⟨rfl, by (repeat' (first | (exact Below.refl _ _) | (refine Below.setCell ?_ (by first | omega | (simp; done) | (simp; omega)) _) | (refine below_dn ?_ _) | (refine Below.drew ?_) | (refine Below.alloc ?_ (by first | omega | (simp; done) | (simp; omega)) _) | (exact Below.refl _ _)))⟩
        · have HM : Hid (min (m : Int) 64 = 64) := Lib.hid (by omega)
          rw [HM.out] at HT3
          go_enter Try.func72, Try.ntmps72
          go_wp2_with fail
          refine (iTr_any _ _ _ _).mono ?_
          rintro e w' ⟨rfl, rfl⟩
          rw [h3]
          go_wp2_with fail
          refine (iTr_any K 1 64 _).mono ?_
          rintro e w' ⟨rfl, rfl⟩
          rw [← HT3.out]
          go_wp2
          go_ret
          exact ⟨rfl, by (repeat' (first | (exact Below.refl _ _) | (refine Below.setCell ?_ (by first | omega | (simp; done) | (simp; omega)) _) | (refine below_dn ?_ _) | (refine Below.drew ?_) | (refine Below.alloc ?_ (by first | omega | (simp; done) | (simp; omega)) _) | (exact Below.refl _ _)))⟩
    · have hB' : (B == 0) = false := beq_eq_false_iff_ne.2 hB
      have HT2 : Hid (tokB B L K m = false) := Lib.hid (by rw [HT.out, decide_eq_false hB, Bool.false_and])
      clear hB
      go_enter Try.func72, Try.ntmps72
      go_wp2
      go_ret
      exact ⟨ret_bool HT2.out.symm, by (repeat' (first | (exact Below.refl _ _) | (refine Below.setCell ?_ (by first | omega | (simp; done) | (simp; omega)) _) | (refine below_dn ?_ _) | (refine Below.drew ?_) | (refine Below.alloc ?_ (by first | omega | (simp; done) | (simp; omega)) _) | (exact Below.refl _ _)))⟩
set_option maxHeartbeats 2000000 in
theorem iSize_any (B L K : Int) (w : World) (h : L = 0 ∨ 3 ≤ L) :
    Calls Try.prog 73 #[.agg #[.int .i64 B, .int .i64 L, .int .i64 K]] w fun e w' => e = .returned (.int .i64 (max L 1)) ∧ Below w.heap.size w w' := by
  rcases h with rfl | h
  · go_enter Try.func73, Try.ntmps73
    go_wp2
    go_ret
    exact ⟨rfl, by (repeat' (first | (exact Below.refl _ _) | (refine Below.setCell ?_ (by first | omega | (simp; done) | (simp; omega)) _) | (refine below_dn ?_ _) | (refine Below.drew ?_) | (refine Below.alloc ?_ (by first | omega | (simp; done) | (simp; omega)) _) | (exact Below.refl _ _)))⟩
  · have HM : Hid (max L 1 = L) := Lib.hid (by omega)
    go_enter Try.func73, Try.ntmps73
    go_wp2
    go_ret
    exact ⟨ret_int HM.out.symm, by (repeat' (first | (exact Below.refl _ _) | (refine Below.setCell ?_ (by first | omega | (simp; done) | (simp; omega)) _) | (refine below_dn ?_ _) | (refine Below.drew ?_) | (refine Below.alloc ?_ (by first | omega | (simp; done) | (simp; omega)) _) | (exact Below.refl _ _)))⟩
end Go.Proofs.Ytkchhcphljcloaa
