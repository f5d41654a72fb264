/- Contracts of sprites that fit and of LeastHeight, in the model and in the program. -/
import Derived.Test.YtgieijogopcjnaaNa
import Derived.Test.YtgieijogopcjnaaFitB
namespace Go.Proofs.Ytgieijogopcjnaa
open Go.RowKit
set_option linter.unusedSimpArgs false
set_option linter.unusedVariables false
set_option maxRecDepth 20000

def okS (W : Int) (xs : List Int) (k : Nat) : Bool := decide (1 ≤ xs.getD (k * 2) 0 ∧ xs.getD (k * 2) 0 ≤ W) && decide (1 ≤ xs.getD (k * 2 + 1) 0 ∧ xs.getD (k * 2 + 1) 0 ≤ 16)
def okSs (W : Int) (xs : List Int) : Nat → Bool
  | 0 => true
  | k + 1 => okSs W xs k && okS W xs k
def spOk (W : Int) (n : Nat) (xs : List Int) : Bool := decide (1 ≤ W ∧ W ≤ 64) && (decide ((n : Int) ≤ 12) && okSs W xs n)
theorem okSs_no {W : Int} {xs : List Int} {k n : Nat} (h : okS W xs k = false) (hk : k < n) : okSs W xs n = false := by
  induction n with
  | zero => omega
  | succ n ih =>
    unfold okSs
    by_cases e : k = n
    · subst e; rw [h, Bool.and_false]
    · rw [ih (by omega), Bool.false_and]
theorem okSs_get {W : Int} {xs : List Int} {n : Nat} (h : okSs W xs n = true) : ∀ k, k < n → okS W xs k = true := by
  induction n with
  | zero => intro k hk; omega
  | succ n ih =>
    unfold okSs at h
    rw [Bool.and_eq_true] at h
    intro k hk
    by_cases e : k = n
    · subst e; exact h.2
    · exact ih h.1 k (by omega)
theorem okS_bd {W : Int} {xs : List Int} {k : Nat} (h : okS W xs k = true) : (1 ≤ xs.getD (k * 2) 0 ∧ xs.getD (k * 2) 0 ≤ W) ∧ 1 ≤ xs.getD (k * 2 + 1) 0 ∧ xs.getD (k * 2 + 1) 0 ≤ 16 := by
  unfold okS at h
  rw [Bool.and_eq_true] at h
  exact ⟨of_decide_eq_true h.1, of_decide_eq_true h.2⟩
theorem duo {j n : Nat} (h : j < n) {m : Nat} (hm : m = 2 * n) : j * 2 < m ∧ j * 2 + 1 < m := by omega

set_option maxHeartbeats 8000000 in
theorem sSpr_any (A : Option Addr) (n c B : Nat) (W : Int) (xs : List Int) (w : World) (hx : xs.length = 2 * n) (h : Rds .i64 w B A xs) (hB : B ≤ w.heap.size) (hl : n ≤ 2000000) :
    Calls Try.prog 34 #[.slice A n c, .int .i64 W] w fun e w' => e = .returned (.bool (spOk W n xs)) ∧ Below w.heap.size w w' := by
  have Hh := Lib.hid h
  have HX := Lib.hid hx
  clear h hx
  go_enter Try.func34, Try.ntmps34
  go_wp2
  go_loopw [5] (fun i wr => ∃ k : Nat, k ≤ n ∧ i = .int .i64 k ∧ Hid (okSs W xs k = true) ∧ Below w.heap.size w wr) (fun i _ => n - (intOf i).toNat)
  case atStart => exact ⟨0, Nat.zero_le _, rfl, Lib.hid rfl, Below.refl _ _⟩
  case round =>
    obtain ⟨k, hk, rfl, HK, hbel⟩ := hrel
    by_cases hlt : k < n
    · have HO : Hid (okS W xs k = (decide (1 ≤ xs.getD (k * 2) 0 ∧ xs.getD (k * 2) 0 ≤ W) && decide (1 ≤ xs.getD (k * 2 + 1) 0 ∧ xs.getD (k * 2 + 1) 0 ≤ 16))) := Lib.hid rfl
      have HNo : Hid (okS W xs k = false → spOk W n xs = false) := Lib.hid (fun e => by unfold spOk; rw [okSs_no e hlt]; simp)
      have HYes : Hid (okS W xs k = true → okSs W xs (k + 1) = true) := Lib.hid (fun e => by show (okSs W xs k && okS W xs k) = true; rw [HK.out, e]; rfl)
      obtain ⟨t0, t1⟩ := duo hlt HX.out
      obtain ⟨b, off, rfl, hb, hc⟩ := Hh.out.cells_ t0
      have hc0 := (hbel.cell (p := ⟨b, off + k * 2, none⟩) (by show b < _; omega)).trans (hc _ t0)
      have hc1 := (hbel.cell (p := ⟨b, off + k * 2 + 1, none⟩) (by show b < _; omega)).trans (hc _ t1)
      clear hc
      generalize xs.getD (k * 2) 0 = a at *
      generalize xs.getD (k * 2 + 1) 0 = d at *
      cases ha : decide (1 ≤ a ∧ a ≤ W)
      · have HF : Hid (spOk W n xs = false) := Lib.hid (HNo.out (by rw [HO.out, ha]; rfl))
        have Ha := Lib.hid ha
        clear ha
        go_wp2_with fail
        refine (sFt_any a 1 W _).mono ?_
        rintro e w1 ⟨rfl, rfl⟩
        rw [Ha.out]
        go_wp2
        go_ret
        exact ⟨ret_bool HF.out.symm, hbel⟩
      · have Ha := Lib.hid ha
        cases hd : decide (1 ≤ d ∧ d ≤ 16)
        · have HF : Hid (spOk W n xs = false) := Lib.hid (HNo.out (by rw [HO.out, ha, hd]; rfl))
          have Hd := Lib.hid hd
          clear ha hd
          go_wp2_with fail
          refine (sFt_any a 1 W _).mono ?_
          rintro e w1 ⟨rfl, rfl⟩
          rw [Ha.out]
          go_wp2_with fail
          refine (sFt_any d 1 16 _).mono ?_
          rintro e w1 ⟨rfl, rfl⟩
          rw [Hd.out]
          go_wp2
          go_ret
          exact ⟨ret_bool HF.out.symm, hbel⟩
        · have HF : Hid (okSs W xs (k + 1) = true) := Lib.hid (HYes.out (by rw [HO.out, ha, hd]; rfl))
          have Hd := Lib.hid hd
          clear ha hd
          go_wp2_with fail
          refine (sFt_any a 1 W _).mono ?_
          rintro e w1 ⟨rfl, rfl⟩
          rw [Ha.out]
          go_wp2_with fail
          refine (sFt_any d 1 16 _).mono ?_
          rintro e w1 ⟨rfl, rfl⟩
          rw [Hd.out]
          go_wp2
          go_roundw
          case rel => exact ⟨k + 1, by omega, by go_num, HF, hbel⟩
          case measure => simp [intOf]; omega
    · have hk' : k = n := by omega
      have HS : Hid (okSs W xs n = true) := Lib.hid (by rw [← hk']; exact HK.out)
      clear hk'
      cases hw : decide (1 ≤ W ∧ W ≤ 64)
      · have HF : Hid (spOk W n xs = false) := Lib.hid (by unfold spOk; rw [hw]; rfl)
        have Hw := Lib.hid hw
        clear hw
        go_wp2_with fail
        refine (sFt_any W 1 64 _).mono ?_
        rintro e w1 ⟨rfl, rfl⟩
        rw [Hw.out]
        go_wp2
        go_ret
        exact ⟨ret_bool HF.out.symm, hbel⟩
      · have Hw := Lib.hid hw
        by_cases hn : (n : Int) ≤ 12
        · have HF : Hid (spOk W n xs = true) := Lib.hid (by unfold spOk; rw [hw, HS.out, decide_eq_true hn]; rfl)
          clear hw
          go_wp2_with fail
          refine (sFt_any W 1 64 _).mono ?_
          rintro e w1 ⟨rfl, rfl⟩
          rw [Hw.out]
          go_wp2
          go_ret
          exact ⟨ret_bool HF.out.symm, hbel⟩
        · have HF : Hid (spOk W n xs = false) := Lib.hid (by unfold spOk; rw [hw, decide_eq_false hn]; rfl)
          clear hw
          go_wp2_with fail
          refine (sFt_any W 1 64 _).mono ?_
          rintro e w1 ⟨rfl, rfl⟩
          rw [Hw.out]
          go_wp2
          go_ret
          exact ⟨ret_bool (by rw [HF.out]; first | rfl | exact decide_eq_false (by omega)), hbel⟩

set_option maxHeartbeats 8000000 in
theorem iSpr_any (A : Option Addr) (n c B : Nat) (W : Int) (xs : List Int) (w : World) (hx : xs.length = 2 * n) (h : Rds .i64 w B A xs) (hB : B ≤ w.heap.size) (hl : n ≤ 2000000) :
    Calls Try.prog 37 #[.slice A n c, .int .i64 W] w fun e w' => e = .returned (.bool (spOk W n xs)) ∧ Below w.heap.size w w' := by
  have Hh := Lib.hid h
  have HX := Lib.hid hx
  clear h hx
  cases hw : decide (1 ≤ W ∧ W ≤ 64)
  · have HF : Hid (spOk W n xs = false) := Lib.hid (by unfold spOk; rw [hw]; rfl)
    have Hw := Lib.hid hw
    clear hw
    go_enter Try.func37, Try.ntmps37
    go_wp2_with fail
    refine (iFt_any W 1 64 _).mono ?_
    rintro e w1 ⟨rfl, rfl⟩
    rw [Hw.out]
    go_wp2
    go_ret
    exact ⟨ret_bool HF.out.symm, Below.refl _ _⟩
  · have Hw := Lib.hid hw
    by_cases hn : (n : Int) ≤ 12
    · have HV : Hid (spOk W n xs = okSs W xs n) := Lib.hid (by unfold spOk; rw [hw, decide_eq_true hn]; rfl)
      clear hw
      go_enter Try.func37, Try.ntmps37
      go_wp2_with fail
      refine (iFt_any W 1 64 _).mono ?_
      rintro e w1 ⟨rfl, rfl⟩
      rw [Hw.out]
      go_wp2
      go_loopw [17] (fun i wr => ∃ k : Nat, k ≤ n ∧ i = .int .i64 k ∧ Hid (okSs W xs k = true) ∧ Below w.heap.size w wr) (fun i _ => n - (intOf i).toNat)
      case atStart => exact ⟨0, Nat.zero_le _, rfl, Lib.hid rfl, Below.refl _ _⟩
      case round =>
        obtain ⟨k, hk, rfl, HK, hbel⟩ := hrel
        by_cases hlt : k < n
        · have HO : Hid (okS W xs k = (decide (1 ≤ xs.getD (k * 2) 0 ∧ xs.getD (k * 2) 0 ≤ W) && decide (1 ≤ xs.getD (k * 2 + 1) 0 ∧ xs.getD (k * 2 + 1) 0 ≤ 16))) := Lib.hid rfl
          have HNo : Hid (okS W xs k = false → spOk W n xs = false) := Lib.hid (fun e => by rw [HV.out]; exact okSs_no e hlt)
          have HYes : Hid (okS W xs k = true → okSs W xs (k + 1) = true) := Lib.hid (fun e => by show (okSs W xs k && okS W xs k) = true; rw [HK.out, e]; rfl)
          obtain ⟨t0, t1⟩ := duo hlt HX.out
          obtain ⟨b, off, rfl, hb, hc⟩ := Hh.out.cells_ t0
          have hc0 := (hbel.cell (p := ⟨b, off + k * 2, none⟩) (by show b < _; omega)).trans (hc _ t0)
          have hc1 := (hbel.cell (p := ⟨b, off + k * 2 + 1, none⟩) (by show b < _; omega)).trans (hc _ t1)
          clear hc
          generalize xs.getD (k * 2) 0 = a at *
          generalize xs.getD (k * 2 + 1) 0 = d at *
          have HBu := Lib.hid (hbel.alloc hbel.size (.cells #[.int .i64 a, .int .i64 d] 44))
          cases ha : decide (1 ≤ a ∧ a ≤ W)
          · have HF : Hid (spOk W n xs = false) := Lib.hid (HNo.out (by rw [HO.out, ha]; rfl))
            have Ha := Lib.hid ha
            clear ha
            go_wp2_with fail
            refine (iFt_any a 1 W _).mono ?_
            rintro e w1 ⟨rfl, rfl⟩
            rw [Ha.out]
            go_wp2
            go_ret
            exact ⟨ret_bool HF.out.symm, HBu.out⟩
          · have Ha := Lib.hid ha
            cases hd : decide (1 ≤ d ∧ d ≤ 16)
            · have HF : Hid (spOk W n xs = false) := Lib.hid (HNo.out (by rw [HO.out, ha, hd]; rfl))
              have Hd := Lib.hid hd
              clear ha hd
              go_wp2_with fail
              refine (iFt_any a 1 W _).mono ?_
              rintro e w1 ⟨rfl, rfl⟩
              rw [Ha.out]
              go_wp2_with fail
              refine (iFt_any d 1 16 _).mono ?_
              rintro e w1 ⟨rfl, rfl⟩
              rw [Hd.out]
              go_wp2
              go_ret
              exact ⟨ret_bool HF.out.symm, HBu.out⟩
            · have HF : Hid (okSs W xs (k + 1) = true) := Lib.hid (HYes.out (by rw [HO.out, ha, hd]; rfl))
              have Hd := Lib.hid hd
              clear ha hd
              go_wp2_with fail
              refine (iFt_any a 1 W _).mono ?_
              rintro e w1 ⟨rfl, rfl⟩
              rw [Ha.out]
              go_wp2_with fail
              refine (iFt_any d 1 16 _).mono ?_
              rintro e w1 ⟨rfl, rfl⟩
              rw [Hd.out]
              go_wp2
              go_roundw
              case rel => exact ⟨k + 1, by omega, by go_num, HF, HBu.out⟩
              case measure => simp [intOf]; omega
        · have hk' : k = n := by omega
          have HS : Hid (spOk W n xs = true) := Lib.hid (by rw [HV.out, ← hk']; exact HK.out)
          clear hk'
          go_wp2
          go_ret
          exact ⟨ret_bool HS.out.symm, hbel⟩
    · have HF : Hid (spOk W n xs = false) := Lib.hid (by unfold spOk; rw [hw, decide_eq_false hn]; rfl)
      clear hw
      go_enter Try.func37, Try.ntmps37
      go_wp2_with fail
      refine (iFt_any W 1 64 _).mono ?_
      rintro e w1 ⟨rfl, rfl⟩
      rw [Hw.out]
      go_wp2
      go_ret
      exact ⟨ret_bool HF.out.symm, Below.refl _ _⟩
def mostH (xs : List Int) : Nat → Int
  | 0 => 0
  | k + 1 => if xs.getD (k * 2 + 1) 0 ≤ mostH xs k then mostH xs k else xs.getD (k * 2 + 1) 0
def areaH (xs : List Int) : Nat → Int
  | 0 => 0
  | k + 1 => areaH xs k + xs.getD (k * 2) 0 * xs.getD (k * 2 + 1) 0
def topH (W : Int) (n : Nat) (xs : List Int) : Int := if (areaH xs n + W - 1).tdiv W ≤ mostH xs n then mostH xs n else (areaH xs n + W - 1).tdiv W
def leastH (W : Int) (n : Nat) (xs : List Int) : Int := if spOk W n xs = true then topH W n xs else -1
theorem prod_bd {a d W : Int} (ha : 1 ≤ a ∧ a ≤ W) (hd : 1 ≤ d ∧ d ≤ 16) (hW : W ≤ 64) : 1 ≤ a * d ∧ a * d ≤ 1024 := by
  obtain ⟨m, rfl⟩ := Int.eq_ofNat_of_zero_le (show 0 ≤ a by omega)
  obtain ⟨q, rfl⟩ := Int.eq_ofNat_of_zero_le (show 0 ≤ d by omega)
  have h1 : m * q ≤ 64 * 16 := Nat.mul_le_mul (by omega) (by omega)
  have h2 : 1 * 1 ≤ m * q := Nat.mul_le_mul (by omega) (by omega)
  rw [← Int.natCast_mul]
  omega
theorem most_bd {W : Int} {xs : List Int} {n : Nat} (h : okSs W xs n = true) : ∀ k, k ≤ n → 0 ≤ mostH xs k ∧ mostH xs k ≤ 16
  | 0, _ => by simp [mostH]
  | k + 1, hk => by
    have ih := most_bd h k (by omega)
    have hb := (okS_bd (okSs_get h k (by omega))).2
    unfold mostH
    split <;> omega
theorem areaH_bd {W : Int} {xs : List Int} {n : Nat} (hW : W ≤ 64) (h : okSs W xs n = true) : ∀ k, k ≤ n → 0 ≤ areaH xs k ∧ areaH xs k ≤ 1024 * k
  | 0, _ => by simp [areaH]
  | k + 1, hk => by
    have ih := areaH_bd hW h k (by omega)
    have hb := okS_bd (okSs_get h k (by omega))
    have hp := prod_bd hb.1 hb.2 hW
    unfold areaH
    omega
theorem spOk_of {W : Int} {n : Nat} {xs : List Int} (h : spOk W n xs = true) : (1 ≤ W ∧ W ≤ 64) ∧ n ≤ 12 ∧ okSs W xs n = true := by
  unfold spOk at h
  rw [Bool.and_eq_true, Bool.and_eq_true] at h
  exact ⟨of_decide_eq_true h.1, by have := of_decide_eq_true h.2.1; omega, h.2.2⟩
theorem quo_bd {a W : Int} (h0 : 0 ≤ a) (h1 : a ≤ 100000) (hW : 1 ≤ W) : 0 ≤ a.tdiv W ∧ a.tdiv W ≤ 100000 := by
  have h2 := Int.tdiv_nonneg h0 (show 0 ≤ W by omega)
  have h3 := Int.tdiv_le_self W h0
  omega


set_option maxHeartbeats 16000000 in
theorem i_LeastHeight (A : Option Addr) (n c B : Nat) (W : Int) (xs : List Int) (w : World) (hx : xs.length = 2 * n) (h : Rds .i64 w B A xs) (hB : B ≤ w.heap.size) (hl : n ≤ 2000000) :
    Calls Try.prog 23 #[.slice A n c, .int .i64 W] w fun e w' => e = .returned (.int .i64 (leastH W n xs)) ∧ Below w.heap.size w w' := by
  have HV := Lib.hid (iSpr_any A n c B W xs w hx h hB hl)
  have Hh := Lib.hid h
  have HX := Lib.hid hx
  clear h hx
  cases hr : spOk W n xs
  · have HN : Hid (leastH W n xs = -1) := Lib.hid (by unfold leastH; rw [hr]; rfl)
    go_enter Try.func23, Try.ntmps23
    go_wp2_with fail
    refine HV.out.mono ?_
    rintro e w1 ⟨rfl, hb1⟩
    rw [hr]
    go_wp2
    go_ret
    exact ⟨ret_int HN.out.symm, hb1⟩
  · have HN : Hid (leastH W n xs = topH W n xs) := Lib.hid (by unfold leastH; rw [hr]; rfl)
    obtain ⟨⟨hW0, hW1⟩, hn12, hok⟩ := spOk_of hr
    have HS := Lib.hid hok
    clear hok
    go_enter Try.func23, Try.ntmps23
    go_wp2_with fail
    refine HV.out.mono ?_
    rintro e w1 ⟨rfl, hb1⟩
    rw [hr]
    clear hr
    go_wp2
    go_loopw [5, 6, 15] (fun m s i wr => ∃ k : Nat, k ≤ n ∧ i = .int .i64 k ∧ m = .int .i64 (mostH xs k) ∧ s = .int .i64 (areaH xs k) ∧ Below w.heap.size w wr) (fun _ _ i _ => n - (intOf i).toNat)
    case atStart => exact ⟨0, Nat.zero_le _, rfl, rfl, rfl, hb1⟩
    case round =>
      obtain ⟨k, hk, rfl, rfl, rfl, hbel⟩ := hrel
      obtain ⟨m0, m1⟩ := most_bd HS.out k hk
      obtain ⟨s0, s1⟩ := areaH_bd hW1 HS.out k hk
      clear hb1
      by_cases hlt : k < n
      · have HM : Hid (mostH xs (k + 1) = if xs.getD (k * 2 + 1) 0 ≤ mostH xs k then mostH xs k else xs.getD (k * 2 + 1) 0) := Lib.hid rfl
        have HA : Hid (areaH xs (k + 1) = areaH xs k + xs.getD (k * 2) 0 * xs.getD (k * 2 + 1) 0) := Lib.hid rfl
        obtain ⟨ha, hd⟩ := okS_bd (okSs_get HS.out k hlt)
        obtain ⟨p0, p1⟩ := prod_bd ha hd hW1
        obtain ⟨ha0, ha1⟩ := ha
        obtain ⟨hd0, hd1⟩ := hd
        obtain ⟨t0, t1⟩ := duo hlt HX.out
        obtain ⟨b, off, rfl, hb, hc⟩ := Hh.out.cells_ t0
        have hc0 := (hbel.cell (p := ⟨b, off + k * 2, none⟩) (by show b < _; omega)).trans (hc _ t0)
        have hc1 := (hbel.cell (p := ⟨b, off + k * 2 + 1, none⟩) (by show b < _; omega)).trans (hc _ t1)
        have Hc := Lib.hid hc
        clear hc
        generalize xs.getD (k * 2) 0 = a at *
        generalize xs.getD (k * 2 + 1) 0 = d at *
        generalize mostH xs k = M at *
        generalize areaH xs k = S at *
        have HBu := Lib.hid (hbel.alloc hbel.size (.cells #[.int .i64 a, .int .i64 d] 44))
        have hq : IntKind.i64.wrap (a * d) = a * d := IntWalk.i64_in _ (by omega)
        by_cases hmx : d ≤ M
        all_goals
          first | rw [if_pos hmx] at HM | rw [if_neg hmx] at HM
          go_wp2
          go_roundw
          case rel => exact ⟨k + 1, by omega, by go_num, by rw [HM.out] <;> go_num, by rw [HA.out] <;> go_num, HBu.out⟩
          case measure => simp [intOf]; omega
      · have hk' : k = n := by omega
        have HT : Hid (topH W n xs = if (areaH xs k + W - 1).tdiv W ≤ mostH xs k then mostH xs k else (areaH xs k + W - 1).tdiv W) := Lib.hid (by rw [hk']; rfl)
        have Hk := Lib.hid hk'
        clear hk'
        generalize mostH xs k = M at *
        generalize areaH xs k = S at *
        obtain ⟨q0, q1⟩ := quo_bd (a := S + W - 1) (W := W) (by omega) (by omega) hW0
        have hq2 : IntKind.i64.wrap ((S + W - 1).tdiv W) = (S + W - 1).tdiv W := IntWalk.i64_in _ (by omega)
        by_cases hmx : (S + W - 1).tdiv W ≤ M
        all_goals
          first | rw [if_pos hmx] at HT | rw [if_neg hmx] at HT
          go_wp2
          go_ret
          exact ⟨ret_int (by rw [HN.out, HT.out]), hbel⟩

end Go.Proofs.Ytgieijogopcjnaa