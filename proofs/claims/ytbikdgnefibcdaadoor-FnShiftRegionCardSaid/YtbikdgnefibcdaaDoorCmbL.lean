/- Drawn arguments of CombineRegions, and the laws' helper. -/
import Derived.Test.YtbikdgnefibcdaaDoorCmbK
import Derived.Test.YtbikdgnefibcdaaDoorDrawRg
import Derived.Test.YtbikdgnefibcdaaDoorBoxL
namespace Go.Proofs.YtbikdgnefibcdaaDoor
open Go.RowKit Go.Shelf
set_option linter.unusedSimpArgs false
set_option linter.unusedVariables false
set_option maxRecDepth 20000

theorem reg_of_cond {xs : List Int} {n : Nat} (hx : xs.length = 3 * n) (h : regB xs n = true) : rnL (cmbG 0 xs n xs n) = xs ∧ rnN (cmbG 0 xs n xs n) = n := by
  obtain ⟨h1, h2⟩ := rnL_uniq (G := cmbG 0 xs n xs n) hx (regB_of h) (fun x y _ _ => by unfold cmbG krule; simp)
  exact ⟨h1.symm, h2.symm⟩
/-- What a combined region is: its runs. -/
def cbN (k : Int) (xs : List Int) (n : Nat) (ys : List Int) (m : Nat) : Nat := cond (cmbOk k xs n ys m) (rnN (cmbG k xs n ys m)) 0
def cbL (k : Int) (xs : List Int) (n : Nat) (ys : List Int) (m : Nat) : List Int := cond (cmbOk k xs n ys m) (rnL (cmbG k xs n ys m)) []
theorem cb_len (k : Int) (xs : List Int) (n : Nat) (ys : List Int) (m : Nat) : (cbL k xs n ys m).length = 3 * cbN k xs n ys m ∧ cbN k xs n ys m ≤ 300 := by
  unfold cbL cbN
  have := rnL_len (cmbG k xs n ys m)
  cases cmbOk k xs n ys m <;> simp <;> omega
theorem cmbOk_at {k : Int} {xs : List Int} {n : Nat} {ys : List Int} {m : Nat} (h : cmbOk k xs n ys m = true) : (reg xs n ∧ reg ys m) ∧ 0 ≤ k ∧ k ≤ 3 := by
  unfold cmbOk at h
  simp only [Bool.and_eq_true, decide_eq_true_eq] at h
  exact ⟨⟨regB_of h.1, regB_of h.2.1⟩, h.2.2⟩
theorem cmbOk_yes {k : Int} {xs : List Int} {n : Nat} {ys : List Int} {m : Nat} (h : reg xs n) (h2 : reg ys m) (hk : 0 ≤ k ∧ k ≤ 3) : cmbOk k xs n ys m = true := by
  unfold cmbOk; rw [regB_yes h, regB_yes h2, decide_eq_true hk]; rfl
theorem cb_yes {k : Int} {xs : List Int} {n : Nat} {ys : List Int} {m : Nat} (h : cmbOk k xs n ys m = true) : cbL k xs n ys m = rnL (cmbG k xs n ys m) ∧ cbN k xs n ys m = rnN (cmbG k xs n ys m) ∧ reg (cbL k xs n ys m) (cbN k xs n ys m) := by
  unfold cbL cbN; rw [h]; exact ⟨rfl, rfl, rnL_reg _⟩
theorem cb_rh {k : Int} {xs : List Int} {n : Nat} {ys : List Int} {m : Nat} (h : cmbOk k xs n ys m = true) {x y : Nat} (hx : x < 16) (hy : y < 16) : rh (cbL k xs n ys m) x y (cbN k xs n ys m) = krule k (rh xs x y n) (rh ys x y m) := by
  unfold cbL cbN; rw [h]; exact rnL_has _ hx hy
theorem cb_eq {k k' : Int} {xs : List Int} {n : Nat} {ys : List Int} {m : Nat} {xs' : List Int} {n' : Nat} {ys' : List Int} {m' : Nat} (h : cmbOk k xs n ys m = true) (h' : cmbOk k' xs' n' ys' m' = true)
    (hG : ∀ x y : Nat, x < 16 → y < 16 → krule k (rh xs x y n) (rh ys x y m) = krule k' (rh xs' x y n') (rh ys' x y m')) : cbL k xs n ys m = cbL k' xs' n' ys' m' ∧ cbN k xs n ys m = cbN k' xs' n' ys' m' := by
  obtain ⟨e1, e2, _⟩ := cb_yes h
  obtain ⟨e3, e4, _⟩ := cb_yes h'
  have e : rnL (cmbG k xs n ys m) = rnL (cmbG k' xs' n' ys' m') := rnL_congr (fun x y hx hy => hG x y hx hy)
  rw [e1, e2, e3, e4]
  exact ⟨e, by unfold rnN; rw [e]⟩
set_option maxHeartbeats 4000000 in
theorem combined_any (A A' : Option Addr) (n m c c' : Nat) (xs ys : List Int) (k : Int) (w : World) (hx : xs.length = 3 * n) (h : Rds .i64 w w.heap.size A xs) (hl : n ≤ 2000000) (hy : ys.length = 3 * m) (h' : Rds .i64 w w.heap.size A' ys) (hl' : m ≤ 2000000) :
    Calls Tryd.prog 20 #[.slice A n c, .slice A' m c', .int .i64 k] w fun e w' => ∃ v, e = .returned v ∧ OwnT 71 3 w' w.heap.size v (cbN k xs n ys m) (cbL k xs n ys m) ∧ Below w.heap.size w w' := by
  have H := Lib.hid (i_CombineRegions A A' n m c c' xs ys k w hx h hl hy h' hl')
  clear hx h hy h'
  go_enter Tryd.func20, Tryd.ntmps20
  go_wp2_with fail
  refine H.out.mono ?_
  rintro e w1 ⟨v, rfl, hO, hb⟩
  have HE : Hid (OwnT 71 3 w1 w.heap.size v (cbN k xs n ys m) (cbL k xs n ys m) ∧ Below w.heap.size w w1) := Lib.hid ⟨hO, hb⟩
  clear hO hb
  go_wp2
  go_ret
  exact ⟨v, rfl, HE.out⟩
/-- Drawn: two lists of runs and a number. -/
def DrawnC (w : World) (e : Ending) (w' : World) : Prop :=
  ∃ v n xs v2 m ys, ∃ k : Int, e = .returned (.tuple #[v, v2, .int .i64 k]) ∧ (n ≤ 300 ∧ m ≤ 300 ∧ -1 ≤ k ∧ k ≤ 4) ∧ OwnT 71 3 w' w.heap.size v n xs ∧ OwnT 71 3 w' w.heap.size v2 m ys ∧ Below w.heap.size w w'
set_option maxHeartbeats 4000000 in
theorem drawCombine_any (A : Option Addr) (c : Nat) (bs : List Int) (w : World) (hc : bs.length ≤ c) (h : Rdw .u8 w w.heap.size A bs) :
    Calls Tryd.prog 22 #[.slice A bs.length c] w (DrawnC w) := by
  go_enter Tryd.func22, Tryd.ntmps22
  go_wp2_with fail
  refine (newReader_any A c bs w hc h).mono ?_
  rintro e w1 ⟨rfl, hr1, hb1, hs1⟩
  clear hs1
  go_wp2_with fail
  refine (anyRegion_any _ 0 w1 hr1 (by omega)).mono ?_
  rintro e w2 ⟨v, n, xs, rfl, hn, hO, hr2, hg2⟩
  have hown : v.ownBlock ≠ some w.heap.size := fun e => by have := (hO.lt _ e).1; have := hr1.lt; omega
  have HB2 := Lib.hid (hb1.trans (hr1.trans hg2))
  have HO2 := Lib.hid (hO.base_le hb1.size)
  clear hO hg2 hb1 hr1
  go_wp2_with fail
  refine (anyRegion_any _ (0 + 300) w2 hr2 (by omega)).mono ?_
  rintro e w3 ⟨v2, m, ys, rfl, hm, hO, hr3, hg3⟩
  have hown2 : v2.ownBlock ≠ some w.heap.size := fun e => by have := (hO.lt _ e).1; have := hr2.lt; omega
  have HO3 := Lib.hid (HO2.out.kept hg3 (.inr hown))
  have HP3 := Lib.hid (hO.base_le HB2.out.size)
  have HB3 := Lib.hid (HB2.out.trans (hr2.trans hg3))
  clear HO2 HB2 hr2 hg3 hO
  go_wp2_with fail
  refine (one_lit _ [0, 1, 2, 3, 4, -1] _ _ _ (0 + 300 + 300) w3 hr3 (by omega) (by simp) (by simp) rfl rfl).mono ?_
  rintro e w4 ⟨k, rfl, hk, hr4, hg4⟩
  have hk' : -1 ≤ k ∧ k ≤ 4 := by simp at hk; omega
  have HO4 := Lib.hid (HO3.out.kept hg4 (.inr hown))
  have HP4 := Lib.hid (HP3.out.kept hg4 (.inr hown2))
  have HB4 := Lib.hid (HB3.out.trans (hr3.trans hg4))
  clear HO3 HB3 HP3 hr3 hg4 hr4 hk
  go_wp2
  exact bodyPost_ret (v := .tuple #[v, v2, .int .i64 k]) (by simp [results, Tryd.results22, go_sem]) rfl ⟨v, n, xs, v2, m, ys, k, rfl, by omega, HO4.out, HP4.out, HB4.out⟩
end Go.Proofs.YtbikdgnefibcdaaDoor
