/- Drawn arguments of CombineRegions, and the laws' helper. -/
import Derived.Test.YtbjgjjhfnaiocaaDoorCmbK
import Derived.Test.YtbjgjjhfnaiocaaDoorDrawRg
import Derived.Test.YtbjgjjhfnaiocaaDoorBoxL
namespace Go.Proofs.YtbjgjjhfnaiocaaDoor
open Go.RowKit Go.Shelf
set_option linter.unusedSimpArgs false
set_option linter.unusedVariables false
set_option maxRecDepth 20000

theorem reg_of_cond {xs : List Int} {n : Nat} (hx : xs.length = 3 * n) (h : regB xs n = true) : rnL (cmbG 0 xs n xs n) = xs ∧ rnN (cmbG 0 xs n xs n) = n := by
  obtain ⟨h1, h2⟩ := rnL_uniq (G := cmbG 0 xs n xs n) hx (regB_of h) (fun x y _ _ => by unfold cmbG krule; simp)
  exact ⟨h1.symm, h2.symm⟩
/-- What a combined region is: its runs. -/
def cbN (k : Int) (xs : List Int) (n : Nat) (ys : List Int) (m : Nat) : Nat := cond (cmbOk k xs n ys m) (rnN (cmbG k xs n ys m)) 0
def cbL (k : Int) (xs : List Int) (n : Nat) (ys : List Int) (m : Nat) : List Int := cond (cmbOk k xs n ys m) (rnL (cmbG k xs n ys m)) []
theorem cb_len (k : Int) (xs : List Int) (n : Nat) (ys : List Int) (m : Nat) : (cbL k xs n ys m).length = 3 * cbN k xs n ys m ∧ cbN k xs n ys m ≤ 300 := by
  unfold cbL cbN
  have := rnL_len (cmbG k xs n ys m)
  cases cmbOk k xs n ys m <;> simp <;> omega
theorem cmbOk_at {k : Int} {xs : List Int} {n : Nat} {ys : List Int} {m : Nat} (h : cmbOk k xs n ys m = true) : (reg xs n ∧ reg ys m) ∧ 0 ≤ k ∧ k ≤ 3 := by
  unfold cmbOk at h
  simp only [Bool.and_eq_true, decide_eq_true_eq] at h
  exact ⟨⟨regB_of h.1, regB_of h.2.1⟩, h.2.2⟩
theorem cmbOk_yes {k : Int} {xs : List Int} {n : Nat} {ys : List Int} {m : Nat} (h : reg xs n) (h2 : reg ys m) (hk : 0 ≤ k ∧ k ≤ 3) : cmbOk k xs n ys m = true := by
  unfold cmbOk; rw [regB_yes h, regB_yes h2, decide_eq_true hk]; rfl
theorem cb_yes {k : Int} {xs : List Int} {n : Nat} {ys : List Int} {m : Nat} (h : cmbOk k xs n ys m = true) : cbL k xs n ys m = rnL (cmbG k xs n ys m) ∧ cbN k xs n ys m = rnN (cmbG k xs n ys m) ∧ reg (cbL k xs n ys m) (cbN k xs n ys m) := by
  unfold cbL cbN; rw [h]; exact ⟨rfl, rfl, rnL_reg _⟩
theorem cb_rh {k : Int} {xs : List Int} {n : Nat} {ys : List Int} {m : Nat} (h : cmbOk k xs n ys m = true) {x y : Nat} (hx : x < 16) (hy : y < 16) : rh (cbL k xs n ys m) x y (cbN k xs n ys m) = krule k (rh xs x y n) (rh ys x y m) := by
  unfold cbL cbN; rw [h]; exact rnL_has _ hx hy
theorem cb_eq {k k' : Int} {xs : List Int} {n : Nat} {ys : List Int} {m : Nat} {xs' : List Int} {n' : Nat} {ys' : List Int} {m' : Nat} (h : cmbOk k xs n ys m = true) (h' : cmbOk k' xs' n' ys' m' = true)
    (hG : ∀ x y : Nat, x < 16 → y < 16 → krule k (rh xs x y n) (rh ys x y m) = krule k' (rh xs' x y n') (rh ys' x y m')) : cbL k xs n ys m = cbL k' xs' n' ys' m' ∧ cbN k xs n ys m = cbN k' xs' n' ys' m' := by
  obtain ⟨e1, e2, _⟩ := cb_yes h
  obtain ⟨e3, e4, _⟩ := cb_yes h'
  have e : rnL (cmbG k xs n ys m) = rnL (cmbG k' xs' n' ys' m') := rnL_congr (fun x y hx hy => hG x y hx hy)
  rw [e1, e2, e3, e4]
  exact ⟨e, by unfold rnN; rw [e]⟩
set_option maxHeartbeats 4000000 in
theorem combined_any (A A' : Option Addr) (n m c c' : Nat) (xs ys : List Int) (k : Int) (w : World) (hx : xs.length = 3 * n) (h : Rds .i64 w w.heap.size A xs) (hl : n ≤ 2000000) (hy : ys.length = 3 * m) (h' : Rds .i64 w w.heap.size A' ys) (hl' : m ≤ 2000000) :
    Calls Tryd.prog 23 #[.slice A n c, .slice A' m c', .int .i64 k] w fun e w' => ∃ v, e = .returned v ∧ OwnT 35 3 w' w.heap.size v (cbN k xs n ys m) (cbL k xs n ys m) ∧ Below w.heap.size w w' := by
  have H := Lib.hid (i_CombineRegions A A' n m c c' xs ys k w hx h hl hy h' hl')
  clear hx h hy h'
  go_enter Tryd.func23, Tryd.ntmps23
  go_wp2_with fail
  refine H.out.mono ?_
  rintro e w1 ⟨v, rfl, hO, hb⟩
  have HE : Hid (OwnT 35 3 w1 w.heap.size v (cbN k xs n ys m) (cbL k xs n ys m) ∧ Below w.heap.size w w1) := Lib.hid ⟨hO, hb⟩
  clear hO hb
  go_wp2
  go_ret
  exact ⟨v, rfl, HE.out⟩
end Go.Proofs.YtbjgjjhfnaiocaaDoor
