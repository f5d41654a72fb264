/- Areas of combined regions. -/
import Derived.Test.YtbjgjjhfnaiocaaDoorCmbL
import Derived.Test.YtbjgjjhfnaiocaaDoorAreM
namespace Go.Proofs.YtbjgjjhfnaiocaaDoor
open Go.RowKit Go.Shelf
set_option linter.unusedSimpArgs false
set_option linter.unusedVariables false

/-- Two lists of runs that are read while calls go by. -/
def Two (w : World) (A1 A2 : Option Addr) (xs ys : List Int) (u : World) : Prop := Rds .i64 u u.heap.size A1 xs ∧ Rds .i64 u u.heap.size A2 ys ∧ Below w.heap.size w u
theorem Two.call {w u u' : World} {A1 A2 : Option Addr} {xs ys : List Int} (h : Two w A1 A2 xs ys u) (hb : Below u.heap.size u u') : Two w A1 A2 xs ys u' :=
  ⟨(h.1.below hb).more hb.size, (h.2.1.below hb).more hb.size, h.2.2.trans (hb.mono h.2.2.size)⟩
theorem Two.drewN {w u : World} {A1 A2 : Option Addr} {xs ys : List Int} (h : Two w A1 A2 xs ys u) (m : Nat) : Two w A1 A2 xs ys (u.drewN m) := ⟨h.1, h.2.1, bel_dn h.2.2 m⟩
/-- The cells of a region, counted. -/
theorem areaV_cnt {xs : List Int} {n : Nat} (h : reg xs n) : areaV xs n = cntB (fun i => rh xs ((i % 16 : Nat) : Int) ((i / 16 : Nat) : Int) n) 256 := by
  unfold areaV; rw [regB_yes h, if_pos rfl, area_cnt h n (Nat.le_refl _)]
theorem areaV_cb {k : Int} {xs : List Int} {n : Nat} {ys : List Int} {m : Nat} (h : cmbOk k xs n ys m = true) :
    areaV (cbL k xs n ys m) (cbN k xs n ys m) = cntB (fun i => krule k (rh xs ((i % 16 : Nat) : Int) ((i / 16 : Nat) : Int) n) (rh ys ((i % 16 : Nat) : Int) ((i / 16 : Nat) : Int) m)) 256 := by
  rw [areaV_cnt (cb_yes h).2.2]
  exact cntB_congr 256 (fun i hi => cb_rh h (Nat.mod_lt _ (by omega)) (by omega))
theorem cnt_rules (P Q : Nat → Bool) : ∀ k, cntB (fun i => krule 0 (P i) (Q i)) k + cntB (fun i => krule 1 (P i) (Q i)) k = cntB P k + cntB Q k ∧ cntB (fun i => krule 2 (P i) (Q i)) k + cntB (fun i => krule 1 (P i) (Q i)) k = cntB P k
  | 0 => ⟨rfl, rfl⟩
  | k + 1 => by
    obtain ⟨h1, h2⟩ := cnt_rules P Q k
    simp only [cntB]
    generalize cntB (fun i => krule 0 (P i) (Q i)) k = u0 at *
    generalize cntB (fun i => krule 1 (P i) (Q i)) k = u1 at *
    generalize cntB (fun i => krule 2 (P i) (Q i)) k = u2 at *
    rcases Bool.eq_false_or_eq_true (P k) with hP | hP <;> rcases Bool.eq_false_or_eq_true (Q k) with hQ | hQ <;> simp [krule, hP, hQ] at * <;> omega
end Go.Proofs.YtbjgjjhfnaiocaaDoor
