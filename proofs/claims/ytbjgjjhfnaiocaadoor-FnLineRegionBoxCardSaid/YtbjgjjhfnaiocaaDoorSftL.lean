/- Shifted regions: what a law needs. -/
import Derived.Test.YtbjgjjhfnaiocaaDoorSftI
import Derived.Test.YtbjgjjhfnaiocaaDoorSftS
import Derived.Test.YtbjgjjhfnaiocaaDoorCmbM
namespace Go.Proofs.YtbjgjjhfnaiocaaDoor
open Go.RowKit Go.Shelf
set_option linter.unusedSimpArgs false
set_option linter.unusedVariables false

/-- Lists that are read while calls go by. -/
def RA (w : World) (ls : List (Option Addr × List Int)) (u : World) : Prop := (∀ p ∈ ls, Rds .i64 u u.heap.size p.1 p.2) ∧ Below w.heap.size w u
theorem RA.call {w u u' : World} {ls : List (Option Addr × List Int)} (h : RA w ls u) (hb : Below u.heap.size u u') : RA w ls u' :=
  ⟨fun p hp => ((h.1 p hp).below hb).more hb.size, h.2.trans (hb.mono h.2.size)⟩
theorem RA.drewN {w u : World} {ls : List (Option Addr × List Int)} (h : RA w ls u) (m : Nat) : RA w ls (u.drewN m) := ⟨h.1, bel_dn h.2 m⟩
theorem RA.add {w u : World} {ls : List (Option Addr × List Int)} {A : Option Addr} {L : List Int} (h : RA w ls u) (hr : Rds .i64 u u.heap.size A L) : RA w ((A, L) :: ls) u :=
  ⟨fun p hp => by
    rcases List.mem_cons.1 hp with rfl | hp
    · exact hr
    · exact h.1 p hp, h.2⟩
theorem RA.at {w u : World} {ls : List (Option Addr × List Int)} (h : RA w ls u) (i : Nat) {A : Option Addr} {L : List Int} (hi : ls[i]? = some (A, L)) : Rds .i64 u u.heap.size A L := h.1 (A, L) (List.mem_of_getElem? hi)
theorem RA.of_two {w u : World} {A1 A2 : Option Addr} {xs ys : List Int} (h : Two w A1 A2 xs ys u) : RA w [(A1, xs), (A2, ys)] u :=
  ⟨fun p hp => by
    rcases List.mem_cons.1 hp with rfl | hp
    · exact h.1
    · rcases List.mem_cons.1 hp with rfl | hp
      · exact h.2.1
      · exact absurd hp List.not_mem_nil, h.2.2⟩
theorem cb_none {k : Int} {xs : List Int} {n : Nat} {ys : List Int} {m : Nat} (h : cmbOk k xs n ys m = true) (hG : ∀ x y : Nat, x < 16 → y < 16 → krule k (rh xs x y n) (rh ys x y m) = false) : cbN k xs n ys m = 0 := by
  obtain ⟨_, e2, _⟩ := cb_yes h
  rw [e2]
  exact (rnL_uniq (xs := []) (n := 0) rfl (by simp [reg]) (fun x y hx hy => by unfold cmbG; rw [hG x y hx hy]; rfl)).2.symm
/-- The common part of one region with the union of two is the union of the common parts. -/
theorem three_law {xs ys zs : List Int} {n m q : Nat} (hx : reg xs n) (hy : reg ys m) (hz : reg zs q) :
    (cbL 0 (cbL 1 zs q xs n) (cbN 1 zs q xs n) (cbL 1 zs q ys m) (cbN 1 zs q ys m) = cbL 1 zs q (cbL 0 xs n ys m) (cbN 0 xs n ys m) ∧
    cbN 0 (cbL 1 zs q xs n) (cbN 1 zs q xs n) (cbL 1 zs q ys m) (cbN 1 zs q ys m) = cbN 1 zs q (cbL 0 xs n ys m) (cbN 0 xs n ys m)) ∧ cbN 3 xs n xs n = 0 := by
  have a0 := cmbOk_yes (k := 0) hx hy (by omega)
  have a1 := cmbOk_yes (k := 1) hz hx (by omega)
  have a2 := cmbOk_yes (k := 1) hz hy (by omega)
  have b0 := cmbOk_yes (k := 1) hz (cb_yes a0).2.2 (by omega)
  have b1 := cmbOk_yes (k := 0) (cb_yes a1).2.2 (cb_yes a2).2.2 (by omega)
  refine ⟨cb_eq b1 b0 (fun x y px py => ?_), cb_none (cmbOk_yes hx hx (by omega)) (fun x y _ _ => by cases rh xs x y n <;> rfl)⟩
  rw [cb_rh a0 px py, cb_rh a1 px py, cb_rh a2 px py]
  cases rh xs x y n <;> cases rh ys x y m <;> cases rh zs x y q <;> rfl

/-! ### Counting. -/
def sI (f : Nat → Int) : Nat → Int
  | 0 => 0
  | k + 1 => sI f k + f k
theorem sI_congr {f g : Nat → Int} : ∀ k, (∀ i, i < k → f i = g i) → sI f k = sI g k
  | 0, _ => rfl
  | k + 1, h => by unfold sI; rw [sI_congr k (fun i hi => h i (by omega)), h k (by omega)]
theorem sI_zero {f : Nat → Int} (k : Nat) (h : ∀ i, i < k → f i = 0) : sI f k = 0 := by
  induction k with
  | zero => rfl
  | succ k ih => unfold sI; rw [ih (fun i hi => h i (by omega)), h k (by omega)]; rfl
theorem sI_split (f : Nat → Int) (n : Nat) : ∀ m, sI f (n + m) = sI f n + sI (fun i => f (n + i)) m
  | 0 => by simp [sI]
  | m + 1 => by
    have := sI_split f n m
    show sI f (n + m) + f (n + m) = sI f n + (sI (fun i => f (n + i)) m + f (n + m))
    omega
theorem cntB_sI (P : Nat → Bool) : ∀ k, cntB P k = sI (fun i => if P i = true then 1 else 0) k
  | 0 => rfl
  | k + 1 => by unfold cntB sI; rw [cntB_sI P k]
theorem sI_rows (f : Nat → Int) : ∀ k, sI f (16 * k) = sI (fun b => sI (fun a => f (16 * b + a)) 16) k
  | 0 => rfl
  | k + 1 => by rw [Nat.mul_add, Nat.mul_one, sI_split, sI_rows f k]; rfl
/-- A list of numbers that is nought outside, shifted. -/
theorem sI_shift (f : Int → Int) (x : Int) (hx : -16 ≤ x ∧ x ≤ 16) (h0 : ∀ i, i < 0 ∨ 15 < i → f i = 0) :
    sI (fun a => f ((a : Int) - x)) 16 = sI (fun a => if 0 ≤ (a : Int) + x ∧ (a : Int) + x ≤ 15 then f (a : Int) else 0) 16 := by
  rcases Int.le_total 0 x with h | h
  · obtain ⟨d, rfl⟩ := Int.eq_ofNat_of_zero_le h
    obtain ⟨e, he⟩ : ∃ e, 16 = d + e := ⟨16 - d, by omega⟩
    have l : sI (fun a => f ((a : Int) - (d : Int))) 16 = sI (fun i => f (i : Int)) e := by
      rw [he, sI_split, sI_zero d (fun i hi => h0 _ (.inl (by omega)))]
      rw [Int.zero_add]
      exact sI_congr e (fun i _ => by rw [show ((d + i : Nat) : Int) - (d : Int) = (i : Int) by omega])
    have r : sI (fun a => if 0 ≤ (a : Int) + (d : Int) ∧ (a : Int) + (d : Int) ≤ 15 then f (a : Int) else 0) 16 = sI (fun i => f (i : Int)) e := by
      rw [he, Nat.add_comm d e, sI_split, sI_zero (f := fun i => if 0 ≤ ((e + i : Nat) : Int) + (d : Int) ∧ ((e + i : Nat) : Int) + (d : Int) ≤ 15 then f ((e + i : Nat) : Int) else 0) d (fun i hi => if_neg (by omega))]
      rw [Int.add_zero]
      exact sI_congr e (fun i hi => if_pos (by omega))
    rw [l, r]
  · obtain ⟨d, hd⟩ := Int.eq_ofNat_of_zero_le (show 0 ≤ -x by omega)
    obtain rfl : x = -(d : Int) := by omega
    obtain ⟨e, he⟩ : ∃ e, 16 = d + e := ⟨16 - d, by omega⟩
    have l : sI (fun a => f ((a : Int) - (-(d : Int)))) 16 = sI (fun i => f (((d + i : Nat) : Int))) e := by
      rw [he, Nat.add_comm d e, sI_split, sI_zero (f := fun i => f (((e + i : Nat) : Int) - -(d : Int))) d (fun i hi => h0 _ (.inr (by omega)))]
      rw [Int.add_zero]
      exact sI_congr e (fun i _ => by rw [show (i : Int) - -(d : Int) = ((d + i : Nat) : Int) by omega])
    have r : sI (fun a => if 0 ≤ (a : Int) + -(d : Int) ∧ (a : Int) + -(d : Int) ≤ 15 then f (a : Int) else 0) 16 = sI (fun i => f (((d + i : Nat) : Int))) e := by
      rw [he, sI_split, sI_zero d (fun i hi => if_neg (by omega))]
      rw [Int.zero_add]
      exact sI_congr e (fun i hi => if_pos (by omega))
    rw [l, r]
/-- What stays on the grid. -/
def stay (x y : Int) (a b : Int) : Bool := decide (0 ≤ a + x ∧ a + x ≤ 15) && decide (0 ≤ b + y ∧ b + y ≤ 15)
theorem cntB_le (P Q : Nat → Bool) : ∀ k, cntB (fun i => P i && Q i) k ≤ cntB P k ∧ (cntB (fun i => P i && Q i) k = cntB P k → ∀ i, i < k → P i = true → Q i = true)
  | 0 => ⟨Int.le_refl _, fun _ i hi => by omega⟩
  | k + 1 => by
    obtain ⟨h1, h2⟩ := cntB_le P Q k
    unfold cntB
    generalize cntB (fun i => P i && Q i) k = u at *
    generalize cntB P k = v at *
    cases hP : P k <;> cases hQ : Q k <;> simp only [Bool.and_true, Bool.and_false, Bool.and_self, if_true, if_false, Bool.false_eq_true, Bool.true_eq_false]
    · refine ⟨by omega, fun h i hi hp => ?_⟩
      by_cases e : i = k
      · subst e; rw [hP] at hp; cases hp
      · exact h2 (by omega) i (by omega) hp
    · refine ⟨by omega, fun h i hi hp => ?_⟩
      by_cases e : i = k
      · subst e; exact hQ
      · exact h2 (by omega) i (by omega) hp
    · exact ⟨by omega, fun h => by omega⟩
    · refine ⟨by omega, fun h i hi hp => ?_⟩
      by_cases e : i = k
      · subst e; exact hQ
      · exact h2 (by omega) i (by omega) hp
/-- The pixels of a shifted region are those that stay. -/
theorem sft_cnt {xs : List Int} {n : Nat} (h : reg xs n) {x y : Int} (hx : -16 ≤ x ∧ x ≤ 16) (hy : -16 ≤ y ∧ y ≤ 16) :
    cntB (fun i => sftG xs n x y (i % 16) (i / 16)) 256 = cntB (fun i => rh xs ((i % 16 : Nat) : Int) ((i / 16 : Nat) : Int) n && stay x y ((i % 16 : Nat) : Int) ((i / 16 : Nat) : Int)) 256 := by
  have hz : ∀ a b : Int, (a < 0 ∨ 15 < a) ∨ (b < 0 ∨ 15 < b) → rh xs a b n = false := fun a b hab => by
    cases hr : rh xs a b n
    · rfl
    · have := rh_in h n (Nat.le_refl _) hr
      omega
  obtain ⟨F, hF⟩ : ∃ F : Int → Int → Int, ∀ a b, F a b = if rh xs a b n = true then 1 else 0 := ⟨_, fun _ _ => rfl⟩
  have hF0 : ∀ a b : Int, (a < 0 ∨ 15 < a) ∨ (b < 0 ∨ 15 < b) → F a b = 0 := fun a b hab => by rw [hF, hz a b hab]; rfl
  rw [cntB_sI, cntB_sI, show 256 = 16 * 16 from rfl, sI_rows, sI_rows]
  have l : ∀ b : Nat, sI (fun a => if sftG xs n x y ((16 * b + a) % 16) ((16 * b + a) / 16) = true then (1 : Int) else 0) 16 = sI (fun a => if 0 ≤ (a : Int) + x ∧ (a : Int) + x ≤ 15 then F a ((b : Int) - y) else 0) 16 := fun b => by
    rw [← sI_shift (fun a => F a ((b : Int) - y)) x hx (fun i hi => hF0 _ _ (.inl hi))]
    refine sI_congr 16 (fun a ha => ?_)
    rw [hF, show (16 * b + a) % 16 = a by omega, show (16 * b + a) / 16 = b by omega]
    rfl
  rw [sI_congr 16 (fun b _ => l b)]
  rw [sI_shift (fun c => sI (fun a => if 0 ≤ (a : Int) + x ∧ (a : Int) + x ≤ 15 then F a c else 0) 16) y hy (fun i hi => sI_zero 16 (fun a _ => by
    by_cases q : 0 ≤ (a : Int) + x ∧ (a : Int) + x ≤ 15
    · rw [if_pos q]; exact hF0 _ _ (.inr hi)
    · rw [if_neg q]))]
  refine sI_congr 16 (fun b hb => ?_)
  by_cases hs : 0 ≤ (b : Int) + y ∧ (b : Int) + y ≤ 15
  · rw [if_pos hs]
    refine sI_congr 16 (fun a ha => ?_)
    rw [show (16 * b + a) % 16 = a by omega, show (16 * b + a) / 16 = b by omega, hF]
    unfold stay
    rw [decide_eq_true hs, Bool.and_true]
    by_cases hs2 : 0 ≤ (a : Int) + x ∧ (a : Int) + x ≤ 15
    · rw [if_pos hs2, decide_eq_true hs2, Bool.and_true]
    · rw [if_neg hs2, decide_eq_false hs2, Bool.and_false]; rfl
  · rw [if_neg hs]
    refine (sI_zero 16 (fun a ha => ?_)).symm
    rw [show (16 * b + a) % 16 = a by omega, show (16 * b + a) / 16 = b by omega]
    unfold stay
    rw [decide_eq_false hs, Bool.and_false, Bool.and_false]; rfl
/-- A shift and the shift back. -/
theorem sft_law {xs : List Int} {n : Nat} (hl : xs.length = 3 * n) (h : reg xs n) {x y : Int} (hx : -16 ≤ x ∧ x ≤ 16) (hy : -16 ≤ y ∧ y ≤ 16) {zs bs : List Int} {q r : Nat}
    (hz : zs = rnL (sftG xs n x y)) (hq : q = rnN (sftG xs n x y)) (hb : bs = rnL (sftG zs q (-x) (-y))) (hr : r = rnN (sftG zs q (-x) (-y))) :
    cbN 2 bs r xs n = 0 ∧ areaV zs q ≤ areaV xs n ∧ (areaV zs q = areaV xs n → bs = xs ∧ r = n) := by
  have rz : reg zs q := by rw [hz, hq]; exact rnL_reg _
  have rb : reg bs r := by rw [hb, hr]; exact rnL_reg _
  have ez : ∀ a b : Nat, a < 16 → b < 16 → rh zs a b q = rh xs ((a : Int) - x) ((b : Int) - y) n := fun a b ha hb' => by rw [hz, hq]; exact rnL_has _ ha hb'
  have eb : ∀ a b : Nat, a < 16 → b < 16 → rh bs a b r = (rh xs a b n && stay x y a b) := fun a b ha hb' => by
    have e1 : rh bs a b r = rh zs ((a : Int) - -x) ((b : Int) - -y) q := by rw [hb, hr]; exact rnL_has _ ha hb'
    rw [e1]
    unfold stay
    by_cases h1 : 0 ≤ (a : Int) + x ∧ (a : Int) + x ≤ 15
    · by_cases h2 : 0 ≤ (b : Int) + y ∧ (b : Int) + y ≤ 15
      · rw [decide_eq_true h1, decide_eq_true h2, Bool.and_true, Bool.and_true]
        obtain ⟨a', ha'⟩ := Int.eq_ofNat_of_zero_le h1.1
        obtain ⟨b', hb''⟩ := Int.eq_ofNat_of_zero_le h2.1
        rw [show (a : Int) - -x = (a' : Int) by omega, show (b : Int) - -y = (b' : Int) by omega, ez a' b' (by omega) (by omega), show (a' : Int) - x = (a : Int) by omega, show (b' : Int) - y = (b : Int) by omega]
      · rw [decide_eq_false h2, Bool.and_false, Bool.and_false]
        cases hr' : rh zs ((a : Int) - -x) ((b : Int) - -y) q
        · rfl
        · have := rh_in rz q (Nat.le_refl _) hr'
          omega
    · rw [decide_eq_false h1, Bool.false_and, Bool.and_false]
      cases hr' : rh zs ((a : Int) - -x) ((b : Int) - -y) q
      · rfl
      · have := rh_in rz q (Nat.le_refl _) hr'
        omega
  have ha : areaV zs q = cntB (fun i => rh xs ((i % 16 : Nat) : Int) ((i / 16 : Nat) : Int) n && stay x y ((i % 16 : Nat) : Int) ((i / 16 : Nat) : Int)) 256 := by
    rw [areaV_cnt rz, ← sft_cnt h hx hy]
    exact cntB_congr 256 (fun i hi => ez _ _ (Nat.mod_lt _ (by omega)) (by omega))
  obtain ⟨l1, l2⟩ := cntB_le (fun i => rh xs ((i % 16 : Nat) : Int) ((i / 16 : Nat) : Int) n) (fun i => stay x y ((i % 16 : Nat) : Int) ((i / 16 : Nat) : Int)) 256
  rw [← areaV_cnt h, ← ha] at l1 l2
  refine ⟨cb_none (cmbOk_yes rb h (by omega)) (fun a b p p' => ?_), l1, fun he => ?_⟩
  · rw [eb a b p p']
    cases rh xs a b n <;> cases stay x y a b <;> rfl
  · have hst := l2 he
    have := rnL_uniq (G := sftG zs q (-x) (-y)) hl h (fun a b p p' => by
      rw [← rnL_has (sftG zs q (-x) (-y)) p p', ← hb, ← hr, eb a b p p']
      cases hh : rh xs a b n
      · rfl
      · have := hst (16 * b + a) (by omega)
        rw [show (16 * b + a) % 16 = a by omega, show (16 * b + a) / 16 = b by omega] at this
        rw [this hh]; rfl)
    exact ⟨by rw [hb]; exact this.1.symm, by rw [hr]; exact this.2.symm⟩
/-- Drawn: a list of runs and two small numbers. -/
def DrawnS2 (w : World) (e : Ending) (w' : World) : Prop :=
  ∃ v n xs, ∃ x y : Int, e = .returned (.tuple #[v, .int .i64 x, .int .i64 y]) ∧ (n ≤ 300 ∧ -20 ≤ x ∧ x ≤ 20 ∧ -20 ≤ y ∧ y ≤ 20) ∧ OwnT 35 3 w' w.heap.size v n xs ∧ Below w.heap.size w w'
set_option maxHeartbeats 4000000 in
theorem drawSft_any (A : Option Addr) (c : Nat) (bs : List Int) (w : World) (hc : bs.length ≤ c) (h : Rdw .u8 w w.heap.size A bs) :
    Calls Tryd.prog 19 #[.slice A bs.length c] w (DrawnS2 w) := by
  go_enter Tryd.func19, Tryd.ntmps19
  go_wp2_with fail
  refine (newReader_any A c bs w hc h).mono ?_
  rintro e w1 ⟨rfl, hr1, hb1, hs1⟩
  clear hs1
  go_wp2_with fail
  refine (anyRegion_any _ 0 w1 hr1 (by omega)).mono ?_
  rintro e w2 ⟨v, n, xs, rfl, hn, hO, hr2, hg2⟩
  have hown : v.ownBlock ≠ some w.heap.size := fun e => by have := (hO.lt _ e).1; have := hr1.lt; omega
  have HB2 := Lib.hid (hb1.trans (hr1.trans hg2))
  have HO2 := Lib.hid (hO.base_le hb1.size)
  clear hO hg2 hb1 hr1
  go_wp2_with fail
  refine (one_lit _ [0, 1, -1, 3, -5, 16, 17] _ _ _ (0 + 300) w2 hr2 (by omega) (by simp) (by simp) rfl rfl).mono ?_
  rintro e w3 ⟨x, rfl, hx, hr3, hg3⟩
  have hx' : -20 ≤ x ∧ x ≤ 20 := by simp at hx; omega
  have HO3 := Lib.hid (HO2.out.kept hg3 (.inr hown))
  have HB3 := Lib.hid (HB2.out.trans (hr2.trans hg3))
  clear HO2 HB2 hr2 hg3 hx
  go_wp2_with fail
  refine (one_lit _ [0, 1, -1, 2, -16, -17] _ _ _ (0 + 300 + 1) w3 hr3 (by omega) (by simp) (by simp) rfl rfl).mono ?_
  rintro e w4 ⟨y, rfl, hy, hr4, hg4⟩
  have hy' : -20 ≤ y ∧ y ≤ 20 := by simp at hy; omega
  have HO4 := Lib.hid (HO3.out.kept hg4 (.inr hown))
  have HB4 := Lib.hid (HB3.out.trans (hr3.trans hg4))
  clear HO3 HB3 hr3 hg4 hr4 hy
  go_wp2
  exact bodyPost_ret (v := .tuple #[v, .int .i64 x, .int .i64 y]) (by simp [results, Tryd.results19, go_sem]) rfl ⟨v, n, xs, x, y, rfl, by omega, HO4.out, HB4.out⟩
end Go.Proofs.YtbjgjjhfnaiocaaDoor
