/- Contracts of images: copying, comparing, marking, validity. -/
import Derived.Test.YtolifmgkkkclkaaProg
import Derived.WalkKit
import Derived.Deep.QuietTactic
import Derived.BigQuiet
import Derived.Test.YtolifmgkkkclkaaLists
namespace Go.Proofs.Ytolifmgkkkclkaa
open Go.RowKit
set_option linter.unusedSimpArgs false
set_option linter.unusedVariables false

/-- The call made an image with a row of its own. -/
def MadeI (W H P : Int) (xs : List Int) (w : World) (e : Ending) (w' : World) : Prop :=
  ∃ v, e = .returned (.agg #[.int .i64 W, .int .i64 H, .int .i64 P, v]) ∧ Own w' w.heap.size v xs ∧ Below w.heap.size w w'
theorem bcell {W w1 : World} (hb : Below W.heap.size W w1) : (∀ b o, b < W.heap.size → w1.cell? ⟨b, o, none⟩ = W.cell? ⟨b, o, none⟩) ∧ (∀ b o, b < W.heap.size → w1.frozen? ⟨b, o, none⟩ = W.frozen? ⟨b, o, none⟩) :=
  ⟨fun b o h => hb.cell (p := ⟨b, o, none⟩) h, fun b o h => hb.frozen (p := ⟨b, o, none⟩) h⟩
theorem below_dm {B : Nat} {a w : World} (h : Below B a w) (n : Nat) : Below B a (w.drewN n) := ⟨h.os, h.tape, h.output, h.size, h.block⟩
theorem Own.setB {w : World} {base : Nat} {v : Value} {xs : List Int} (h : Own w base v xs) {p : Addr} (hp : p.block < base) (u : Value) : Own (w.setCell p u) base v xs :=
  h.keep fun g hg => Below.heap_setCell w p u g (by have := (h.lt g hg).1; omega)
set_option maxHeartbeats 2000000 in
theorem toImage_any (W H P : Int) (A : Option Addr) (c : Nat) (xs : List Int) (w : World) (h : Rds .i64 w w.heap.size A xs) (hl : xs.length ≤ 2000000) :
    Calls Try.prog 17 #[.agg #[.int .i64 W, .int .i64 H, .int .i64 P, .slice A xs.length c]] w (MadeI W H P xs w) := by
  have Hh := Lib.hid h
  clear h
  go_enter Try.func17, Try.ntmps17
  go_wp2_with fail
  refine (toIntS_any A c xs _ (((Hh.out.alloc (Nat.le_refl _) _).alloc (by simp) _).alloc (by simp <;> omega) _ |>.more (by simp <;> omega)) hl).mono ?_
  rintro e w1 ⟨v, rfl, hO, hB⟩
  obtain ⟨A1, c1, rfl, _⟩ := hO.slice
  obtain ⟨hc, hf⟩ := bcell hB
  have hz : w.heap.size + 1 + 1 < w1.heap.size := by have := hB.size; simp at this; omega
  have HO := Lib.hid hO
  have HB := Lib.hid hB
  clear hO hB
  go_wp2
  have hbs : w.heap.size + 3 ≤ (((w.alloc (.cells #[.int .i64 W, .int .i64 H, .int .i64 P, .slice A xs.length c] 36)).alloc (.cells #[.int .i64 0, .int .i64 0, .int .i64 0, .slice none 0 0] 25)).alloc (.cells #[.int .i64 W, .int .i64 H, .int .i64 P, .slice none 0 0] 25)).heap.size := by simp
  have hO := HO.out.base_le hbs
  have hB := ((((Below.refl w.heap.size w).alloc (Nat.le_refl _) _).alloc (by simp) _).alloc (by simp <;> omega) _).trans (HB.out.mono (by simp <;> omega))
  refine bodyPost_ret (v := .agg #[.int .i64 W, .int .i64 H, .int .i64 P, .slice A1 xs.length c1]) (by simp [results, Try.results17, go_sem, hc, hz]) rfl ⟨_, rfl, ?_, ?_⟩
  · exact (((((hO.setB (by simp <;> omega) _).setB (by simp <;> omega) _).setB (by simp <;> omega) _).setB (by simp <;> omega) _).setB (by simp <;> omega) _).base_le (by omega)
  · exact ((((hB.setCell (by simp <;> omega) _).setCell (by simp <;> omega) _).setCell (by simp <;> omega) _).setCell (by simp <;> omega) _).setCell (by simp <;> omega) _
set_option maxHeartbeats 1000000 in
theorem sIn_any (n lo hi : Int) (w : World) : Calls Try.prog 56 #[.int .i64 n, .int .i64 lo, .int .i64 hi] w fun e w' => e = .returned (.bool (decide (lo ≤ n ∧ n ≤ hi))) ∧ w = w' := by
  by_cases h1 : lo ≤ n <;> by_cases h2 : n ≤ hi
  all_goals
    go_enter Try.func56, Try.ntmps56
    go_wp2
    go_ret
    exact ⟨ret_bool (by simp [h1, h2] <;> omega), rfl⟩
set_option maxHeartbeats 1000000 in
theorem iIn_any (n lo hi : Int) (w : World) : Calls Try.prog 54 #[.int .i64 n, .int .i64 lo, .int .i64 hi] w fun e w' => e = .returned (.bool (decide (lo ≤ n ∧ n ≤ hi))) ∧ w = w' := by
  by_cases h1 : lo ≤ n <;> by_cases h2 : n ≤ hi
  all_goals
    go_enter Try.func54, Try.ntmps54
    go_wp2
    go_ret
    exact ⟨ret_bool (by simp [h1, h2] <;> omega), rfl⟩
/-- Whether an image can have a shape. -/
def vsh (W H P : Int) : Bool := decide (1 ≤ W ∧ W ≤ 16) && (decide (1 ≤ H ∧ H ≤ 16) && decide (1 ≤ P ∧ P ≤ 4))
/-- Whether an image is valid. -/
def vim (W H P : Int) (xs : List Int) : Bool := vsh W H P && (decide ((xs.length : Int) = W * H * P) && allB 0 255 xs)
set_option maxHeartbeats 2000000 in
theorem sShape_any (W H P : Int) (w : World) : Calls Try.prog 37 #[.int .i64 W, .int .i64 H, .int .i64 P] w fun e w' => e = .returned (.bool (vsh W H P)) ∧ w = w' := by
  have HV : Hid (vsh W H P = _) := Lib.hid rfl
  cases h1 : decide (1 ≤ W ∧ W ≤ 16) <;> cases h2 : decide (1 ≤ H ∧ H ≤ 16) <;> cases h3 : decide (1 ≤ P ∧ P ≤ 4)
  all_goals
    have HR : Hid (vsh W H P = _) := Lib.hid (show vsh W H P = (decide (1 ≤ W ∧ W ≤ 16) && (decide (1 ≤ H ∧ H ≤ 16) && decide (1 ≤ P ∧ P ≤ 4))) from rfl)
    rw [h1, h2, h3] at HR
    clear HV
    go_enter Try.func37, Try.ntmps37
    go_wp2_with fail
    refine (sIn_any W 1 16 w).mono ?_
    rintro e w' ⟨rfl, rfl⟩
    rw [h1]
    go_wp2_with fail
    try (refine (sIn_any H 1 16 w).mono ?_; rintro e w' ⟨rfl, rfl⟩; rw [h2]; go_wp2_with fail)
    try (refine (sIn_any P 1 4 w).mono ?_; rintro e w' ⟨rfl, rfl⟩; rw [h3]; go_wp2_with fail)
    go_ret
    exact ⟨ret_bool (by rw [HR.out] <;> rfl), rfl⟩
set_option maxHeartbeats 2000000 in
theorem iShape_any (W H P : Int) (w : World) : Calls Try.prog 32 #[.int .i64 W, .int .i64 H, .int .i64 P] w fun e w' => e = .returned (.bool (vsh W H P)) ∧ w = w' := by
  have HV : Hid (vsh W H P = _) := Lib.hid rfl
  cases h1 : decide (1 ≤ W ∧ W ≤ 16) <;> cases h2 : decide (1 ≤ H ∧ H ≤ 16) <;> cases h3 : decide (1 ≤ P ∧ P ≤ 4)
  all_goals
    have HR : Hid (vsh W H P = _) := Lib.hid (show vsh W H P = (decide (1 ≤ W ∧ W ≤ 16) && (decide (1 ≤ H ∧ H ≤ 16) && decide (1 ≤ P ∧ P ≤ 4))) from rfl)
    rw [h1, h2, h3] at HR
    clear HV
    go_enter Try.func32, Try.ntmps32
    go_wp2_with fail
    refine (iIn_any W 1 16 w).mono ?_
    rintro e w' ⟨rfl, rfl⟩
    rw [h1]
    go_wp2_with fail
    try (refine (iIn_any H 1 16 w).mono ?_; rintro e w' ⟨rfl, rfl⟩; rw [h2]; go_wp2_with fail)
    try (refine (iIn_any P 1 4 w).mono ?_; rintro e w' ⟨rfl, rfl⟩; rw [h3]; go_wp2_with fail)
    go_ret
    exact ⟨ret_bool (by rw [HR.out] <;> rfl), rfl⟩
theorem vsh_bd {W H P : Int} (h : vsh W H P = true) : (1 ≤ W ∧ W ≤ 16) ∧ (1 ≤ H ∧ H ≤ 16) ∧ (1 ≤ P ∧ P ≤ 4) ∧ 1 ≤ W * H ∧ W * H ≤ 256 ∧ 1 ≤ W * H * P ∧ W * H * P ≤ 1024 := by
  simp only [vsh, Bool.and_eq_true, decide_eq_true_eq] at h
  obtain ⟨hW, hH, hP⟩ := h
  have h1 : 1 * 1 ≤ W * H := Int.mul_le_mul hW.1 hH.1 (by omega) (by omega)
  have h2 : W * H ≤ 16 * 16 := Int.mul_le_mul hW.2 hH.2 (by omega) (by omega)
  have h3 : 1 * 1 ≤ W * H * P := Int.mul_le_mul (by omega) hP.1 (by omega) (by omega)
  have h4 : W * H * P ≤ 256 * 4 := Int.mul_le_mul (by omega) hP.2 (by omega) (by omega)
  exact ⟨hW, hH, hP, by omega, by omega, by omega, by omega⟩
set_option maxHeartbeats 4000000 in
theorem sVimg_any (W H P : Int) (A : Option Addr) (c : Nat) (xs : List Int) (w : World) (hx : Rds .i64 w w.heap.size A xs) (hl : xs.length ≤ 2000000) :
    Calls Try.prog 30 #[.agg #[.int .i64 W, .int .i64 H, .int .i64 P, .slice A xs.length c]] w fun e w' => e = .returned (.bool (vim W H P xs)) ∧ Below w.heap.size w w' := by
  have Hx := Lib.hid (hx.alloc (Nat.le_refl _) (.cells #[.int .i64 W, .int .i64 H, .int .i64 P, .slice A xs.length c] 25))
  have HB := Lib.hid ((Below.refl w.heap.size w).alloc (Nat.le_refl _) (.cells #[.int .i64 W, .int .i64 H, .int .i64 P, .slice A xs.length c] 25))
  have HV : Hid (vim W H P xs = (vsh W H P && (decide ((xs.length : Int) = W * H * P) && allB 0 255 xs))) := Lib.hid rfl
  clear hx
  cases hs : vsh W H P
  · have HR : Hid (vim W H P xs = false) := Lib.hid (by rw [HV.out, hs]; rfl)
    go_enter Try.func30, Try.ntmps30
    go_wp2_with fail
    refine (sShape_any W H P _).mono ?_
    rintro e w' ⟨rfl, rfl⟩
    go_wp2
    go_ret
    exact ⟨ret_bool HR.out.symm, HB.out⟩
  · obtain ⟨hW, hH, hP, h1, h2, h3, h4⟩ := vsh_bd hs
    by_cases hlen : (xs.length : Int) = W * H * P
    · have hq : ((xs.length : Int) == W * H * P) = true := by rw [hlen]; simp
      have HR : Hid (allB 0 255 xs = vim W H P xs) := Lib.hid (by rw [HV.out, hs, decide_eq_true hlen]; simp)
      clear hlen
      go_enter Try.func30, Try.ntmps30
      go_wp2_with fail
      refine (sShape_any W H P _).mono ?_
      rintro e w' ⟨rfl, rfl⟩
      go_wp2_with fail
      refine (sAllIn_any A c _ xs 0 255 _ Hx.out (by omega)).mono ?_
      rintro e w' ⟨rfl, rfl⟩
      go_wp2
      go_ret
      exact ⟨ret_bool HR.out, HB.out⟩
    · have hq : ((xs.length : Int) == W * H * P) = false := beq_eq_false_iff_ne.2 hlen
      have HR : Hid (vim W H P xs = false) := Lib.hid (by rw [HV.out, hs, decide_eq_false hlen]; rfl)
      clear hlen
      go_enter Try.func30, Try.ntmps30
      go_wp2_with fail
      refine (sShape_any W H P _).mono ?_
      rintro e w' ⟨rfl, rfl⟩
      go_wp2
      go_ret
      exact ⟨ret_bool HR.out.symm, HB.out⟩
set_option maxHeartbeats 4000000 in
theorem iVimg_any (W H P : Int) (A : Option Addr) (c : Nat) (xs : List Int) (w : World) (hx : Rds .i64 w w.heap.size A xs) (hl : xs.length ≤ 2000000) :
    Calls Try.prog 15 #[.agg #[.int .i64 W, .int .i64 H, .int .i64 P, .slice A xs.length c]] w fun e w' => e = .returned (.bool (vim W H P xs)) ∧ Below w.heap.size w w' := by
  have Hx := Lib.hid (hx.alloc (Nat.le_refl _) (.cells #[.int .i64 W, .int .i64 H, .int .i64 P, .slice A xs.length c] 25))
  have HB := Lib.hid ((Below.refl w.heap.size w).alloc (Nat.le_refl _) (.cells #[.int .i64 W, .int .i64 H, .int .i64 P, .slice A xs.length c] 25))
  have HV : Hid (vim W H P xs = (vsh W H P && (decide ((xs.length : Int) = W * H * P) && allB 0 255 xs))) := Lib.hid rfl
  clear hx
  cases hs : vsh W H P
  · have HR : Hid (vim W H P xs = false) := Lib.hid (by rw [HV.out, hs]; rfl)
    go_enter Try.func15, Try.ntmps15
    go_wp2_with fail
    refine (iShape_any W H P _).mono ?_
    rintro e w' ⟨rfl, rfl⟩
    go_wp2
    go_ret
    exact ⟨ret_bool HR.out.symm, HB.out⟩
  · obtain ⟨hW, hH, hP, h1, h2, h3, h4⟩ := vsh_bd hs
    by_cases hlen : (xs.length : Int) = W * H * P
    · have hq : ((xs.length : Int) == W * H * P) = true := by rw [hlen]; simp
      have HR : Hid (allB 0 255 xs = vim W H P xs) := Lib.hid (by rw [HV.out, hs, decide_eq_true hlen]; simp)
      clear hlen
      go_enter Try.func15, Try.ntmps15
      go_wp2_with fail
      refine (iShape_any W H P _).mono ?_
      rintro e w' ⟨rfl, rfl⟩
      go_wp2_with fail
      refine (areBytes_any A c _ xs _ Hx.out (by omega)).mono ?_
      rintro e w' ⟨rfl, rfl⟩
      go_wp2
      go_ret
      exact ⟨ret_bool HR.out, HB.out⟩
    · have hq : ((xs.length : Int) == W * H * P) = false := beq_eq_false_iff_ne.2 hlen
      have HR : Hid (vim W H P xs = false) := Lib.hid (by rw [HV.out, hs, decide_eq_false hlen]; rfl)
      clear hlen
      go_enter Try.func15, Try.ntmps15
      go_wp2_with fail
      refine (iShape_any W H P _).mono ?_
      rintro e w' ⟨rfl, rfl⟩
      go_wp2
      go_ret
      exact ⟨ret_bool HR.out.symm, HB.out⟩
set_option maxHeartbeats 2000000 in
theorem szImage_any (W H P : Int) (A : Option Addr) (c : Nat) (xs : List Int) (w : World) (hl : xs.length ≤ 1048576) :
    Calls Try.prog 16 #[.agg #[.int .i64 W, .int .i64 H, .int .i64 P, .slice A xs.length c], .int .i64 1048576] w fun e w' => e = .returned (.int .i64 (1048576 - xs.length)) ∧ Below w.heap.size w w' := by
  have HB := Lib.hid ((Below.refl w.heap.size w).alloc (Nat.le_refl _) (.cells #[.int .i64 W, .int .i64 H, .int .i64 P, .slice A xs.length c] 36))
  go_enter Try.func16, Try.ntmps16
  go_wp2_with go_in
  go_ret
  exact ⟨rfl, HB.out⟩
set_option maxHeartbeats 2000000 in
theorem szImage_no (W H P : Int) (A : Option Addr) (c : Nat) (xs : List Int) (w : World) (hl : 1048576 < xs.length) (hm : xs.length ≤ 9223372036854775807) :
    Calls Try.prog 16 #[.agg #[.int .i64 W, .int .i64 H, .int .i64 P, .slice A xs.length c], .int .i64 1048576] w fun e w' => e = .returned (.int .i64 (-1)) ∧ Below w.heap.size w w' := by
  have HB := Lib.hid ((Below.refl w.heap.size w).alloc (Nat.le_refl _) (.cells #[.int .i64 W, .int .i64 H, .int .i64 P, .slice A xs.length c] 36))
  go_enter Try.func16, Try.ntmps16
  go_wp2_with go_in
  go_ret
  exact ⟨rfl, HB.out⟩
set_option maxHeartbeats 2000000 in
theorem eqImage_same (W H P : Int) (A A' : Option Addr) (c c' n n' : Nat) (xs : List Int) (w : World) (hn : n = xs.length) (hn' : n' = xs.length) (hx : Rds .i64 w w.heap.size A xs) (hy : Rds .i64 w w.heap.size A' xs) (hl : xs.length ≤ 2000000) :
    Calls Try.prog 19 #[.agg #[.int .i64 W, .int .i64 H, .int .i64 P, .slice A n c], .agg #[.int .i64 W, .int .i64 H, .int .i64 P, .slice A' n' c']] w fun e w' => e = .returned (.bool true) ∧ Below w.heap.size w w' := by
  subst hn hn'
  have Hx := Lib.hid hx
  have Hy := Lib.hid hy
  clear hx hy
  go_enter Try.func19, Try.ntmps19
  go_wp2_with fail
  refine (eqIntS_any A A' c c' xs xs w.heap.size w.heap.size _ ((Hx.out.alloc (Nat.le_refl _) _).alloc (by simp) _) ((Hy.out.alloc (Nat.le_refl _) _).alloc (by simp) _) (by omega) (by omega)).mono ?_
  rintro e w' ⟨rfl, m, rfl⟩
  have HB : Hid (Below w.heap.size w _) := Lib.hid (below_dm (((Below.refl w.heap.size w).alloc (Nat.le_refl _) (.cells #[.int .i64 W, .int .i64 H, .int .i64 P, .slice A xs.length c] 25)).alloc (by simp) (.cells #[.int .i64 W, .int .i64 H, .int .i64 P, .slice A' xs.length c'] 25)) m)
  go_wp2
  go_ret
  exact ⟨rfl, HB.out⟩
set_option maxHeartbeats 2000000 in
theorem markImage_any (W H P : Int) (v : Value) (base : Nat) (xs : List Int) (k : Int) (w : World) (h : Own w base v xs) (hl : xs.length ≤ 10000000) (hk0 : 0 ≤ k) (hk1 : k ≤ 100000000) :
    Calls Try.prog 20 #[.agg #[.int .i64 W, .int .i64 H, .int .i64 P, v], .int .i64 k] w fun e w' => e = .returned (.int .i64 (k + xs.length)) ∧ Own w' base v (marks k xs.length) ∧ w.grownBy w' v.ownBlock := by
  have Hh := Lib.hid h
  obtain ⟨A, c, rfl, _⟩ := h.slice
  clear h
  go_enter Try.func20, Try.ntmps20
  go_wp2_with fail
  refine (markIntS_any _ base xs k _ (Hh.out.alloc _) hl hk0 hk1).mono ?_
  rintro e w' ⟨rfl, hO, hG, hZ⟩
  have HG := Lib.hid (gtrans (World.grownBy_alloc w _ _) hG)
  have HO := Lib.hid hO
  clear hO hG hZ
  go_wp2
  go_ret
  exact ⟨rfl, HO.out, HG.out⟩
set_option maxHeartbeats 2000000 in
theorem heldImage_any (W H P : Int) (A : Option Addr) (c n : Nat) (k : Int) (w : World) (h : Rds .i64 w w.heap.size A (marks k n)) (hl : n ≤ 10000000) (hk0 : 0 ≤ k) (hk1 : k ≤ 100000000) :
    Calls Try.prog 24 #[.agg #[.int .i64 W, .int .i64 H, .int .i64 P, .slice A n c], .int .i64 k] w fun e w' => e = .returned (.int .i64 (k + n)) ∧ Below w.heap.size w w' := by
  have Hh := Lib.hid h
  have HB := Lib.hid ((Below.refl w.heap.size w).alloc (Nat.le_refl _) (.cells #[.int .i64 W, .int .i64 H, .int .i64 P, .slice A n c] 25))
  clear h
  go_enter Try.func24, Try.ntmps24
  go_wp2_with fail
  refine (heldIntS_any A c _ n k _ (Hh.out.alloc (Nat.le_refl _) _) hl hk0 hk1).mono ?_
  rintro e w' ⟨rfl, rfl⟩
  go_wp2
  go_ret
  exact ⟨rfl, HB.out⟩
end Go.Proofs.Ytolifmgkkkclkaa
