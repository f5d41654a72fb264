/- The program's order of sprites: the stable sort of the library, for at most twenty of them. -/
import Derived.Test.YtgieijogopcjnaaPckP
import Derived.Shelf.Abstract
import Derived.BigQuiet
import Derived.BigRegion
import Derived.Deep.QuietTactic
namespace Go.Proofs.Ytgieijogopcjnaa
open Go.RowKit
set_option linter.unusedSimpArgs false
set_option linter.unusedVariables false
set_option maxRecDepth 20000

/-- What cmp.Compare answers. -/
def cmpI (a b : Int) : Int := if a < b then -1 else if b < a then 1 else 0
theorem cmpI_lt {a b : Int} : cmpI a b < 0 ↔ a < b := by
  unfold cmpI
  split
  · simp; assumption
  · split <;> simp <;> omega
set_option maxHeartbeats 1000000 in
theorem isNaN_any (a : Int) (w : World) : Calls Try.prog 51 #[.int .i64 a] w fun e w' => e = .returned (.bool false) ∧ w = w' := by
  go_enter Try.func51, Try.ntmps51
  go_wp2
  go_ret
  exact ⟨ret_bool (by simp), rfl⟩
set_option maxHeartbeats 2000000 in
theorem compare_any (a b : Int) (w : World) : Calls Try.prog 47 #[.int .i64 a, .int .i64 b] w fun e w' => e = .returned (.int .i64 (cmpI a b)) ∧ w = w' := by
  have HC : Hid ((a < b → cmpI a b = -1) ∧ (b < a → cmpI a b = 1) ∧ (¬ a < b → ¬ b < a → cmpI a b = 0)) := Lib.hid ⟨fun h => by unfold cmpI; rw [if_pos h], fun h => by unfold cmpI; rw [if_neg (by omega), if_pos h], fun h h' => by unfold cmpI; rw [if_neg h, if_neg h']⟩
  by_cases h1 : a < b
  · have HE := Lib.hid (HC.out.1 h1)
    go_enter Try.func47, Try.ntmps47
    go_wp2_with (first | (go_at_call 51; refine (isNaN_any _ _).mono ?_; rintro e w' ⟨rfl, rfl⟩))
    go_ret
    exact ⟨ret_int HE.out.symm, rfl⟩
  · by_cases h2 : b < a
    · have HE := Lib.hid (HC.out.2.1 h2)
      go_enter Try.func47, Try.ntmps47
      go_wp2_with (first | (go_at_call 51; refine (isNaN_any _ _).mono ?_; rintro e w' ⟨rfl, rfl⟩))
      go_ret
      exact ⟨ret_int HE.out.symm, rfl⟩
    · have HE := Lib.hid (HC.out.2.2 h1 h2)
      go_enter Try.func47, Try.ntmps47
      go_wp2_with (first | (go_at_call 51; refine (isNaN_any _ _).mono ?_; rintro e w' ⟨rfl, rfl⟩))
      go_ret
      exact ⟨ret_int HE.out.symm, rfl⟩
/-- The sprites, read through a box. -/
structure Srd (w : World) (pb : Nat) (A : Option Addr) (n c B : Nat) (xs : List Int) : Prop where
  box : w.cell? ⟨pb, 0, none⟩ = some (.slice A n c)
  lt : pb < B
  rds : Rds .i64 w B A xs
theorem Srd.grown {w w' : World} {pb n c B : Nat} {A : Option Addr} {xs : List Int} {row : Option Nat} (h : Srd w pb A n c B xs) (hg : w.grownBy w' row) (hB : B ≤ w.heap.size) (hr : ∀ g, row = some g → B ≤ g) : Srd w' pb A n c B xs :=
  ⟨by
    have e : w'.heap[pb]? = w.heap[pb]? := hg.block pb (by have := h.lt; omega) (fun e => by have := hr pb e.symm; have := h.lt; omega)
    rw [← h.box]
    simp [World.cell?, e], h.lt, h.rds.grown hg hB hr⟩
set_option maxHeartbeats 2000000 in
theorem hf1_any (i j : Nat) (pb n c B : Nat) (A : Option Addr) (xs : List Int) (w : World) (h : Srd w pb A n c B xs) (hx : xs.length = 2 * n) (hi : i < n) (hj : j < n) :
    Calls Try.prog 46 #[.int .i64 (i : Int), .int .i64 (j : Int), .pointer (some ⟨pb, 0, none⟩)] w fun e w' => e = .returned (.int .i64 (cmpI (hgt xs j) (hgt xs i))) ∧ ∃ q, w' = w.drewN q := by
  have hb := h.box
  obtain ⟨b, off, rfl, _, hc⟩ := h.rds.cells_ (show i * 2 + 1 < xs.length by omega)
  have c1 : w.cell? ⟨b, off + i * 2 + 1, none⟩ = some (.int .i64 (hgt xs i)) := by have := hc (i * 2 + 1) (by omega); rw [← Nat.add_assoc] at this; exact this
  have c2 : w.cell? ⟨b, off + j * 2 + 1, none⟩ = some (.int .i64 (hgt xs j)) := by have := hc (j * 2 + 1) (by omega); rw [← Nat.add_assoc] at this; exact this
  have i1 : (i : Int) < (n : Int) := by omega
  have j1 : (j : Int) < (n : Int) := by omega
  clear hc h
  generalize hgt xs i = x at *
  generalize hgt xs j = y at *
  go_enter Try.func46, Try.ntmps46
  go_wp2_with fail
  go_quiet ((go_at_call 47; exact Calls.quiet_of_same ((compare_any y x _).mono fun _ _ h => ⟨h.1, h.2.symm⟩)))
  go_wp2
  go_ret
  exact ⟨rfl, nq, rfl⟩
/-- The row while element i goes down, at place z. -/
def arrZ (out : List Int) (i : Int) (rest : List Int) (z : Nat) : List Int := out.take z ++ i :: (out.drop z ++ rest)
theorem arrZ_len (out : List Int) (i : Int) (rest : List Int) (z : Nat) : (arrZ out i rest z).length = out.length + 1 + rest.length := by
  unfold arrZ; simp; omega
theorem arrZ_at (out : List Int) (i : Int) (rest : List Int) {z : Nat} (hz : z ≤ out.length) : (arrZ out i rest z).getD z 0 = i := by
  unfold arrZ
  rw [List.getD_eq_getElem?_getD, List.getElem?_append_right (by simp; omega)]
  simp [Nat.min_eq_left hz]
theorem arrZ_below (out : List Int) (i : Int) (rest : List Int) {z : Nat} (hz : z + 1 ≤ out.length) : (arrZ out i rest (z + 1)).getD z 0 = out.getD z 0 := by
  unfold arrZ
  rw [List.getD_eq_getElem?_getD, List.getElem?_append_left (by simp; omega), List.getElem?_take, if_pos (by omega), ← List.getD_eq_getElem?_getD]
theorem arrZ_swap (out : List Int) (i : Int) (rest : List Int) {z : Nat} (hz : z + 1 ≤ out.length) : ((arrZ out i rest (z + 1)).set (z + 1) (out.getD z 0)).set z i = arrZ out i rest z := by
  have e1 : out.take (z + 1) = out.take z ++ [out.getD z 0] := by
    rw [List.take_succ_eq_append_getElem (by omega), List.getD_eq_getElem?_getD, List.getElem?_eq_getElem (by omega)]; rfl
  have e2 : out.drop z = out.getD z 0 :: out.drop (z + 1) := by
    rw [List.drop_eq_getElem_cons (by omega), List.getD_eq_getElem?_getD, List.getElem?_eq_getElem (by omega)]; rfl
  have hl : (out.take z).length = z := by simp; omega
  unfold arrZ
  rw [e1, e2]
  generalize out.getD z 0 = y
  generalize out.take z = p at *
  generalize out.drop (z + 1) = d
  subst hl
  rw [List.set_append_right _ _ (by simp)]
  simp
theorem arrZ_done (xs : List Int) (i : Nat) (rest : List Int) : arrZ (tfO xs i) (i : Int) rest (tfP xs (hgt xs i) (tfO xs i) i) = tfO xs (i + 1) ++ rest := by
  have hl := tfO_len xs i
  show _ = ((tfO xs i).take (tfP xs (hgt xs i) (tfO xs i) (tfO xs i).length) ++ [(i : Int)] ++ (tfO xs i).drop (tfP xs (hgt xs i) (tfO xs i) (tfO xs i).length)) ++ rest
  rw [hl]
  unfold arrZ
  simp
theorem marks0_drop (n i : Nat) (h : i < n) : (marks 0 n).drop i = (i : Int) :: (marks 0 n).drop (i + 1) := by
  rw [List.drop_eq_getElem_cons (by rw [marks_len]; exact h)]
  congr 1
  simp [marks]
theorem arrZ_start (xs : List Int) (n i : Nat) (h : i < n) : tfO xs i ++ (marks 0 n).drop i = arrZ (tfO xs i) (i : Int) ((marks 0 n).drop (i + 1)) i := by
  rw [marks0_drop n i h]
  unfold arrZ
  have e : (tfO xs i).drop i = [] := List.drop_eq_nil_of_le (by rw [tfO_len]; exact Nat.le_refl _)
  rw [e, List.take_of_length_le (by rw [tfO_len]; exact Nat.le_refl _)]
  rfl
theorem gdn {w w' : World} {r : Option Nat} (h : w.grownBy w' r) (n : Nat) : w.grownBy (w'.drewN n) r := ⟨h.os, h.tape, h.output, h.size, h.block⟩
/-- Sorted in place. -/
def Sorted (g base n cc : Nat) (ys : List Int) (w : World) (e : Ending) (w' : World) : Prop :=
  e = .returned (.tuple #[]) ∧ Own w' base (.slice (some ⟨g, 0, none⟩) n cc) ys ∧ w.grownBy w' (some g)
set_option maxHeartbeats 8000000 in
theorem insertion_any (g base n cc pb c : Nat) (A : Option Addr) (xs : List Int) (w : World) (hx : xs.length = 2 * n) (hS : Srd w pb A n c base xs) (hO : Own w base (.slice (some ⟨g, 0, none⟩) n cc) (marks 0 n)) (hg : base ≤ g) (hn : n ≤ 1000) :
    Calls Try.prog 52 #[.slice (some ⟨g, 0, none⟩) n cc, .int .i64 0, .int .i64 (n : Int), .func (.func 46) #[] #[.pointer (some ⟨pb, 0, none⟩)]] w (Sorted g base n cc (tfO xs n) w) := by
  have hbw : base ≤ w.heap.size := by have := (hO.lt g rfl); omega
  have HC : Hid (∀ u : World, w.grownBy u (some g) → ∀ i j : Nat, i < n → j < n → Calls Try.prog 46 #[.int .i64 (i : Int), .int .i64 (j : Int), .pointer (some ⟨pb, 0, none⟩)] u fun e w' => e = .returned (.int .i64 (cmpI (hgt xs j) (hgt xs i))) ∧ ∃ q, w' = u.drewN q) := Lib.hid (fun u hu i j hi hj => hf1_any i j pb n c base A xs u (hS.grown hu hbw (fun k hk => by injection hk with hk; omega)) hx hi hj)
  have eg : ∀ args w, (callFunc 46 args).run Try.prog w = .ok (.enter 46 args) w := enters_of Try.func46 (by kernel_rfl) rfl
  have HI0 : Hid (Own w base (.slice (some ⟨g, 0, none⟩) n cc) (tfO xs (min 1 n) ++ (marks 0 n).drop 1) ∧ w.grownBy w (some g)) := Lib.hid ⟨by
    rcases n with _ | n
    · exact hO
    · have e : tfO xs (min 1 (n + 1)) ++ (marks 0 (n + 1)).drop 1 = marks 0 (n + 1) := by
        rw [Nat.min_eq_left (by omega)]
        show [(0 : Int)] ++ (marks 0 (n + 1)).drop 1 = _
        have := marks0_drop (n + 1) 0 (by omega)
        rw [List.drop_zero] at this
        rw [this]; rfl
      rw [e]; exact hO, World.grownBy.refl _ _⟩
  clear hS hO hx
  go_enter Try.func52, Try.ntmps52
  go_wp2_with fail
  go_loopw [8] (fun i wr => ∃ k : Nat, 1 ≤ k ∧ k ≤ n + 1 ∧ i = .int .i64 (k : Int) ∧ Hid (Own wr base (.slice (some ⟨g, 0, none⟩) n cc) (tfO xs (min k n) ++ (marks 0 n).drop k) ∧ w.grownBy wr (some g))) (fun i _ => n - (intOf i).toNat)
  case atStart => exact ⟨1, by omega, by omega, rfl, HI0⟩
  case round =>
    clear HI0
    obtain ⟨k, hk1, hk, rfl, hI⟩ := hrel
    rename World => wr
    by_cases hlt : k < n
    · have hkI : (k : Int) < (n : Int) := by omega
      obtain ⟨out, hout⟩ : ∃ o, o = tfO xs k := ⟨_, rfl⟩
      obtain ⟨rest, hrest⟩ : ∃ o, o = (marks 0 n).drop (k + 1) := ⟨_, rfl⟩
      have HLo : Hid (out.length = k ∧ out.length + 1 + rest.length = n) := Lib.hid (by rw [hout, hrest, tfO_len, List.length_drop, marks_len]; omega)
      have HGet : Hid (∀ j, j < k → ∃ q : Nat, q < n ∧ out.getD j 0 = (q : Int)) := Lib.hid (fun j hj => by rw [hout]; obtain ⟨q, h1, h2⟩ := tfO_get xs hj; exact ⟨q, by omega, h2⟩)
      have HDone : Hid (arrZ out (k : Int) rest (tfP xs (hgt xs k) out k) = tfO xs (k + 1) ++ rest) := Lib.hid (by rw [hout]; exact arrZ_done xs k rest)
      have HI1 : Hid (Own wr base (.slice (some ⟨g, 0, none⟩) n cc) (arrZ out (k : Int) rest k) ∧ w.grownBy wr (some g)) := Lib.hid ⟨by have := hI.out.1; rw [Nat.min_eq_left (by omega), arrZ_start xs n k hlt] at this; rw [hout, hrest]; exact this, hI.out.2⟩
      clear hI hout
      obtain ⟨P, hP⟩ : ∃ P, P = tfP xs (hgt xs k) out k := ⟨_, rfl⟩
      have hPk : P ≤ k := by rw [hP]; exact tfP_le _ _ _ _
      rw [← hP] at HDone
      have HP := Lib.hid hP
      have HRest := Lib.hid hrest
      clear hP hrest
      go_wp2_with fail
      go_loopw [9] (fun a wq => ∃ z : Nat, z ≤ k ∧ a = .int .i64 (z : Int) ∧ Hid (tfP xs (hgt xs k) out z = P) ∧ Hid (Own wq base (.slice (some ⟨g, 0, none⟩) n cc) (arrZ out (k : Int) rest z) ∧ w.grownBy wq (some g))) (fun a _ => (intOf a).toNat)
      case atStart => exact ⟨k, Nat.le_refl _, rfl, Lib.hid HP.out.symm, HI1⟩
      case round =>
        clear HI1
        rename World => wr0
        obtain ⟨z, hz, rfl, hT, hI⟩ := hrel
        rename World => wq
        rcases z with _ | z
        · have hzP : 0 = P := hT.out
          have HN : Hid (Own wq base (.slice (some ⟨g, 0, none⟩) n cc) (tfO xs (min (k + 1) n) ++ (marks 0 n).drop (k + 1)) ∧ w.grownBy wq (some g)) := Lib.hid ⟨by have h := hI.out.1; have e := HDone.out; rw [← hzP, HRest.out] at e; rw [HRest.out, e] at h; rw [Nat.min_eq_left (by omega)]; exact h, hI.out.2⟩
          clear hI hT hzP
          have d0 : decide ((0 : Int) < ((0 : Nat) : Int)) = false := rfl
          have d1 : decide ((0 : Int) < (0 : Int)) = false := rfl
          go_upto_region 4 with fail
          go_quiet (fail)
          have HN2 : Hid (Own (wq.drewN nq) base (.slice (some ⟨g, 0, none⟩) n cc) (tfO xs (min (k + 1) n) ++ (marks 0 n).drop (k + 1)) ∧ w.grownBy (wq.drewN nq) (some g)) := Lib.hid ⟨HN.out.1, gdn HN.out.2 nq⟩
          clear HN
          go_wp2
          go_roundw
          case rel => exact ⟨k + 1, by omega, by omega, by go_num, HN2⟩
          case measure => simp [intOf]; omega
        · obtain ⟨q, hq, hg1⟩ := HGet.out z (by omega)
          have c1 := hI.out.1.cell (j := z + 1) (by rw [arrZ_len]; exact HLo.out.2.symm) (by rw [arrZ_len]; have := HLo.out; omega)
          have c2 := hI.out.1.cell (j := z) (by rw [arrZ_len]; exact HLo.out.2.symm) (by rw [arrZ_len]; have := HLo.out; omega)
          rw [arrZ_at _ _ _ (by have := HLo.out; omega)] at c1
          rw [arrZ_below _ _ _ (by have := HLo.out; omega), hg1] at c2
          have f1 := hI.out.1.frozen (by rw [arrZ_len]; exact HLo.out.2.symm) (z + 1)
          have f2 := hI.out.1.frozen (by rw [arrZ_len]; exact HLo.out.2.symm) z
          have hc := fun m => HC.out (wq.drewN m) (gdn hI.out.2 m) k q (by omega) hq
          have hStp : tfP xs (hgt xs k) out (z + 1) = if hgt xs q < hgt xs k then tfP xs (hgt xs k) out z else z + 1 := by
            show (if hgt xs (out.getD z 0).toNat < hgt xs k then _ else _) = _
            rw [hg1]; rfl
          have HSt := Lib.hid hStp
          have HG1 := Lib.hid hg1
          have i0 : (0 : Int) ≤ (z : Int) + 1 := by omega
          have i1 : (0 : Int) < (z : Int) + 1 := by omega
          have i2 : (z : Int) + 1 < (n : Int) := by omega
          have i3 : (z : Int) < (n : Int) := by omega
          have i4 : IntKind.i64.wrap (z : Int) = (z : Int) := IntWalk.i64_in _ (by omega)
          have i5 : ((z : Int) + 1).toNat = z + 1 := by omega
          have d0 : decide ((0 : Int) < (z : Int) + 1) = true := decide_eq_true i1
          clear hStp hg1
          by_cases hcmp : hgt xs q < hgt xs k
          · have hcl : cmpI (hgt xs q) (hgt xs k) < 0 := cmpI_lt.2 hcmp
            have HT2 : Hid (tfP xs (hgt xs k) out z = P) := Lib.hid (by have := HSt.out; rw [if_pos hcmp] at this; rw [← this]; exact hT.out)
            clear hcmp HSt hT
            generalize cmpI (hgt xs q) (hgt xs k) = v at *
            go_upto_region 4 with fail
            go_quiet (first | (go_at_fn 46; refine Calls.quiet_of (hc _)) | (go_at_call 46; refine Calls.quiet_of (hc _)))
            go_upto_region 6 with fail
            have HW : Hid (Own (wq.drewN nq) base (.slice (some ⟨g, 0, none⟩) n cc) (arrZ out (k : Int) rest (z + 1)) ∧ w.grownBy (wq.drewN nq) (some g)) := Lib.hid ⟨hI.out.1, gdn hI.out.2 nq⟩
            have c1 : (wq.drewN nq).cell? ⟨g, z + 1, none⟩ = some (.int .i64 (k : Int)) := c1
            have c2 : (wq.drewN nq).cell? ⟨g, z, none⟩ = some (.int .i64 (q : Int)) := c2
            have f1 : (wq.drewN nq).frozen? ⟨g, z + 1, none⟩ = false := f1
            have f2 : (wq.drewN nq).frozen? ⟨g, z, none⟩ = false := f2
            clear hc hI
            generalize wq.drewN nq = wz at *
            have hP1 := HW.out.1.put (by rw [arrZ_len]; exact HLo.out.2.symm) (z + 1) (q : Int)
            have hP2 := hP1.1.put (by simp only [List.length_set, arrZ_len]; exact HLo.out.2.symm) z (k : Int)
            have HE : Hid (Own ((wz.setCell ⟨g, z + 1, none⟩ (.int .i64 (q : Int))).setCell ⟨g, z, none⟩ (.int .i64 (k : Int))).drew base (.slice (some ⟨g, 0, none⟩) n cc) (arrZ out (k : Int) rest z) ∧ w.grownBy ((wz.setCell ⟨g, z + 1, none⟩ (.int .i64 (q : Int))).setCell ⟨g, z, none⟩ (.int .i64 (k : Int))).drew (some g)) := Lib.hid ⟨by
              have e := arrZ_swap out (k : Int) rest (z := z) (by have := HLo.out.1; omega)
              rw [HG1.out] at e
              rw [← e]
              exact hP2.1.drewN 1, gdn (gtrans (gtrans HW.out.2 hP1.2) hP2.2) 1⟩
            clear hP1 hP2 HW
            go_region
            generalize ((wz.setCell ⟨g, z + 1, none⟩ (.int .i64 (q : Int))).setCell ⟨g, z, none⟩ (.int .i64 (k : Int))).drew = wy at *
            clear c1 c2 f1 f2
            go_wp2
            go_roundw
            case rel => exact ⟨z, by omega, by go_num, HT2, HE⟩
            case measure => simp [intOf]
          · have hcl : ¬ cmpI (hgt xs q) (hgt xs k) < 0 := fun h => hcmp (cmpI_lt.1 h)
            have hzP : z + 1 = P := by have := HSt.out; rw [if_neg hcmp] at this; rw [← this]; exact hT.out
            have HN : Hid (Own wq base (.slice (some ⟨g, 0, none⟩) n cc) (tfO xs (min (k + 1) n) ++ (marks 0 n).drop (k + 1)) ∧ w.grownBy wq (some g)) := Lib.hid ⟨by have h := hI.out.1; have e := HDone.out; rw [← hzP, HRest.out] at e; rw [HRest.out, e] at h; rw [Nat.min_eq_left (by omega)]; exact h, hI.out.2⟩
            clear hzP hT HSt hcmp
            generalize cmpI (hgt xs q) (hgt xs k) = v at *
            go_upto_region 4 with fail
            go_quiet (first | (go_at_fn 46; refine Calls.quiet_of (hc _)) | (go_at_call 46; refine Calls.quiet_of (hc _)))
            have HN2 : Hid (Own (wq.drewN nq) base (.slice (some ⟨g, 0, none⟩) n cc) (tfO xs (min (k + 1) n) ++ (marks 0 n).drop (k + 1)) ∧ w.grownBy (wq.drewN nq) (some g)) := Lib.hid ⟨HN.out.1, gdn HN.out.2 nq⟩
            clear HN hI c1 c2 f1 f2
            go_wp2
            go_roundw
            case rel => exact ⟨k + 1, by omega, by omega, by go_num, HN2⟩
            case measure => simp [intOf]; omega
    · have hkI : ¬ (k : Int) < (n : Int) := by omega
      have HE : Hid (Own wr base (.slice (some ⟨g, 0, none⟩) n cc) (tfO xs n) ∧ w.grownBy wr (some g)) := Lib.hid ⟨by
        have h := hI.out.1
        rw [Nat.min_eq_right (by omega), List.drop_eq_nil_of_le (by rw [marks_len]; omega), List.append_nil] at h
        exact h, hI.out.2⟩
      clear hI
      go_wp2
      go_end0
      exact ⟨rfl, HE.out.1, HE.out.2⟩
set_option maxHeartbeats 4000000 in
theorem stable_any (g base n cc pb c : Nat) (A : Option Addr) (xs : List Int) (w : World) (hx : xs.length = 2 * n) (hS : Srd w pb A n c base xs) (hO : Own w base (.slice (some ⟨g, 0, none⟩) n cc) (marks 0 n)) (hg : base ≤ g) (hn : n ≤ 19) :
    Calls Try.prog 50 #[.slice (some ⟨g, 0, none⟩) n cc, .int .i64 (n : Int), .func (.func 46) #[] #[.pointer (some ⟨pb, 0, none⟩)]] w (Sorted g base n cc (tfO xs n) w) := by
  have H := Lib.hid (insertion_any g base n cc pb c A xs w hx hS hO hg (by omega))
  have h1 : ¬ (20 : Int) ≤ (n : Int) := by omega
  have h2 : ¬ (20 : Int) < (n : Int) := by omega
  clear hS hO hx
  go_enter Try.func50, Try.ntmps50
  go_wp2_with fail
  go_loopw [7, 8] (fun a b wr => a = .int .i64 0 ∧ b = .int .i64 20 ∧ w = wr) (fun _ _ _ => 0)
  case atStart => exact ⟨rfl, rfl, rfl⟩
  case round =>
    obtain ⟨rfl, rfl, rfl⟩ := hrel
    go_wp2_with fail
    refine H.out.mono ?_
    rintro e w2 ⟨rfl, hO2, hG2⟩
    have HE : Hid (Own w2 base (.slice (some ⟨g, 0, none⟩) n cc) (tfO xs n) ∧ w.grownBy w2 (some g)) := Lib.hid ⟨hO2, hG2⟩
    clear hO2 hG2
    go_wp2_with fail
    go_loopw [6, 7, 8, 9] (fun a _ _ _ wr => a = .int .i64 20 ∧ w2 = wr) (fun _ _ _ _ _ => 0)
    case atStart => exact ⟨rfl, rfl⟩
    case round =>
      obtain ⟨rfl, rfl⟩ := hrel
      go_wp2
      go_end0
      exact ⟨rfl, HE.out.1, HE.out.2⟩
set_option maxHeartbeats 4000000 in
theorem sortStable_any (g base n cc pb c : Nat) (A : Option Addr) (xs : List Int) (w : World) (hx : xs.length = 2 * n) (hS : Srd w pb A n c base xs) (hO : Own w base (.slice (some ⟨g, 0, none⟩) n cc) (marks 0 n)) (hg : base ≤ g) (hn : n ≤ 19) :
    Calls Try.prog 45 #[.slice (some ⟨g, 0, none⟩) n cc, .func (.func 46) #[] #[.pointer (some ⟨pb, 0, none⟩)]] w (Sorted g base n cc (tfO xs n) w) := by
  have H := Lib.hid (stable_any g base n cc pb c A xs w hx hS hO hg hn)
  clear hS hO hx
  go_enter Try.func45, Try.ntmps45
  go_wp2_with fail
  refine H.out.mono ?_
  rintro e w2 ⟨rfl, hO2, hG2⟩
  have HE : Hid (Own w2 base (.slice (some ⟨g, 0, none⟩) n cc) (tfO xs n) ∧ w.grownBy w2 (some g)) := Lib.hid ⟨hO2, hG2⟩
  clear hO2 hG2
  go_wp2
  go_end0
  exact ⟨rfl, HE.out.1, HE.out.2⟩
theorem marks0_set (n k : Nat) (h : k < n) : (marks 0 k ++ zeros (n - k)).set k (k : Int) = marks 0 (k + 1) ++ zeros (n - (k + 1)) := by
  have e : zeros (n - k) = 0 :: zeros (n - (k + 1)) := by
    unfold zeros
    rw [show n - k = (n - (k + 1)) + 1 by omega, List.replicate_succ]
  have e2 : marks 0 (k + 1) = marks 0 k ++ [(k : Int)] := by simp [marks, List.range_succ]
  rw [e, e2, List.set_append_right _ _ (by rw [marks_len]; exact Nat.le_refl _), marks_len, Nat.sub_self]
  simp
set_option maxHeartbeats 8000000 in
theorem highest_any (A : Option Addr) (n c : Nat) (xs : List Int) (w : World) (hx : xs.length = 2 * n) (h : Rds .i64 w w.heap.size A xs) (hn : n ≤ 19) :
    Calls Try.prog 38 #[.slice A n c] w (Made (tfO xs n) w) := by
  have Hh := Lib.hid h
  have HX := Lib.hid hx
  have hmk := fun U => make_ints n (by omega) U
  have HQ : Hid (Srd ((w.alloc (.cells #[.slice A n c] 34)).alloc (.cells (row (zeros n)) 3)) w.heap.size A n c (w.heap.size + 1) xs ∧ Own ((w.alloc (.cells #[.slice A n c] 34)).alloc (.cells (row (zeros n)) 3)) (w.heap.size + 1) (.slice (some ⟨w.heap.size + 1, 0, none⟩) n n) (marks 0 0 ++ zeros (n - 0)) ∧ Below w.heap.size w ((w.alloc (.cells #[.slice A n c] 34)).alloc (.cells (row (zeros n)) 3))) := Lib.hid ⟨⟨by
      have hb := heap_alloc_new w (.cells #[.slice A n c] 34)
      have hb2 : ((w.alloc (.cells #[.slice A n c] 34)).alloc (.cells (row (zeros n)) 3)).heap[w.heap.size]? = some (.cells #[.slice A n c] 34 (0, 0)) := by
        rw [← hb]
        exact (World.grownBy_alloc (w.alloc (.cells #[.slice A n c] 34)) (.cells (row (zeros n)) 3) none).block _ (by simp) (by simp)
      rw [cell_of_row _ _ _ _ _ _ hb2]; rfl, by omega, ((h.alloc (Nat.le_refl _) _).alloc (by simp) _).more (by omega)⟩, by
      have := Blk.new (w.alloc (.cells #[.slice A n c] 34)) (zeros n)
      have e := this.own (base := w.heap.size + 1) (by simp) (by simp [zeros]; unfold maxLen; omega)
      simp only [World.size_alloc] at e
      simpa [zeros, marks] using e, ((Below.refl _ _).alloc (Nat.le_refl _) _).alloc (by simp) _⟩
  clear h hx
  go_enter Try.func38, Try.ntmps38
  go_wp2_with fail
  clear hmk
  generalize (w.alloc (.cells #[.slice A n c] 34)).alloc (.cells (row (zeros n)) 3) = u0 at *
  go_loopw [10] (fun i wr => ∃ k : Nat, k ≤ n ∧ i = .int .i64 (k : Int) ∧ Hid (Own wr (w.heap.size + 1) (.slice (some ⟨w.heap.size + 1, 0, none⟩) n n) (marks 0 k ++ zeros (n - k)) ∧ u0.grownBy wr (some (w.heap.size + 1)))) (fun i _ => n - (intOf i).toNat)
  case atStart => exact ⟨0, by omega, rfl, Lib.hid ⟨HQ.out.2.1, World.grownBy.refl _ _⟩⟩
  case round =>
    obtain ⟨k, hk, rfl, hI⟩ := hrel
    rename World => wr
    by_cases hlt : k < n
    · have hkI : (k : Int) < (n : Int) := by omega
      have hlen : n = (marks 0 k ++ zeros (n - k)).length := by simp [marks_len, zeros]; omega
      have c1 := hI.out.1.cell (j := k) hlen (by omega)
      have f1 := hI.out.1.frozen hlen k
      have hp := hI.out.1.put hlen k (k : Int)
      rw [marks0_set n k hlt] at hp
      have HN : Hid (Own (wr.setCell ⟨w.heap.size + 1, k, none⟩ (.int .i64 (k : Int))) (w.heap.size + 1) (.slice (some ⟨w.heap.size + 1, 0, none⟩) n n) (marks 0 (k + 1) ++ zeros (n - (k + 1))) ∧ u0.grownBy (wr.setCell ⟨w.heap.size + 1, k, none⟩ (.int .i64 (k : Int))) (some (w.heap.size + 1))) := Lib.hid ⟨hp.1, gtrans hI.out.2 hp.2⟩
      clear hlen hp hI
      generalize (marks 0 k ++ zeros (n - k)).getD k 0 = y at *
      go_wp2
      go_roundw
      case rel => exact ⟨k + 1, by omega, by go_num, HN⟩
      case measure => simp [intOf]; omega
    · obtain rfl : k = n := by omega
      have hkI : ¬ (k : Int) < (k : Int) := by omega
      have hsz : w.heap.size + 1 ≤ u0.heap.size := by have := HQ.out.2.1.lt (w.heap.size + 1) rfl; omega
      have HS := Lib.hid (sortStable_any (w.heap.size + 1) (w.heap.size + 1) k k w.heap.size c A xs wr HX.out (HQ.out.1.grown hI.out.2 hsz (fun g hg => by injection hg with hg; omega)) (by have := hI.out.1; rw [Nat.sub_self] at this; simpa [zeros] using this) (Nat.le_refl _) hn)
      have HB : Hid (Below w.heap.size w wr) := Lib.hid (HQ.out.2.2.grown hI.out.2 HQ.out.2.2.size (fun g hg => by injection hg with hg; omega))
      clear hI hsz
      go_wp2_with fail
      refine HS.out.mono ?_
      rintro e w2 ⟨rfl, hO2, hG2⟩
      have HE : Hid (Own w2 w.heap.size (.slice (some ⟨w.heap.size + 1, 0, none⟩) k k) (tfO xs k) ∧ Below w.heap.size w w2) := Lib.hid ⟨hO2.base_le (by omega), HB.out.grown hG2 HB.out.size (fun g hg => by injection hg with hg; omega)⟩
      clear hO2 hG2 HB HS
      go_wp2
      go_ret
      exact ⟨_, rfl, HE.out.1, HE.out.2⟩
end Go.Proofs.Ytgieijogopcjnaa
