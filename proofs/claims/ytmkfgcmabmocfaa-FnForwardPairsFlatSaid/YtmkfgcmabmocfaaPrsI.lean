/- Contracts of ForwardPairs and BackPairs in the program. -/
import Derived.Test.YtmkfgcmabmocfaaPrsM
import Derived.Test.YtmkfgcmabmocfaaDiv
import Derived.Deep.RegionWith
import Derived.Deep.QuietTactic
import Derived.BigQuiet
import Derived.BigRegion
import Derived.Shelf.Abstract
import Derived.WalkSpells
namespace Go.Proofs.Ytmkfgcmabmocfaa
open Go.RowKit Go.Shelf
set_option linter.unusedSimpArgs false
set_option linter.unusedVariables false
set_option maxRecDepth 20000

set_option maxHeartbeats 1000000 in
theorem iPrR_any (n lo hi : Int) (w : World) : Calls Try.prog 95 #[.int .i64 n, .int .i64 lo, .int .i64 hi] w fun e w' => e = .returned (.bool (decide (lo ≤ n ∧ n ≤ hi))) ∧ w = w' := by
  by_cases h1 : lo ≤ n <;> by_cases h2 : n ≤ hi
  all_goals
    go_enter Try.func95, Try.ntmps95
    go_wp2
    go_ret
    exact ⟨ret_bool (by simp [h1, h2] <;> omega), rfl⟩
theorem iPr1_any (n : Int) (w : World) : Calls Try.prog 94 #[.int .i64 n] w fun e w' => e = .returned (.bool (!decide (-999 ≤ n ∧ n ≤ 999))) ∧ w = w' := by
  go_enter Try.func94, Try.ntmps94
  go_wp2_with fail
  refine (iPrR_any _ _ _ _).mono ?_
  rintro e w' ⟨rfl, rfl⟩
  go_wp2
  go_ret
  exact ⟨ret_bool (by by_cases h1 : -999 ≤ n <;> by_cases h2 : n ≤ 999 <;> simp [h1, h2]), rfl⟩
set_option maxHeartbeats 4000000 in
theorem iPrIdx_any (A : Option Addr) (c B : Nat) (xs : List Int) (w : World) (h : Rds .i64 w B A xs) (hl : xs.length ≤ 10000000) :
    Calls Try.prog 115 #[.slice A xs.length c, .func (.func 94) #[] #[]] w fun e w' => (∃ r : Int, e = .returned (.int .i64 r) ∧ decide (r ≥ 0) = !allB (-999) 999 xs) ∧ w = w' := by
  have Hh := Lib.hid h
  have eg : ∀ args w, (callFunc 94 args).run Try.prog w = .ok (.enter 94 args) w := enters_of Try.func94 (by kernel_rfl) rfl
  clear h
  go_enter Try.func115, Try.ntmps115
  go_wp2
  go_loop [8] (fun i => ∃ k : Nat, k ≤ xs.length ∧ i = .int .i64 k ∧ Hid (∀ j, j < k → -999 ≤ xs.getD j 0 ∧ xs.getD j 0 ≤ 999)) (fun i => xs.length - (intOf i).toNat)
  case atStart => exact ⟨0, Nat.zero_le _, rfl, Lib.hid (fun j hj => by omega)⟩
  case round =>
    obtain ⟨k, hk, rfl, hT⟩ := hrel
    by_cases hlt : k < xs.length
    · obtain ⟨b, off, rfl, _, hc⟩ := Hh.out.cells_ hlt
      have h1 := hc k hlt
      have HX := Lib.hid (allB_no (lo := -999) (hi := 999) hlt)
      have HT : Hid ((-999 ≤ xs.getD k 0 ∧ xs.getD k 0 ≤ 999) → ∀ j, j < k + 1 → -999 ≤ xs.getD j 0 ∧ xs.getD j 0 ≤ 999) := Lib.hid (fun h1 j hj => by
        by_cases e : j = k
        · subst e; exact h1
        · exact hT.out j (by omega))
      clear hc
      generalize xs.getD k 0 = x at *
      cases hx : decide (-999 ≤ x ∧ x ≤ 999)
      · have HN2 : Hid (allB (-999) 999 xs = false) := Lib.hid (HX.out (of_decide_eq_false hx))
        go_wp2_with fail
        refine (iPr1_any _ _).mono ?_
        rintro e w' ⟨rfl, rfl⟩
        rw [hx]
        go_wp2
        go_ret
        exact ⟨⟨k, rfl, by rw [HN2.out]; exact decide_eq_true (by omega)⟩, rfl⟩
      · have HT' := Lib.hid (HT.out (of_decide_eq_true hx))
        clear HT
        go_wp2_with fail
        refine (iPr1_any _ _).mono ?_
        rintro e w' ⟨rfl, rfl⟩
        rw [hx]
        go_wp2
        go_round
        case rel => exact ⟨k + 1, by omega, by go_num, HT'⟩
        case measure => simp [intOf]; omega
    · have HF : Hid (allB (-999) 999 xs = true) := Lib.hid (allB_yes (fun j hj => hT.out j (by omega)))
      go_wp2
      go_ret
      exact ⟨⟨-1, rfl, by rw [HF.out]; rfl⟩, rfl⟩
theorem iPrCon_any (A : Option Addr) (c B : Nat) (xs : List Int) (w : World) (h : Rds .i64 w B A xs) (hl : xs.length ≤ 10000000) :
    Calls Try.prog 93 #[.slice A xs.length c, .func (.func 94) #[] #[]] w fun e w' => e = .returned (.bool (!allB (-999) 999 xs)) ∧ w = w' := by
  have H := Lib.hid (iPrIdx_any A c B xs w h hl)
  clear h
  go_enter Try.func93, Try.ntmps93
  go_wp2_with fail
  refine H.out.mono ?_
  rintro e w' ⟨⟨r, rfl, hd⟩, rfl⟩
  have HD := Lib.hid hd
  clear hd
  go_wp2
  go_ret
  exact ⟨ret_bool HD.out, rfl⟩
set_option maxHeartbeats 2000000 in
theorem iPrOk_any (A : Option Addr) (c B : Nat) (xs : List Int) (w : World) (h : Rds .i64 w B A xs) (hl : xs.length ≤ 10000000) :
    Calls Try.prog 47 #[.slice A xs.length c] w fun e w' => e = .returned (.bool (prOk xs)) ∧ w = w' := by
  have H := Lib.hid (iPrCon_any A c B xs w h hl)
  clear h
  by_cases h64 : (xs.length : Int) ≤ 64
  · have HV : Hid (prOk xs = allB (-999) 999 xs) := Lib.hid (by unfold prOk; rw [decide_eq_true h64, Bool.true_and])
    go_enter Try.func47, Try.ntmps47
    go_wp2_with fail
    refine H.out.mono ?_
    rintro e w' ⟨rfl, rfl⟩
    go_wp2
    go_ret
    exact ⟨ret_bool (by rw [HV.out]), rfl⟩
  · have HV : Hid (prOk xs = false) := Lib.hid (by unfold prOk; rw [decide_eq_false h64, Bool.false_and])
    go_enter Try.func47, Try.ntmps47
    go_wp2
    go_ret
    exact ⟨ret_bool HV.out.symm, rfl⟩
set_option maxHeartbeats 2000000 in
theorem iPlc_any (i n : Nat) (hi : i ≤ 10000000) (hn : n ≤ 10000000) (w : World) : Calls Try.prog 51 #[.int .i64 (i : Int), .int .i64 (n : Int)] w fun e w' => e = .returned (.int .i64 (plc n i : Int)) ∧ w = w' := by
  by_cases h : i % 2 = 0
  · have HV : Hid (plc n i = i / 2) := Lib.hid (by unfold plc; rw [if_pos h])
    have r1 : (i : Int).tmod 2 = 0 := by rw [Int.tmod_eq_emod_of_nonneg (by omega)]; omega
    have r2 : (i : Int).tdiv 2 = ((i / 2 : Nat) : Int) := by rw [Int.tdiv_eq_ediv_of_nonneg (by omega)]; omega
    have r3 : IntKind.i64.wrap ((i : Int).tdiv 2) = ((i / 2 : Nat) : Int) := by rw [r2]; exact IntWalk.i64_in _ (by omega)
    go_enter Try.func51, Try.ntmps51
    go_wp2
    go_ret
    exact ⟨ret_int (by rw [HV.out]; omega), rfl⟩
  · have HV : Hid (plc n i = (n + 1) / 2 + i / 2) := Lib.hid (by unfold plc; rw [if_neg h])
    have r1 : ¬ (i : Int).tmod 2 = 0 := by rw [Int.tmod_eq_emod_of_nonneg (by omega)]; omega
    go_enter Try.func51, Try.ntmps51
    go_wp2
    go_ret
    exact ⟨ret_int (by rw [HV.out]; omega), rfl⟩
set_option maxHeartbeats 1000000 in
theorem iMean_any (a b : Int) (ha : -1000 ≤ a ∧ a ≤ 1000) (hb : -1000 ≤ b ∧ b ≤ 1000) (w : World) : Calls Try.prog 50 #[.int .i64 a, .int .i64 b] w fun e w' => e = .returned (.tuple #[.int .i64 (mnF a b), .int .i64 (gpF a b)]) ∧ w = w' := by
  obtain ⟨a0, a1⟩ := ha
  obtain ⟨b0, b1⟩ := hb
  go_enter Try.func50, Try.ntmps50
  go_wp2_with fail
  refine (iHalf_any (a + b) w (by omega) (by omega)).mono ?_
  rintro e w' ⟨rfl, rfl⟩
  go_wp2
  go_ret2
  exact ⟨rfl, rfl⟩
def pwF (m d : Int) : Int := wrap64 (m + hfv (wrap64 (d + 1)))
def qwF (m d : Int) : Int := wrap64 (pwF m d - d)
set_option maxHeartbeats 1000000 in
theorem iPair_any (m d : Int) (w : World) : Calls Try.prog 54 #[.int .i64 m, .int .i64 d] w fun e w' => e = .returned (.tuple #[.int .i64 (pwF m d), .int .i64 (qwF m d)]) ∧ w = w' := by
  go_enter Try.func54, Try.ntmps54
  go_wp2_with fail
  refine (iHalf_free _ w).mono ?_
  rintro e w' ⟨rfl, rfl⟩
  go_wp2_with go_in
  go_ret2
  exact ⟨rfl, rfl⟩
theorem pw_in {m d : Int} (hm : -1998 ≤ m ∧ m ≤ 1998) (hd : -1998 ≤ d ∧ d ≤ 1998) : pwF m d = pfF m d ∧ qwF m d = psF m d := by
  have w0 : ∀ x : Int, -100000 ≤ x → x ≤ 100000 → wrap64 x = x := fun x h0 h1 => by rw [← IntWalk.i64_left]; exact IntWalk.i64_in x (by omega)
  have h1 : hfv (wrap64 (d + 1)) = (d + 1) / 2 := by
    rw [w0 _ (by omega) (by omega)]
    unfold hfv
    have t1 := Int.mul_tdiv_add_tmod (d + 1) 2
    have t2 := Int.tmod_lt_of_pos (d + 1) (show (0 : Int) < 2 by omega)
    have t3 := Int.lt_tmod_of_pos (d + 1) (show (0 : Int) < 2 by omega)
    split
    · rw [w0 ((d + 1).tdiv 2) (by omega) (by omega), w0 _ (by omega) (by omega)]; omega
    · rw [w0 ((d + 1).tdiv 2) (by omega) (by omega)]; omega
  have h2 : pwF m d = pfF m d := by unfold pwF pfF; rw [h1]; exact w0 _ (by omega) (by omega)
  refine ⟨h2, ?_⟩
  unfold qwF psF
  rw [h2]
  unfold pfF
  exact w0 _ (by omega) (by omega)
/-- The list of means and differences by additions that may overflow. -/
def bkW (xs : List Int) : List Int := fm xs.length (chg pwF qwF xs.length (apF xs))
theorem bkW_in {xs : List Int} (h : allB (-1998) 1998 xs = true) : bkW xs = bkL xs := by
  have hb : ∀ j, j < xs.length → -1998 ≤ apF xs j ∧ apF xs j ≤ 1998 := fun j hj => allB_get h (plc_cpl hj).1
  refine fm_ext (fun i hi => ?_)
  unfold chg
  by_cases h0 : i % 2 = 0
  · rw [if_pos h0, if_pos h0]
    by_cases h1 : i + 1 < xs.length
    · rw [if_pos h1, if_pos h1]; exact (pw_in (hb i hi) (hb _ h1)).1
    · rw [if_neg h1, if_neg h1]
  · rw [if_neg h0, if_neg h0]
    exact (pw_in (hb (i - 1) (by omega)) (hb i hi)).2
set_option maxHeartbeats 16000000 in
theorem iChg_any (F G : Int → Int → Int) (gf : Nat) (v : Value) (base : Nat) (xs : List Int) (w : World) (h : Own w base v xs) (hl : xs.length ≤ 10000000)
    (eg : ∀ args w, (callFunc gf args).run Try.prog w = .ok (.enter gf args) w)
    (hc : ∀ j w', j + 1 < xs.length → Calls Try.prog gf #[.int .i64 (getF xs j), .int .i64 (getF xs (j + 1))] w' fun e w'' => e = .returned (.tuple #[.int .i64 (F (getF xs j) (getF xs (j + 1))), .int .i64 (G (getF xs j) (getF xs (j + 1)))]) ∧ w' = w'') :
    Calls Try.prog 49 #[v, .func (.func gf) #[] #[]] w fun e w' => e = .returned (.tuple #[]) ∧ Own w' base v (fm xs.length (chg F G xs.length (getF xs))) ∧ w.grownBy w' v.ownBlock := by
  by_cases h0 : xs.length = 0
  · obtain rfl : xs = [] := List.eq_nil_of_length_eq_zero h0
    obtain ⟨A, c, rfl, _⟩ := h.slice
    have Hh := Lib.hid h
    clear h h0 hc
    go_enter Try.func49, Try.ntmps49
    go_wp2
    go_loop [4] (fun i => i = .int .i64 1) (fun _ => 0)
    case atStart => rfl
    case round =>
      obtain rfl := hrel
      go_wp2
      go_end0
      exact ⟨rfl, by simpa [fm] using Hh.out, World.grownBy.refl _ _⟩
  · obtain ⟨g, cap, rfl, hbg, hgl⟩ := h.form (by omega)
    have Hh := Lib.hid (h.length_eq (show fm xs.length (chk F G xs.length (getF xs) 0) = xs by rw [chk_start]; exact fm_eta xs))
    have HC := Lib.hid hc
    obtain ⟨n, hn⟩ : ∃ n, n = xs.length := ⟨_, rfl⟩
    have Hn := Lib.hid hn
    rw [← hn] at hl h0 Hh ⊢
    clear h hc hn
    go_enter Try.func49, Try.ntmps49
    go_wp2
    go_loopw [4] (fun i wr => ∃ k m : Nat, m = 2 * k + 1 ∧ m ≤ n + 1 ∧ i = .int .i64 (m : Int) ∧ Hid (Own wr base (.slice (some ⟨g, 0, none⟩) n cap) (fm n (chk F G n (getF xs) k)) ∧ w.grownBy wr (some g))) (fun i _ => n + 1 - (intOf i).toNat)
    case atStart => exact ⟨0, 1, rfl, by omega, rfl, Lib.hid ⟨Hh.out, World.grownBy.refl _ _⟩⟩
    case round =>
      obtain ⟨k, m, hm, hmn, rfl, hI⟩ := hrel
      by_cases hlt : m < n
      · obtain ⟨j, hj⟩ : ∃ j, j = 2 * k := ⟨_, rfl⟩
        have hjm : m = j + 1 := by omega
        have hO := hI.out.1
        have hlen : n = (fm n (chk F G n (getF xs) k)).length := (fm_len _ _).symm
        have c0 := hO.cell hlen (j := j) (by rw [fm_len]; omega)
        have c1 := hO.cell hlen (j := m) (by rw [fm_len]; omega)
        rw [fm_get _ (by omega)] at c0 c1
        have e0 : chk F G n (getF xs) k j = getF xs j := if_neg (by omega)
        have e1 : chk F G n (getF xs) k m = getF xs m := if_neg (by omega)
        rw [e0] at c0
        rw [e1] at c1
        have z0 := hO.frozen hlen j
        have z1 := hO.frozen hlen m
        have HCj := Lib.hid (hjm ▸ HC.out j : ∀ w', m < xs.length → Calls Try.prog gf #[.int .i64 (getF xs j), .int .i64 (getF xs m)] w' fun e w'' => e = .returned (.tuple #[.int .i64 (F (getF xs j) (getF xs m)), .int .i64 (G (getF xs j) (getF xs m))]) ∧ w' = w'')
        have hs1 : (m : Int) - 1 = (j : Int) := by omega
        have hs2 : IntKind.i64.wrap ((m : Int) - 1) = (j : Int) := by rw [hs1]; exact IntWalk.i64_in _ (by omega)
        have hs3 : IntKind.i64.wrap (j : Int) = (j : Int) := IntWalk.i64_in _ (by omega)
        have hjn : (j : Int) < (n : Int) := by omega
        have hmn2 : (m : Int) < (n : Int) := by omega
        have HN : Hid (∀ (u v : Int), u = F (getF xs j) (getF xs m) → v = G (getF xs j) (getF xs m) → Own ((wr.setCell ⟨g, j, none⟩ (.int .i64 u)).setCell ⟨g, m, none⟩ (.int .i64 v)) base (.slice (some ⟨g, 0, none⟩) n cap) (fm n (chk F G n (getF xs) (k + 1))) ∧ w.grownBy ((wr.setCell ⟨g, j, none⟩ (.int .i64 u)).setCell ⟨g, m, none⟩ (.int .i64 v)) (some g)) := Lib.hid (fun u v hu hv => by
          have p1 := hO.put hlen j u
          have p2 := p1.1.put (by rw [List.length_set]; exact hlen) m v
          refine ⟨?_, gtrans (gtrans hI.out.2 p1.2) p2.2⟩
          have := chk_step F G n (getF xs) k (by omega)
          rw [← this, ← hj, ← hjm]
          rw [hu, hv] at p2
          rw [hu, hv]
          exact p2.1)
        have HLt : Hid (m < xs.length) := Lib.hid (by have := Hn.out; omega)
        obtain ⟨y0, hy0⟩ : ∃ y0, y0 = getF xs j := ⟨_, rfl⟩
        obtain ⟨y1, hy1⟩ : ∃ y1, y1 = getF xs m := ⟨_, rfl⟩
        obtain ⟨r0, hr0⟩ : ∃ r0, r0 = F (getF xs j) (getF xs m) := ⟨_, rfl⟩
        obtain ⟨r1, hr1⟩ : ∃ r1, r1 = G (getF xs j) (getF xs m) := ⟨_, rfl⟩
        have HP := Lib.hid (HN.out r0 r1 hr0 hr1)
        have HCy := Lib.hid (fun w' => HCj.out w' HLt.out)
        rw [← hy0] at c0
        rw [← hy1] at c1
        rw [← hr0, ← hr1, ← hy0, ← hy1] at HCy
        have Hm := Lib.hid hm
        have hmw : m ≤ 10000000 := by omega
        clear hI hO hlen e0 e1 HCj HN hj hm HLt hy0 hy1 hr0 hr1 hjm
        go_upto_region 3 with fail
        go_region_with (go_at_fn gf; refine (HCy.out _).mono ?_; rintro e w2 ⟨rfl, rfl⟩)
        all_goals
          go_wp2
          go_roundw
          case rel => exact ⟨k + 1, m + 2, by have := Hm.out; omega, by omega, by go_num, Lib.hid ⟨HP.out.1, ⟨HP.out.2.os, HP.out.2.tape, HP.out.2.output, HP.out.2.size, HP.out.2.block⟩⟩⟩
          case measure => simp [intOf]; omega
      · have HE := Lib.hid (hI.out.1.length_eq (show fm n (chg F G n (getF xs)) = _ from (chk_end F G n (getF xs) k (by omega)).symm))
        have HG := Lib.hid hI.out.2
        clear hI
        go_wp2
        go_end0
        exact ⟨rfl, HE.out, HG.out⟩
set_option maxHeartbeats 2000000 in
theorem iClone_any (A : Option Addr) (c : Nat) (xs : List Int) (w : World) (h : Rds .i64 w w.heap.size A xs) (hl : xs.length ≤ 2000000) :
    Calls Try.prog 48 #[.slice A xs.length c] w (Made xs w) := by
  have H1 := Lib.hid (own_none w)
  have H2 := Lib.hid (h.alloc (Nat.le_refl _) (.cells #[] 3))
  have hq := fun w A n c => Lib.run_eql_slice_nil (P := Try.prog) w 23 3 A n c 0 0 Try.underlying23
  rcases A with _ | a
  · have hx : xs = [] := by rcases h with h | ⟨b, off, h, _⟩; exact h; cases h
    subst hx
    clear h
    go_enter Try.func48, Try.ntmps48
    go_wp2
    go_ret
    exact ⟨_, rfl, World.ownsRow_nil _ _ _ _, Below.refl _ _⟩
  · clear h
    go_enter Try.func48, Try.ntmps48
    go_wp2_with (at_builtin; refine wpList_app rfl (.tmp 5) (.tmp 6) rfl w.heap.size (.slice (some ⟨w.heap.size, 0, none⟩) 0 0) [] rfl H1.out (some a) xs.length c w.heap.size xs rfl rfl H2.out (by simp; omega) (by simp) ?_; intro v w1 hown hgrow)
    go_ret
    exact ⟨_, rfl, by simpa using hown, ((Below.refl _ _).alloc (Nat.le_refl _) _).grown hgrow (by simp) (by simp [Value.ownBlock])⟩
def fwA (xs : List Int) : List Int := cond (prOk xs) (fwL xs) []
set_option maxHeartbeats 8000000 in
theorem i_ForwardPairs (A : Option Addr) (c : Nat) (xs : List Int) (w : World) (h : Rds .i64 w w.heap.size A xs) (hl : xs.length ≤ 2000000) :
    Calls Try.prog 16 #[.slice A xs.length c] w (Made (fwA xs) w) := by
  have Hh := Lib.hid h
  clear h
  cases hv : prOk xs
  · have HV : Hid (fwA xs = []) := Lib.hid (by unfold fwA; rw [hv]; rfl)
    have Hv := Lib.hid hv
    clear hv
    go_enter Try.func16, Try.ntmps16
    go_wp2_with fail
    refine (iPrOk_any A c _ xs w Hh.out (by omega)).mono ?_
    rintro e w' ⟨rfl, rfl⟩
    rw [Hv.out]
    go_wp2
    go_ret
    exact ⟨_, rfl, by rw [HV.out]; exact World.ownsRow_nil _ _ _ _, Below.refl _ _⟩
  · have HV : Hid (fwA xs = fwL xs) := Lib.hid (by unfold fwA; rw [hv]; rfl)
    have Hv := Lib.hid hv
    have HP := Lib.hid (prOk_parts hv)
    have hl64 := HP.out.1
    have em : ∀ args w, (callFunc 50 args).run Try.prog w = .ok (.enter 50 args) w := enters_of Try.func50 (by kernel_rfl) rfl
    have HEm := Lib.hid em
    have hb : ∀ j, j < xs.length → -1000 ≤ getF xs j ∧ getF xs j ≤ 1000 := fun j hj => by have := allB_get HP.out.2 hj; omega
    have Hb := Lib.hid hb
    clear hv em hb
    have hmk := fun W => make_ints xs.length (by omega) W
    go_enter Try.func16, Try.ntmps16
    go_wp2_with fail
    refine (iPrOk_any A c _ xs w Hh.out (by omega)).mono ?_
    rintro e w' ⟨rfl, rfl⟩
    rw [Hv.out]
    go_wp2_with fail
    refine (iClone_any A c xs w Hh.out hl).mono ?_
    rintro e w1 ⟨v1, rfl, hO1, hB1⟩
    have HO1 := Lib.hid hO1
    have HB1 := Lib.hid hB1
    clear hO1 hB1
    go_wp2_with fail
    refine (iChg_any mnF gpF 50 v1 w.heap.size xs w1 HO1.out (by omega) HEm.out (fun j w' hj => iMean_any _ _ (Hb.out j (by omega)) (Hb.out (j + 1) hj) w')).mono ?_
    rintro e w2 ⟨rfl, hO2, hG2⟩
    have hB2 : Below w.heap.size w w2 := HB1.out.grown hG2 HB1.out.size (fun k hk => (HO1.out.lt k hk).1)
    obtain ⟨A2, c2, rfl, _⟩ := hO2.slice
    rw [fm_len] at hO2 hG2 ⊢
    obtain ⟨cf, hcf⟩ : ∃ cf, cf = chg mnF gpF xs.length (getF xs) := ⟨_, rfl⟩
    rw [← hcf] at hO2
    have Hcf := Lib.hid hcf
    have HO2 := Lib.hid hO2
    have HB2 := Lib.hid hB2
    clear hO2 hG2 hB2 HO1 HB1 hcf
    have hn64 : xs.length ≤ 64 := by omega
    have H3 := Lib.hid (Blk.new w2 (zeros xs.length))
    go_wp2
    generalize hw3 : w2.alloc (.cells (row (zeros xs.length)) 3) = w3 at *
    obtain ⟨q, hq⟩ : ∃ q, q = w2.heap.size := ⟨_, rfl⟩
    rw [← hq] at H3 ⊢
    have hqw : w.heap.size ≤ q := by have := HB2.out.size; omega
    have HR3 : Hid (Rds .i64 w3 q A2 (fm xs.length cf) ∧ Below w.heap.size w w3 ∧ q < w3.heap.size) := Lib.hid ⟨by rw [← hw3, hq]; exact HO2.out.rds.2.alloc (Nat.le_refl _) _, by rw [← hw3]; exact HB2.out.alloc HB2.out.size _, by rw [← hw3, hq]; simp⟩
    have HI0 : Hid (Blk w3 q (fm xs.length (put xs.length cf 0))) := Lib.hid (by rw [put_start]; exact H3.out)
    clear hw3 hmk H3 HO2 HB2 hq
    go_loopw [19] (fun i wr => ∃ j : Nat, j ≤ xs.length ∧ i = .int .i64 (j : Int) ∧ Hid (Blk wr q (fm xs.length (put xs.length cf j)) ∧ Below q w3 wr)) (fun i _ => xs.length - (intOf i).toNat)
    case atStart => exact ⟨0, Nat.zero_le _, rfl, Lib.hid ⟨HI0.out, Below.refl _ _⟩⟩
    case round =>
      obtain ⟨j, hj, rfl, hI⟩ := hrel
      clear HI0
      by_cases hlt : j < xs.length
      · obtain ⟨b, off, rfl, hbq, hcc⟩ := (HR3.out.1.below hI.out.2).cells_ (j := j) (by rw [fm_len]; exact hlt)
        have hcj := hcc j (by rw [fm_len]; exact hlt)
        rw [fm_get _ hlt] at hcj
        obtain ⟨p, hp⟩ : ∃ p, p = plc xs.length j := ⟨_, rfl⟩
        have hpn : p < xs.length := by rw [hp]; exact (plc_cpl hlt).1
        have hcp := hI.out.1.cell (i := p) (by rw [fm_len]; exact hpn)
        have hfp := hI.out.1.frozen p
        have hput := hI.out.1.put p (cf j)
        rw [hp, put_step xs.length cf j hlt, ← hp] at hput
        have HPut := Lib.hid hput
        have HBel := Lib.hid (hI.out.2.setCell (p := ⟨q, p, none⟩) (Nat.le_refl _) (.int .i64 (cf j)))
        have Hp := Lib.hid hp
        clear hcc hput hI hp
        generalize cf j = y at *
        generalize (fm xs.length (put xs.length cf j)).getD p 0 = z at *
        go_wp2_with fail
        refine (iPlc_any j xs.length (by omega) (by omega) wr).mono ?_
        rintro e w' ⟨rfl, rfl⟩
        rw [← Hp.out]
        go_wp2
        go_roundw
        case rel => exact ⟨j + 1, by omega, by go_num, Lib.hid ⟨HPut.out, HBel.out⟩⟩
        case measure => simp [intOf]; omega
      · have hk' : j = xs.length := by omega
        have e : fm xs.length (put xs.length cf j) = fwL xs := by rw [hk', put_end, Hcf.out]; rfl
        have hO := hI.out.1.own (base := w.heap.size) hqw (by rw [fm_len]; unfold maxLen; omega)
        rw [e, fwL_len] at hO
        have HE := Lib.hid (show Own _ w.heap.size (.slice (some ⟨q, 0, none⟩) xs.length xs.length) (fwL xs) from hO)
        have HB := Lib.hid (HR3.out.2.1.trans (hI.out.2.mono hqw))
        clear hI hO e
        go_wp2
        go_ret
        exact ⟨_, rfl, by rw [HV.out]; exact HE.out, HB.out⟩
end Go.Proofs.Ytmkfgcmabmocfaa
