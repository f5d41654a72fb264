/- Contracts of GrowRegion, ShrinkRegion, OpenRegion and EdgeOf in the program. -/
import Derived.Test.YtoeifhflbgfcjaaDoorBitG
import Derived.Test.YtoeifhflbgfcjaaDoorChgS
import Derived.Test.YtoeifhflbgfcjaaDoorCmbK
import Derived.Deep.WholeRow
import Derived.Laws.CopyOwn
namespace Go.Proofs.YtoeifhflbgfcjaaDoor
open Go.RowKit
set_option linter.unusedSimpArgs false
set_option linter.unusedVariables false
set_option maxRecDepth 100000

set_option maxHeartbeats 16000000 in
theorem i_repeat (more : Bool) (f : Nat) (eg : ∀ args w, (callFunc f args).run Tryd.prog w = .ok (.enter f args) w) (hf : ∀ (B : Nat → Nat), (∀ y, B y < 65536) → ∀ w : World, Calls Tryd.prog f #[.agg (btC B)] w fun e w' => e = .returned (.agg (btC (chB more B))) ∧ Below w.heap.size w w')
    (B : Nat → Nat) (hB : ∀ y, B y < 65536) (k : Nat) (hk : k ≤ 16) (w : World) :
    Calls Tryd.prog 49 #[.agg (btC B), .int .i64 (k : Int), .func (.func f) #[] #[]] w fun e w' => e = .returned (.agg (btC (itB (chB more) k B))) ∧ Below w.heap.size w w' := by
  obtain ⟨u, hu⟩ : ∃ u, u = (w.alloc (.cells (btC B) 62)).alloc (.cells #[.int .u16 0, .int .u16 0, .int .u16 0, .int .u16 0, .int .u16 0, .int .u16 0, .int .u16 0, .int .u16 0, .int .u16 0, .int .u16 0, .int .u16 0, .int .u16 0, .int .u16 0, .int .u16 0, .int .u16 0, .int .u16 0] 62) := ⟨_, rfl⟩
  obtain ⟨b1, hb1⟩ : ∃ b, b = w.heap.size := ⟨_, rfl⟩
  obtain ⟨b2, hb2⟩ : ∃ b, b = w.heap.size + 1 := ⟨_, rfl⟩
  have HI0 : Hid (Bx u b2 62 (btC fun _ => 0) ∧ Bx u b1 62 (btC B) ∧ Below w.heap.size w u) := Lib.hid (by
    rw [hu, hb1, hb2]
    have e1 : Bx ((w.alloc (.cells (btC B) 62)).alloc (.cells #[.int .u16 0, .int .u16 0, .int .u16 0, .int .u16 0, .int .u16 0, .int .u16 0, .int .u16 0, .int .u16 0, .int .u16 0, .int .u16 0, .int .u16 0, .int .u16 0, .int .u16 0, .int .u16 0, .int .u16 0, .int .u16 0] 62)) (w.heap.size + 1) 62 #[.int .u16 0, .int .u16 0, .int .u16 0, .int .u16 0, .int .u16 0, .int .u16 0, .int .u16 0, .int .u16 0, .int .u16 0, .int .u16 0, .int .u16 0, .int .u16 0, .int .u16 0, .int .u16 0, .int .u16 0, .int .u16 0] := by simpa using Bx.new (w.alloc (.cells (btC B) 62)) 62 #[.int .u16 0, .int .u16 0, .int .u16 0, .int .u16 0, .int .u16 0, .int .u16 0, .int .u16 0, .int .u16 0, .int .u16 0, .int .u16 0, .int .u16 0, .int .u16 0, .int .u16 0, .int .u16 0, .int .u16 0, .int .u16 0]
    exact ⟨e1, (Bx.new w _ _).alloc _, ((Below.refl _ _).alloc (Nat.le_refl _) _).alloc (by simp) _⟩)
  have HU := Lib.hid hu
  have Hb1 := Lib.hid hb1
  have Hb2 := Lib.hid hb2
  have HFn := Lib.hid hf
  clear hu hb1 hb2 hf
  go_enter Tryd.func49, Tryd.ntmps49
  go_wp2
  rw [← HU.out, ← Hb2.out, ← Hb1.out]
  clear HU
  go_loopw [8] (fun i wr => ∃ p : Nat, p ≤ k ∧ i = .int .i64 (p : Int) ∧ Hid (Bx wr b2 62 (btC fun _ => 0) ∧ Bx wr b1 62 (btC (itB (chB more) p B)) ∧ Below w.heap.size w wr)) (fun i _ => k - (intOf i).toNat)
  case atStart => exact ⟨0, Nat.zero_le _, rfl, HI0⟩
  case round =>
    clear HI0
    obtain ⟨p, hp, rfl, hI⟩ := hrel
    rename World => wr
    obtain ⟨X, hX⟩ : ∃ X, X = itB (chB more) p B := ⟨_, rfl⟩
    have hXl : ∀ y, X y < 65536 := by rw [hX]; exact itB_lt more hB p
    rw [← hX] at hI
    by_cases hlt : p < k
    · have hpI : (p : Int) < (k : Int) := by omega
      have hX1 : chB more X = itB (chB more) (p + 1) B := by rw [hX]; rfl
      have HX1 := Lib.hid hX1
      clear hX hX1
      have H1 := Lib.hid hI.out.2.1
      have HC := Lib.hid (HFn.out X hXl wr)
      go_wp2_with (refine wpList_load_row rfl 62 _ rfl b1 rfl 62 (btC X) (0, 0) _ H1.out Tryd.underlying62 rfl bt_info ?_)
      refine HC.out.mono ?_
      rintro e w5 ⟨rfl, hb⟩
      have H15 := Lib.hid (show Bx w5 b1 62 (btC X) from (hb.block b1 H1.out.lt).trans H1.out)
      have HN : Hid (Bx (w5.setRow b1 (btC (chB more X))) b2 62 (btC fun _ => 0) ∧ Bx (w5.setRow b1 (btC (chB more X))) b1 62 (btC (itB (chB more) (p + 1) B)) ∧ Below w.heap.size w (w5.setRow b1 (btC (chB more X)))) := Lib.hid ⟨(setRow_other w5 b1 b2 _ (by have := Hb1.out; have := Hb2.out; omega)).trans ((hb.block b2 hI.out.1.lt).trans hI.out.1), by rw [← HX1.out]; exact setRow_heap w5 b1 (btC X) _ _ _ H15.out, below_setRow (hI.out.2.2.trans (hb.mono hI.out.2.2.size)) (Nat.le_of_eq Hb1.out.symm) _⟩
      clear hI H1 HC hb
      dsimp only
      apply_assumption
      refine wpList_store_row rfl 62 _ _ rfl b1 (btC (chB more X)) rfl rfl 62 (btC X) H15.out bt_info rfl (btC_one _) ?_
      go_wp2
      go_roundw
      case rel => exact ⟨p + 1, by omega, by go_num, HN⟩
      case measure => simp [intOf]; omega
    · obtain rfl : p = k := by omega
      have hpI : ¬ (p : Int) < (p : Int) := by omega
      have H1 := Lib.hid hI.out.2.1
      have H2 := Lib.hid hI.out.1
      have HR2 : Hid (Bx (wr.setRow b2 (btC X)) b2 62 (btC X)) := Lib.hid (setRow_heap wr b2 _ _ _ _ H2.out)
      have HE : Hid (Below w.heap.size w (wr.setRow b2 (btC X))) := Lib.hid (below_setRow hI.out.2.2 (by have := Hb2.out; omega) _)
      have HX := Lib.hid hX
      clear hI hX
      go_wp2_with (refine wpList_load_row rfl 62 _ rfl b1 rfl 62 (btC X) (0, 0) _ H1.out Tryd.underlying62 rfl bt_info ?_; refine wpList_store_row rfl 62 _ _ rfl b2 (btC X) rfl rfl 62 (btC fun _ => 0) H2.out bt_info rfl (btC_one _) ?_)
      exact bodyPost_ret (v := .agg (btC X)) (results_cell_row rfl _ _ b2 62 (btC X) (0, 0) _ rfl HR2.out Tryd.underlying62 rfl bt_info) rfl ⟨by rw [HX.out], HE.out⟩
set_option maxHeartbeats 4000000 in
theorem i_canRepeat (A : Option Addr) (n c : Nat) (xs : List Int) (k : Int) (w : World) (hx : xs.length = 3 * n) (h : Rds .i64 w w.heap.size A xs) (hl : n ≤ 2000000) :
    Calls Tryd.prog 48 #[.slice A n c, .int .i64 k] w fun e w' => e = .returned (.bool (chOk xs n k)) ∧ Below w.heap.size w w' := by
  have HV := Lib.hid (i_ValidRegion A n c w.heap.size xs w hx h (Nat.le_refl _) hl)
  clear h hx
  cases hr : regB xs n
  · have H : Hid (chOk xs n k = false) := Lib.hid (by unfold chOk; rw [hr, Bool.false_and])
    go_enter Tryd.func48, Tryd.ntmps48
    go_wp2_with fail
    refine HV.out.mono ?_
    rintro e w1 ⟨rfl, hb1⟩
    rw [hr]
    go_wp2
    go_ret
    exact ⟨ret_bool H.out.symm, hb1⟩
  · have H : Hid (chOk xs n k = decide (0 ≤ k ∧ k ≤ 16)) := Lib.hid (by unfold chOk; rw [hr, Bool.true_and])
    go_enter Tryd.func48, Tryd.ntmps48
    go_wp2_with fail
    refine HV.out.mono ?_
    rintro e w1 ⟨rfl, hb1⟩
    rw [hr]
    go_wp2_with fail
    refine (iIr_any k 0 16 w1).mono ?_
    rintro e w2 ⟨rfl, rfl⟩
    rw [← H.out]
    go_wp2
    go_ret
    exact ⟨rfl, hb1⟩
theorem grown_enters : ∀ args w, (callFunc 54 args).run Tryd.prog w = .ok (.enter 54 args) w := enters_of Tryd.func54 (by kernel_rfl) rfl
set_option maxHeartbeats 8000000 in
theorem i_GrowRegion (A : Option Addr) (n c : Nat) (xs : List Int) (k : Int) (w : World) (hx : xs.length = 3 * n) (h : Rds .i64 w w.heap.size A xs) (hl : n ≤ 2000000) (hT : Tab w) :
    Calls Tryd.prog 22 #[.slice A n c, .int .i64 k] w (RunsIf (chOk xs n k) (chG true k.toNat xs n) w) := by
  have HV := Lib.hid (i_canRepeat A n c xs k w hx h hl)
  have HR := Lib.hid h
  have HX := Lib.hid hx
  have HT := Lib.hid hT
  clear h hx hT
  cases hr : chOk xs n k
  · go_enter Tryd.func22, Tryd.ntmps22
    go_wp2_with fail
    refine HV.out.mono ?_
    rintro e w1 ⟨rfl, hb1⟩
    rw [hr]
    go_wp2
    go_ret
    exact RunsIf.no rfl hb1
  · have hok := hr
    unfold chOk at hok
    rw [Bool.and_eq_true] at hok
    have HG := Lib.hid (regB_of hok.1)
    obtain ⟨K, hK⟩ := Int.eq_ofNat_of_zero_le (of_decide_eq_true hok.2).1
    have hK16 : K ≤ 16 := by have := (of_decide_eq_true hok.2).2; omega
    clear hok
    subst hK
    go_enter Tryd.func22, Tryd.ntmps22
    go_wp2_with fail
    refine HV.out.mono ?_
    rintro e w1 ⟨rfl, hb1⟩
    rw [hr]
    have HB1 := Lib.hid hb1
    clear hb1 HV
    go_wp2_with fail
    refine (i_bitsOf A n c xs w1 HX.out ((HR.out.below HB1.out).more HB1.out.size) HG.out hl).mono ?_
    rintro e w3 ⟨rfl, hb3⟩
    have HB3 := Lib.hid (HB1.out.trans (hb3.mono HB1.out.size))
    clear hb3 HB1
    go_wp2_with fail
    refine (i_repeat true 54 grown_enters (fun B hB w => i_grown B hB w) (btR xs n) (btR_lt xs n) K hK16 w3).mono ?_
    rintro e w4 ⟨rfl, hb4⟩
    have HB4 := Lib.hid (HB3.out.trans (hb4.mono HB3.out.size))
    clear hb4 HB3
    go_wp2_with fail
    refine (i_runs (itB (chB true) K (btR xs n)) (itB_lt true (btR_lt xs n) K) w4 (HT.out.below HB4.out)).mono ?_
    rintro e w5 hR
    have HE := Lib.hid (RunsIf.yes (ok := true) (w := w) (G := chG true K xs n) rfl (fun a b ha hb => ch_grid HG.out true K a b ha hb) HB4.out hR)
    obtain ⟨v5, rfl, _, _⟩ := hR
    clear HB4
    go_wp2
    go_ret
    exact HE.out
theorem shrunk_enters : ∀ args w, (callFunc 51 args).run Tryd.prog w = .ok (.enter 51 args) w := enters_of Tryd.func51 (by kernel_rfl) rfl
set_option maxHeartbeats 8000000 in
theorem i_ShrinkRegion (A : Option Addr) (n c : Nat) (xs : List Int) (k : Int) (w : World) (hx : xs.length = 3 * n) (h : Rds .i64 w w.heap.size A xs) (hl : n ≤ 2000000) (hT : Tab w) :
    Calls Tryd.prog 20 #[.slice A n c, .int .i64 k] w (RunsIf (chOk xs n k) (chG false k.toNat xs n) w) := by
  have HV := Lib.hid (i_canRepeat A n c xs k w hx h hl)
  have HR := Lib.hid h
  have HX := Lib.hid hx
  have HT := Lib.hid hT
  clear h hx hT
  cases hr : chOk xs n k
  · go_enter Tryd.func20, Tryd.ntmps20
    go_wp2_with fail
    refine HV.out.mono ?_
    rintro e w1 ⟨rfl, hb1⟩
    rw [hr]
    go_wp2
    go_ret
    exact RunsIf.no rfl hb1
  · have hok := hr
    unfold chOk at hok
    rw [Bool.and_eq_true] at hok
    have HG := Lib.hid (regB_of hok.1)
    obtain ⟨K, hK⟩ := Int.eq_ofNat_of_zero_le (of_decide_eq_true hok.2).1
    have hK16 : K ≤ 16 := by have := (of_decide_eq_true hok.2).2; omega
    clear hok
    subst hK
    go_enter Tryd.func20, Tryd.ntmps20
    go_wp2_with fail
    refine HV.out.mono ?_
    rintro e w1 ⟨rfl, hb1⟩
    rw [hr]
    have HB1 := Lib.hid hb1
    clear hb1 HV
    go_wp2_with fail
    refine (i_bitsOf A n c xs w1 HX.out ((HR.out.below HB1.out).more HB1.out.size) HG.out hl).mono ?_
    rintro e w3 ⟨rfl, hb3⟩
    have HB3 := Lib.hid (HB1.out.trans (hb3.mono HB1.out.size))
    clear hb3 HB1
    go_wp2_with fail
    refine (i_repeat false 51 shrunk_enters (fun B hB w => i_shrunk B hB w) (btR xs n) (btR_lt xs n) K hK16 w3).mono ?_
    rintro e w4 ⟨rfl, hb4⟩
    have HB4 := Lib.hid (HB3.out.trans (hb4.mono HB3.out.size))
    clear hb4 HB3
    go_wp2_with fail
    refine (i_runs (itB (chB false) K (btR xs n)) (itB_lt false (btR_lt xs n) K) w4 (HT.out.below HB4.out)).mono ?_
    rintro e w5 hR
    have HE := Lib.hid (RunsIf.yes (ok := true) (w := w) (G := chG false K xs n) rfl (fun a b ha hb => ch_grid HG.out false K a b ha hb) HB4.out hR)
    obtain ⟨v5, rfl, _, _⟩ := hR
    clear HB4
    go_wp2
    go_ret
    exact HE.out
set_option maxHeartbeats 8000000 in
theorem i_OpenRegion (A : Option Addr) (n c : Nat) (xs : List Int) (k : Int) (w : World) (hx : xs.length = 3 * n) (h : Rds .i64 w w.heap.size A xs) (hl : n ≤ 2000000) (hT : Tab w) :
    Calls Tryd.prog 29 #[.slice A n c, .int .i64 k] w (RunsIf (chOk (cnL xs n k) (cnN xs n k) k) (chG true k.toNat (cnL xs n k) (cnN xs n k)) w) := by
  have HC := Lib.hid (i_ShrinkRegion A n c xs k w hx h hl hT)
  have HT := Lib.hid hT
  clear h hx hT
  go_enter Tryd.func29, Tryd.ntmps29
  go_wp2_with fail
  refine HC.out.mono ?_
  rintro e w1 ⟨v1, rfl, hO1, hb1⟩
  obtain ⟨A1, c1, rfl, hc1⟩ := hO1.slice
  have HB1 := Lib.hid hb1
  have HR1 : Hid (Rds .i64 w1 w1.heap.size A1 (cnL xs n k)) := Lib.hid hO1.rds
  clear hO1 hb1 HC
  go_wp2_with fail
  refine (i_GrowRegion A1 (cnN xs n k) c1 (cnL xs n k) k w1 (cn_len xs n k).1 HR1.out (by have := (cn_len xs n k).2; omega) (HT.out.below HB1.out)).mono ?_
  rintro e w2 hR
  have HE := Lib.hid (RunsIf.later HB1.out hR)
  obtain ⟨v2, rfl, _, _⟩ := hR
  clear HB1 HR1
  go_wp2
  go_ret
  exact HE.out
/-- A region without what is left of it: its edge. -/
theorem ed_combine {xs : List Int} {n : Nat} (h : reg xs n) (x y : Nat) (hx : x < 16) (hy : y < 16) : cmbG 2 xs n (cnL xs n 1) (cnN xs n 1) x y = edG xs n x y := by
  have hok : chOk xs n 1 = true := by unfold chOk; rw [regB_yes h]; rfl
  unfold cmbG cnL cnN
  rw [hok]
  show krule 2 (rh xs x y n) (rh (rnL (chG false 1 xs n)) x y (rnN (chG false 1 xs n))) = edG xs n x y
  rw [rnL_has _ hx hy]
  have e : rh xs x y n = rhF xs n (y * 16 + x) := by
    unfold rhF
    rw [show (y * 16 + x) % 16 = x by omega, show (y * 16 + x) / 16 = y by omega]
  rw [e]
  show (rhF xs n (y * 16 + x) && !skF (rhF xs n) (y * 16 + x)) = edF (rhF xs n) (y * 16 + x)
  unfold skF edF
  cases rhF xs n (y * 16 + x) <;> cases inF (rhF xs n) (y * 16 + x) <;> rfl
theorem ed_ok (xs : List Int) (n : Nat) : cmbOk 2 xs n (cnL xs n 1) (cnN xs n 1) = regB xs n := by
  unfold cmbOk
  cases hr : regB xs n
  · rfl
  · have hok : chOk xs n 1 = true := by unfold chOk; rw [hr]; rfl
    unfold cnL cnN
    rw [hok, Bool.true_and]
    show (regB (rnL (chG false 1 xs n)) (rnN (chG false 1 xs n)) && true) = true
    rw [regB_yes (rnL_reg _)]; rfl
set_option maxHeartbeats 8000000 in
theorem i_EdgeOf (A : Option Addr) (n c : Nat) (xs : List Int) (w : World) (hx : xs.length = 3 * n) (h : Rds .i64 w w.heap.size A xs) (hl : n ≤ 2000000) (hT : Tab w) :
    Calls Tryd.prog 15 #[.slice A n c] w (RunsIf (regB xs n) (edG xs n) w) := by
  have HC := Lib.hid (i_ShrinkRegion A n c xs 1 w hx h hl hT)
  have HR := Lib.hid h
  have HX := Lib.hid hx
  clear h hx hT
  go_enter Tryd.func15, Tryd.ntmps15
  go_wp2_with fail
  refine HC.out.mono ?_
  rintro e w1 ⟨v1, rfl, hO1, hb1⟩
  obtain ⟨A1, c1, rfl, hc1⟩ := hO1.slice
  have HB1 := Lib.hid hb1
  have HR1 : Hid (Rds .i64 w1 w1.heap.size A1 (cnL xs n 1)) := Lib.hid hO1.rds
  clear hO1 hb1 HC
  go_wp2_with fail
  refine (i_CombineRegions A A1 n (cnN xs n 1) c c1 xs (cnL xs n 1) 2 w1 HX.out ((HR.out.below HB1.out).more HB1.out.size) hl (cn_len xs n 1).1 HR1.out (by have := (cn_len xs n 1).2; omega)).mono ?_
  rintro e w2 ⟨v2, rfl, hO2, hb2⟩
  have HE : Hid (RunsIf (regB xs n) (edG xs n) w (.returned v2) w2) := Lib.hid (by
    refine ⟨v2, rfl, ?_, HB1.out.trans (hb2.mono HB1.out.size)⟩
    have hO := hO2.base_le HB1.out.size
    rw [ed_ok] at hO
    cases hr : regB xs n
    · rw [hr] at hO
      simp only [cond_false] at hO ⊢
      exact hO
    · rw [hr] at hO
      simp only [cond_true] at hO ⊢
      have e1 : rnL (cmbG 2 xs n (cnL xs n 1) (cnN xs n 1)) = rnL (edG xs n) := rnL_congr (fun x y px py => ed_combine (regB_of hr) x y px py)
      have e2 : rnN (cmbG 2 xs n (cnL xs n 1) (cnN xs n 1)) = rnN (edG xs n) := by unfold rnN; rw [e1]
      rw [← e1, ← e2]; exact hO)
  clear hO2 hb2 HB1 HR1
  go_wp2
  go_ret
  exact HE.out
end Go.Proofs.YtoeifhflbgfcjaaDoor
