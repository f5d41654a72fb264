/- Contracts of EqualizeImage in the program: the sums of counts, the greatest number, the closures. -/
import Derived.Test.YtjcohmljpokgcaaHisI
import Derived.Test.YtjcohmljpokgcaaEquM
import Derived.Deep.QuietTactic
import Derived.BigQuiet
namespace Go.Proofs.Ytjcohmljpokgcaa
open Go.RowKit Go.Shelf
set_option linter.unusedSimpArgs false
set_option linter.unusedVariables false
set_option maxRecDepth 20000

theorem lsZ_get (xs : List Int) (k m : Nat) : (lsL xs (k + 1) ++ zeros m).getD k 0 = sm (hist xs) k := by
  rw [List.getD_eq_getElem?_getD, List.getElem?_append_left (by rw [lsL_len]; omega), ← List.getD_eq_getElem?_getD, lsL_get xs (by omega)]
theorem lsZ_one (xs : List Int) : lsL xs 1 ++ zeros 255 = zeros 256 := by
  show [sm (hist xs) 0] ++ List.replicate 255 0 = List.replicate 256 0
  rw [show (256 : Nat) = 255 + 1 from rfl, List.replicate_succ]
  rfl
theorem lsZ_set (xs : List Int) (k m : Nat) (hm : 0 < m) : (lsL xs (k + 1) ++ zeros m).set (k + 1) (sm (hist xs) k + (hist xs).getD k 0) = lsL xs (k + 1 + 1) ++ zeros (m - 1) := by
  rw [set_nxt _ _ _ _ hm (lsL_len _ _).symm, lsL_next xs (k + 1)]
  rfl
set_option maxHeartbeats 8000000 in
theorem belowT_any (xs : List Int) (hb : ∀ j, j < xs.length → 0 ≤ xs.getD j 0 ∧ xs.getD j 0 ≤ 255) (hl : xs.length ≤ 2000000) (w : World) :
    Calls Try.prog 56 #[.agg (row (hist xs))] w fun e w' => e = .returned (.agg (row (lsL xs 256))) ∧ Below w.heap.size w w' := by
  have HSM : Hid (∀ a : Nat, a ≤ 256 → 0 ≤ sm (hist xs) a ∧ sm (hist xs) a ≤ xs.length) := Lib.hid (fun a h => sm_le hb h)
  obtain ⟨hz, hi⟩ := zero_of_info (P := Try.prog) (t := 83) (v := .agg (row (zeros 256))) (n := 256) (by kernel_rfl)
  obtain ⟨Z, hZ⟩ : ∃ Z, Z = row (zeros 256) := ⟨_, rfl⟩
  rw [← hZ] at hz
  obtain ⟨C, hC⟩ : ∃ C, C = row (hist xs) := ⟨_, rfl⟩
  rw [← hC]
  have HZ := Lib.hid hZ
  have HI := Lib.hid hi
  have HC := Lib.hid hC
  clear hZ hi hC hb
  have S0 := (((GS.start w).box' 83 C w.heap.size (by simp)).box' 83 Z (w.heap.size + 1) (by simp)).box' 83 Z (w.heap.size + 1 + 1) (by simp)
  have HS := Lib.hid S0
  clear S0
  go_enter Try.func56, Try.ntmps56
  go_wp2
  generalize ((w.alloc (.cells C 83)).alloc (.cells Z 83)).alloc (.cells Z 83) = u0 at *
  obtain ⟨q, hq⟩ : ∃ q, q = w.heap.size + 1 + 1 := ⟨_, rfl⟩
  rw [← hq] at HS ⊢
  have H0 : Hid (GS w u0 [] (⟨q, 83, row (lsL xs (0 + 1) ++ zeros (255 - 0))⟩ :: ⟨w.heap.size + 1, 83, Z⟩ :: ⟨w.heap.size, 83, row (hist xs)⟩ :: [])) := Lib.hid (by
    have := HS.out
    rw [HC.out] at this
    rw [show lsL xs (0 + 1) ++ zeros (255 - 0) = zeros 256 from lsZ_one xs, ← HZ.out]
    exact this)
  clear HS hz hq HC
  go_loopw [5] (fun i wr => ∃ k : Nat, k ≤ 255 ∧ i = .int .i64 k ∧ Hid (GS w wr [] (⟨q, 83, row (lsL xs (k + 1) ++ zeros (255 - k))⟩ :: ⟨w.heap.size + 1, 83, Z⟩ :: ⟨w.heap.size, 83, row (hist xs)⟩ :: []))) (fun i _ => 255 - (intOf i).toNat)
  case atStart => exact ⟨0, Nat.zero_le _, rfl, H0⟩
  case round =>
    clear H0
    obtain ⟨k, hk, rfl, hI⟩ := hrel
    by_cases hlt : k < 255
    · have c1 := (hI.out.blk (List.Mem.head _)).cell (i := k) (by rw [List.length_append, lsL_len]; omega)
      rw [lsZ_get] at c1
      have c2 := (hI.out.blk (List.mem_cons_of_mem _ (List.mem_cons_of_mem _ (List.Mem.head _)))).cell (i := k) (by rw [hist_len]; omega)
      have c3 := (hI.out.blk (List.Mem.head _)).cell (i := k + 1) (by rw [List.length_append, lsL_len]; simp [zeros]; omega)
      have f3 := (hI.out.blk (List.Mem.head _)).frozen (k + 1)
      have HN := Lib.hid (hI.out.drew.setB (k + 1) (sm (hist xs) k + (hist xs).getD k 0))
      rw [lsZ_set xs k _ (by omega), show 255 - k - 1 = 255 - (k + 1) by omega] at HN
      have b1 := HSM.out k (by omega)
      have b2 := HSM.out (k + 1) (by omega)
      rw [show sm (hist xs) (k + 1) = sm (hist xs) k + (hist xs).getD k 0 from rfl] at b2
      have hq0 := hI.out.l0
      have hq2 := hI.out.l2
      clear hI
      generalize sm (hist xs) k = a at *
      generalize (hist xs).getD k 0 = b at *
      generalize List.getD (lsL xs (k + 1) ++ zeros (255 - k)) (k + 1) 0 = z at *
      have hw1 : IntKind.i64.wrap (a + b) = a + b := IntWalk.i64_in _ (by omega)
      go_wp2
      go_region
      all_goals
        (try go_wp2)
        go_roundw
        case rel => exact ⟨k + 1, by omega, by go_num, HN⟩
        case measure => simp [intOf]; omega
    · have hk' : k = 255 := by omega
      have e : lsL xs (k + 1) ++ zeros (255 - k) = lsL xs 256 := by subst hk'; simp [zeros]
      rw [e] at hI
      clear e hk'
      have h0 := hI.out.bx (List.Mem.head _)
      have hsz : (row (lsL xs 256)).size = 256 := by rw [row_size, lsL_len]
      have hZs : Z.size = 256 := by rw [HZ.out, row_size, zeros_len]
      have H0 := Lib.hid h0
      have Hz := Lib.hid (show (Try.prog.info? 83).map (·.size) = some (row (lsL xs 256)).size by rw [hsz]; exact HI.out)
      have hst := run_storeCells_row (xs := lsL xs 256) (hI.out.bx (List.mem_cons_of_mem _ (List.Mem.head _))) (by rw [lsL_len, hZs])
      have HE := Lib.hid (hI.out.swap.setRow (row (lsL xs 256)))
      clear h0 hsz hZs hI
      go_wp2
      refine wp_load_row 83 (.tmp 3) rfl q rfl 83 (row (lsL xs 256)) (0, 0) _ H0.out Try.underlying83 rfl Hz.out ?_
      go_at_K
      go_wp2
      refine bodyPost_ret (v := .agg (row (lsL xs 256))) (results_cell_row Try.results56 _ _ (w.heap.size + 1) 83 _ (0, 0) _ rfl (HE.out.bx (List.Mem.head _)) Try.underlying83 rfl Hz.out) rfl ⟨rfl, HE.out.below⟩
set_option maxHeartbeats 4000000 in
theorem smax_any (A : Option Addr) (c : Nat) (xs : List Int) (w : World) (h0 : 0 < xs.length) (hx : Rds .i64 w w.heap.size A xs) (hl : xs.length ≤ 2000000) (hb : ∀ j, j < xs.length → 0 ≤ xs.getD j 0 ∧ xs.getD j 0 ≤ 255) :
    Calls Try.prog 28 #[.slice A xs.length c] w fun e w' => e = .returned (.int .i64 (mx xs xs.length)) ∧ w' = w := by
  have HX := Lib.hid hx
  have HB := Lib.hid hb
  have H1 : Hid (mx xs 1 = xs.getD 0 0) := Lib.hid (mx_one xs)
  have HMB : Hid (∀ k, k ≤ xs.length → 0 ≤ mx xs k ∧ mx xs k ≤ 255) := Lib.hid (mx_bd xs h0 hb)
  obtain ⟨b, off, rfl, hb1, hc⟩ := hx.cells_ h0
  have hc0 := hc 0 h0
  rw [← H1.out, Nat.add_zero] at hc0
  have hlen : ¬ (xs.length : Int) < 1 := by omega
  have HC := Lib.hid hc
  clear hx hb hc
  go_enter Try.func28, Try.ntmps28
  go_wp2
  clear hc0
  go_loopw [3, 4] (fun m i wr => ∃ k : Nat, 1 ≤ k ∧ k ≤ xs.length ∧ i = .int .i64 k ∧ m = .int .i64 (mx xs k) ∧ wr = w) (fun _ i _ => xs.length - (intOf i).toNat)
  case atStart => exact ⟨1, Nat.le_refl _, h0, rfl, rfl, rfl⟩
  case round =>
    obtain ⟨k, hk1, hk, rfl, rfl, rfl⟩ := hrel
    by_cases hlt : k < xs.length
    · have hck := HC.out k hlt
      have hb1 := HMB.out k hk
      have hb2 := HB.out k hlt
      have HE : Hid (mx xs (k + 1) = max (mx xs k) (xs.getD k 0)) := Lib.hid rfl
      generalize xs.getD k 0 = y at *
      generalize mx xs k = T at *
      by_cases hm : y ≤ T
      · have e : max T y = T := by omega
        rw [e] at HE
        go_wp2
        go_roundw
        case rel => exact ⟨k + 1, by omega, by omega, by go_num, by rw [HE.out] <;> go_num, by trivial⟩
        case measure => simp [intOf]; omega
      · have e : max T y = y := by omega
        rw [e] at HE
        go_wp2
        go_roundw
        case rel => exact ⟨k + 1, by omega, by omega, by go_num, by rw [HE.out] <;> go_num, by trivial⟩
        case measure => simp [intOf]; omega
    · have hk' : k = xs.length := by omega
      have HK : Hid (mx xs k = mx xs xs.length) := Lib.hid (by rw [hk'])
      clear hk'
      go_wp2
      go_ret
      exact ⟨ret_int HK.out, rfl⟩
set_option maxHeartbeats 4000000 in
theorem i_Equ1 (x : Int) (w : World) : Calls Try.prog 58 (#[.int .i64 x] ++ #[]) w fun e w' => e = .returned (.int .i64 x) ∧ Below w.heap.size w w' := by
  show Calls Try.prog 58 #[.int .i64 x] w _
  go_enter Try.func58, Try.ntmps58
  go_wp2
  go_ret
  exact ⟨rfl, Below.refl _ _⟩
set_option maxHeartbeats 4000000 in
theorem i_Equ2 (n : Nat) (xs : List Int) (hn : n < 256) (hl : xs.length ≤ 2000000) (hs : 0 ≤ sm (hist xs) n ∧ sm (hist xs) n ≤ xs.length) (o : Int) (ho : 0 < o) (ho2 : o ≤ xs.length) (p r : Nat) (w : World) (hp : BlkT 83 w p (lsL xs 256)) (hr : w.cell? ⟨r, 0, none⟩ = some (.int .i64 o)) :
    Calls Try.prog 59 (#[.int .i64 (n : Int)] ++ #[.pointer (some ⟨p, 0, none⟩), .pointer (some ⟨r, 0, none⟩)]) w fun e w' => e = .returned (.int .i64 (255 * sm (hist xs) n / o)) ∧ Below w.heap.size w w' := by
  have hc := hp.cell (i := n) (by rw [lsL_len]; exact hn)
  rw [lsL_get xs hn] at hc
  clear hp
  obtain ⟨s0, s1⟩ := hs
  generalize sm (hist xs) n = s at *
  have hw1 : IntKind.i64.wrap (255 * s) = 255 * s := IntWalk.i64_in _ (by omega)
  have hd : (255 * s).tdiv o = 255 * s / o := Int.tdiv_eq_ediv_of_nonneg (by omega)
  have hd0 : 0 ≤ 255 * s / o := Int.ediv_nonneg (by omega) (by omega)
  have hd1 : 255 * s / o ≤ 255 * s := Int.ediv_le_self _ (by omega)
  have hw2 : IntKind.i64.wrap ((255 * s).tdiv o) = 255 * s / o := by rw [hd]; exact IntWalk.i64_in _ (by omega)
  have hne : ¬ o = 0 := by omega
  have hn3 : (n : Int) < 256 := by omega
  show Calls Try.prog 59 #[.int .i64 (n : Int), .pointer (some ⟨p, 0, none⟩), .pointer (some ⟨r, 0, none⟩)] w _
  go_enter Try.func59, Try.ntmps59
  go_wp2
  go_quiet (fail)
  go_wp2
  go_ret
  exact ⟨rfl, below_dm (Below.refl _ _) _⟩
end Go.Proofs.Ytjcohmljpokgcaa
