/- Contract of EqualizeImage in the program. -/
import Derived.Test.YtjcohmljpokgcaaEquI
import Derived.Test.YtjcohmljpokgcaaMapS
namespace Go.Proofs.Ytjcohmljpokgcaa
open Go.RowKit Go.Shelf
set_option linter.unusedSimpArgs false
set_option linter.unusedVariables false
set_option maxRecDepth 20000

theorem vpl_parts {W H P : Int} {xs : List Int} (h : vpl W H P xs = true) : vim W H P xs = true ∧ P = 1 := by
  unfold vpl at h
  rw [Bool.and_eq_true] at h
  exact ⟨h.1, of_decide_eq_true h.2⟩
set_option maxHeartbeats 8000000 in
theorem i_EqualizeImage (W H P : Int) (A : Option Addr) (c : Nat) (xs : List Int) (w : World) (hx : Rds .i64 w w.heap.size A xs) (hl : xs.length ≤ 2000000) :
    Calls Try.prog 19 #[.agg #[.int .i64 W, .int .i64 H, .int .i64 P, .slice A xs.length c]] w (MadeIf (vpl W H P xs) W H P (eqL xs) w) := by
  have HX := Lib.hid hx
  clear hx
  obtain ⟨hz, hi⟩ := zero_of_info (P := Try.prog) (t := 83) (v := .agg (row (zeros 256))) (n := 256) (by kernel_rfl)
  obtain ⟨Z, hZ⟩ : ∃ Z, Z = row (zeros 256) := ⟨_, rfl⟩
  rw [← hZ] at hz
  have HZ := Lib.hid hZ
  clear hZ hi
  have S0 := ((GS.start w).box' 25 #[.int .i64 W, .int .i64 H, .int .i64 P, .slice A xs.length c] w.heap.size (by simp)).box' 25 #[.int .i64 0, .int .i64 0, .int .i64 0, .slice none 0 0] (w.heap.size + 1) (by simp)
  go_enter Try.func19, Try.ntmps19
  go_wp2_with fail
  generalize (w.alloc (.cells #[.int .i64 W, .int .i64 H, .int .i64 P, .slice A xs.length c] 25)).alloc (.cells #[.int .i64 0, .int .i64 0, .int .i64 0, .slice none 0 0] 25) = u0 at *
  refine (iVplane_any W H P A c xs u0 (S0.arg HX.out) hl).mono ?_
  rintro e u1 ⟨rfl, hB⟩
  have S1 := S0.call hB
  clear hB S0
  cases hv : vpl W H P xs
  · have Hv := Lib.hid hv
    obtain ⟨r0, r1, r2, r3⟩ := S1.b0_4
    have f0 := S1.f0 0
    have f1 := S1.f0 1
    have f2 := S1.f0 2
    have f3 := S1.f0 3
    have HE := Lib.hid (S1.e0_4 (.int .i64 0) (.int .i64 0) (.int .i64 0) (.slice none 0 0)).1
    clear S1 hv hz
    go_wp2
    exact bodyPost_ret (v := .agg #[.int .i64 0, .int .i64 0, .int .i64 0, .slice none 0 0]) (by simp [results, Try.results19, go_sem, r0, r1, r2, r3]) rfl (MadeIf.no Hv.out ⟨_, rfl, World.ownsRow_nil _ _ _ _, HE.out⟩)
  · have Hv := Lib.hid hv
    have hvm := (vpl_parts hv).1
    have HB := Lib.hid (bytes_of hvm)
    have Hp := Lib.hid (vim_pos hvm)
    obtain ⟨b0, b1, b2, b3⟩ := S1.b1_4
    have HS := Lib.hid S1
    clear S1 hv hvm
    go_wp2_with fail
    refine (counts_any W H P A c xs u1 (HS.out.arg HX.out) hl HB.out).mono ?_
    rintro e u2 ⟨rfl, hB⟩
    have HS2 := Lib.hid (HS.out.call hB)
    clear hB HS b0 b1 b2 b3
    go_wp2_with fail
    refine (belowT_any xs HB.out hl u2).mono ?_
    rintro e u3 ⟨rfl, hB⟩
    have hZs : Z.size = 256 := by rw [HZ.out, row_size, zeros_len]
    have S3 := (HS2.out.call hB).box' 83 Z u3.heap.size rfl
    have hst := run_storeCells_row (xs := lsL xs 256) (S3.bx (List.Mem.head _)) (by rw [lsL_len, hZs])
    have HS4 := Lib.hid (S3.setRow (row (lsL xs 256)))
    obtain ⟨q, hq⟩ : ∃ q, q = u3.heap.size := ⟨_, rfl⟩
    clear hB S3 hZs HS2
    rw [← hq] at HS4
    go_upto_region 4 with fail
    rw [← hq]
    clear hst hz hq
    generalize (u3.alloc (.cells Z 83)).setRow q (row (lsL xs 256)) = u4 at *
    obtain ⟨b0, b1, b2, b3⟩ := HS4.out.b2_4
    go_wp2_with fail
    refine (smax_any A c xs u4 Hp.out (HS4.out.arg HX.out) hl HB.out).mono ?_
    rintro e u5 ⟨rfl, rfl⟩
    rw [← tp_eq Hp.out HB.out]
    have ht := tp_bd Hp.out HB.out
    have hcm := (HS4.out.blk (List.Mem.head _)).cell (i := tp xs) (by rw [lsL_len]; omega)
    rw [lsL_get xs (show tp xs < 256 by omega)] at hcm
    have ht2 : ((tp xs : Nat) : Int) < 256 := by omega
    have HO : Hid (0 ≤ oth xs ∧ oth xs ≤ xs.length) := Lib.hid (oth_bd Hp.out HB.out)
    have HEQ : Hid (∀ x, eqF xs x = if oth xs = 0 then x else 255 * sm (hist xs) x.toNat / oth xs) := Lib.hid (fun x => rfl)
    rw [show sm (hist xs) (tp xs) = oth xs from rfl] at hcm
    have HT : Hid (tp xs ≤ 255) := Lib.hid ht
    clear ht b0 b1 b2 b3
    generalize tp xs = T at *
    have HS5 := Lib.hid (HS4.out.box' 3 #[.int .i64 (oth xs)] u5.heap.size rfl)
    have HSM : Hid (∀ n : Nat, n ≤ 256 → 0 ≤ sm (hist xs) n ∧ sm (hist xs) n ≤ xs.length) := Lib.hid (fun n h => sm_le HB.out h)
    obtain ⟨r5, hr5⟩ : ∃ r5, r5 = u5.heap.size := ⟨_, rfl⟩
    have HE1 : Hid (oth xs = 0 → ∀ j, j < xs.length → eqF xs (xs.getD j 0) = xs.getD j 0) := Lib.hid (fun h j _ => by rw [HEQ.out, if_pos h])
    have HE2 : Hid (¬ oth xs = 0 → ∀ j (n : Nat), xs.getD j 0 = n → eqF xs (xs.getD j 0) = 255 * sm (hist xs) n / oth xs) := Lib.hid (fun h j n hn => by rw [HEQ.out, if_neg h, hn]; rfl)
    have HEL : Hid (xs.map (eqF xs) = eqL xs) := Lib.hid rfl
    generalize oth xs = o at *
    go_upto_region 5 with fail
    rw [← hr5] at HS5
    generalize u5.alloc (.cells #[.int .i64 o] 3) = u6 at *
    rw [← hr5]
    clear hcm hr5 HS4 ht2
    have d0 := HS5.out.b0_1
    obtain ⟨b0, b1, b2, b3⟩ := HS5.out.b3_4
    by_cases ho0 : o = 0
    · have HC : Hid (∀ j w', j < xs.length → Below u6.heap.size u6 w' → Calls Try.prog 58 (#[.int .i64 (xs.getD j 0)] ++ #[]) w' fun e w'' => e = .returned (.int .i64 (eqF xs (xs.getD j 0))) ∧ Below w'.heap.size w' w'') := Lib.hid (fun j w' hj _ => by
        rw [HE1.out ho0 j hj]; exact i_Equ1 _ w')
      have eg : Hid (∀ args w, (callFunc 58 args).run Try.prog w = .ok (.enter 58 args) w) := Lib.hid (enters_of Try.func58 (by kernel_rfl) rfl)
      clear HE1 HE2 HEQ
      go_wp2_with fail
      refine (change_any W H P A c xs (eqF xs) 58 #[] u6 (HS5.out.arg HX.out) hl eg.out HC.out).mono ?_
      rintro e u7 ⟨v, rfl, hO, hB⟩
      obtain ⟨A7, c7, rfl, _⟩ := hO.slice
      rw [List.length_map] at hO ⊢
      rw [HEL.out] at hO
      have S2 := HS5.out.add hO hB
      obtain ⟨r0, r1, r2, r3⟩ := S2.b2_4
      have f0 := S2.f2 0
      have f1 := S2.f2 1
      have f2 := S2.f2 2
      have f3 := S2.f2 3
      have HE := Lib.hid (S2.e2_4 (.int .i64 W) (.int .i64 H) (.int .i64 P) (.slice A7 xs.length c7))
      clear S2 HS5 hO hB b0 b1 b2 b3 d0 HC
      go_wp2
      exact bodyPost_ret (v := .agg #[.int .i64 W, .int .i64 H, .int .i64 P, .slice A7 xs.length c7]) (by simp [results, Try.results19, go_sem, r0, r1, r2, r3]) rfl (MadeIf.yes Hv.out ⟨_, rfl, HE.out.2 _ (List.Mem.head _), HE.out.1⟩)
    · have HC : Hid (∀ j w', j < xs.length → Below u6.heap.size u6 w' → Calls Try.prog 59 (#[.int .i64 (xs.getD j 0)] ++ #[.pointer (some ⟨q, 0, none⟩), .pointer (some ⟨r5, 0, none⟩)]) w' fun e w'' => e = .returned (.int .i64 (eqF xs (xs.getD j 0))) ∧ Below w'.heap.size w' w'') := Lib.hid (fun j w' hj hbel => by
        have hbj := HB.out j hj
        obtain ⟨n, hn⟩ : ∃ n : Nat, xs.getD j 0 = n := ⟨(xs.getD j 0).toNat, by omega⟩
        rw [HE2.out ho0 j n hn, hn]
        exact i_Equ2 n xs (by omega) hl (HSM.out n (by omega)) o (by have := HO.out; omega) HO.out.2 q r5 w' ((HS5.out.call hbel).blk (List.mem_cons_of_mem _ (List.Mem.head _))) (HS5.out.call hbel).b0_1)
      have eg : Hid (∀ args w, (callFunc 59 args).run Try.prog w = .ok (.enter 59 args) w) := Lib.hid (enters_of Try.func59 (by kernel_rfl) rfl)
      clear HE1 HE2 HEQ
      go_wp2_with fail
      refine (change_any W H P A c xs (eqF xs) 59 #[.pointer (some ⟨q, 0, none⟩), .pointer (some ⟨r5, 0, none⟩)] u6 (HS5.out.arg HX.out) hl eg.out HC.out).mono ?_
      rintro e u7 ⟨v, rfl, hO, hB⟩
      obtain ⟨A7, c7, rfl, _⟩ := hO.slice
      rw [List.length_map] at hO ⊢
      rw [HEL.out] at hO
      have S2 := HS5.out.add hO hB
      obtain ⟨r0, r1, r2, r3⟩ := S2.b2_4
      have f0 := S2.f2 0
      have f1 := S2.f2 1
      have f2 := S2.f2 2
      have f3 := S2.f2 3
      have HE := Lib.hid (S2.e2_4 (.int .i64 W) (.int .i64 H) (.int .i64 P) (.slice A7 xs.length c7))
      clear S2 HS5 hO hB b0 b1 b2 b3 d0 HC
      go_wp2
      exact bodyPost_ret (v := .agg #[.int .i64 W, .int .i64 H, .int .i64 P, .slice A7 xs.length c7]) (by simp [results, Try.results19, go_sem, r0, r1, r2, r3]) rfl (MadeIf.yes Hv.out ⟨_, rfl, HE.out.2 _ (List.Mem.head _), HE.out.1⟩)
end Go.Proofs.Ytjcohmljpokgcaa
