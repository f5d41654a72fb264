/- Contract of EqualizeImage in the model. -/
import Derived.Test.YtjcohmljpokgcaaEquM
import Derived.Test.YtjcohmljpokgcaaHisS
import Derived.Test.YtjcohmljpokgcaaMapS
import Derived.Deep.QuietTactic
import Derived.BigQuiet
namespace Go.Proofs.Ytjcohmljpokgcaa
open Go.RowKit Go.Shelf
set_option linter.unusedSimpArgs false
set_option linter.unusedVariables false
set_option maxRecDepth 20000

theorem eqL_id {xs : List Int} (h : oth xs = 0) : eqL xs = xs := by
  unfold eqL
  rw [List.map_congr_left (g := id) (fun x _ => by unfold eqF; rw [if_pos h]; rfl)]
  simp
theorem lastOf_yes {xs : List Int} {k : Nat} (h : 0 < (hist xs).getD k 0) : lastOf xs (k + 1) = k := if_pos h
theorem lastOf_no {xs : List Int} {k : Nat} (h : ¬ 0 < (hist xs).getD k 0) : lastOf xs (k + 1) = lastOf xs k := if_neg h
set_option maxHeartbeats 8000000 in
theorem s_EqualizeImage (W H P : Int) (A : Option Addr) (c : Nat) (xs : List Int) (w : World) (hx : Rds .i64 w w.heap.size A xs) (hl : xs.length ≤ 2000000) :
    Calls Try.prog 20 #[.agg #[.int .i64 W, .int .i64 H, .int .i64 P, .slice A xs.length c]] w (MadeIf (vpl W H P xs) W H P (eqL xs) w) := by
  have HX := Lib.hid hx
  have HV : Hid (vpl W H P xs = (vim W H P xs && decide (P = 1))) := Lib.hid rfl
  clear hx
  have S0 := ((GS.start w).box' 25 #[.int .i64 W, .int .i64 H, .int .i64 P, .slice A xs.length c] w.heap.size (by simp)).box' 25 #[.int .i64 0, .int .i64 0, .int .i64 0, .slice none 0 0] (w.heap.size + 1) (by simp)
  go_enter Try.func20, Try.ntmps20
  go_wp2_with fail
  generalize (w.alloc (.cells #[.int .i64 W, .int .i64 H, .int .i64 P, .slice A xs.length c] 25)).alloc (.cells #[.int .i64 0, .int .i64 0, .int .i64 0, .slice none 0 0] 25) = u0 at *
  refine (sVimg_any W H P A c xs u0 (S0.arg HX.out) hl).mono ?_
  rintro e u1 ⟨rfl, hB⟩
  have HS := Lib.hid (S0.call hB)
  clear hB S0
  cases hv : vim W H P xs
  · have HF : Hid (vpl W H P xs = false) := Lib.hid (by rw [HV.out, hv]; rfl)
    obtain ⟨r0, r1, r2, r3⟩ := HS.out.b0_4
    have f0 := HS.out.f0 0
    have f1 := HS.out.f0 1
    have f2 := HS.out.f0 2
    have f3 := HS.out.f0 3
    have HE := Lib.hid (HS.out.e0_4 (.int .i64 0) (.int .i64 0) (.int .i64 0) (.slice none 0 0)).1
    clear HV hv HS
    go_wp2
    exact bodyPost_ret (v := .agg #[.int .i64 0, .int .i64 0, .int .i64 0, .slice none 0 0]) (by simp [results, Try.results20, go_sem, r0, r1, r2, r3]) rfl (MadeIf.no HF.out ⟨_, rfl, World.ownsRow_nil _ _ _ _, HE.out⟩)
  · have HB := Lib.hid (bytes_of hv)
    have Hp := Lib.hid (vim_pos hv)
    obtain ⟨b0, b1, b2, b3⟩ := HS.out.b1_4
    by_cases h1 : P = 1
    · have HF : Hid (vpl W H P xs = true) := Lib.hid (by rw [HV.out, hv, decide_eq_true h1]; rfl)
      clear HV hv
      go_wp2_with fail
      refine (histogram_any A c xs u1 (HS.out.arg HX.out) hl HB.out).mono ?_
      rintro e u2 ⟨v, rfl, hO, hB⟩
      obtain ⟨gh, ch, rfl, hgh1, hgh2⟩ := hO.form (by rw [hist_len]; omega)
      have HS2 := Lib.hid (HS.out.add hO hB)
      have HC : Hid (∀ i, i < 256 → u2.cell? ⟨gh, i, none⟩ = some (.int .i64 ((hist xs).getD i 0))) := Lib.hid (fun i hi => hO.cell rfl (j := i) (by rw [hist_len]; exact hi))
      rw [hist_len]
      have HBD : Hid (∀ i : Nat, 0 ≤ (hist xs).getD i 0 ∧ (hist xs).getD i 0 ≤ xs.length) := Lib.hid (hist_bd xs)
      have HLY : Hid (∀ k, 0 < (hist xs).getD k 0 → lastOf xs (k + 1) = k) := Lib.hid (fun k h => lastOf_yes h)
      have HLN : Hid (∀ k, ¬ 0 < (hist xs).getD k 0 → lastOf xs (k + 1) = lastOf xs k) := Lib.hid (fun k h => lastOf_no h)
      have HLA : Hid (lastOf xs 256 = tp xs) := Lib.hid (lastOf_all Hp.out HB.out 256 (by have := tp_bd Hp.out HB.out; omega) (Nat.le_refl _))
      have HL0 : Hid (lastOf xs 0 = 0) := Lib.hid rfl
      have HTP : Hid (tp xs ≤ 255) := Lib.hid (tp_bd Hp.out HB.out)
      have HOE : Hid (oth xs = xs.length - (hist xs).getD (tp xs) 0) := Lib.hid (oth_eq Hp.out HB.out)
      have HOB : Hid (0 ≤ oth xs ∧ oth xs ≤ xs.length) := Lib.hid (oth_bd Hp.out HB.out)
      have Hgh : Hid (u1.heap.size ≤ gh ∧ gh < u2.heap.size) := Lib.hid ⟨hgh1, hgh2⟩
      have H1 := Lib.hid h1
      clear hB hO HS b0 b1 b2 b3 hgh1 hgh2 h1
      go_wp2
      go_loopw [4, 5] (fun m i wr => ∃ k : Nat, k ≤ 256 ∧ i = .int .i64 k ∧ m = .int .i64 (lastOf xs k : Nat) ∧ wr = u2) (fun _ i _ => 256 - (intOf i).toNat)
      case atStart => exact ⟨0, Nat.zero_le _, rfl, rfl, rfl⟩
      case round =>
        obtain ⟨k, hk, rfl, rfl, rfl⟩ := hrel
        by_cases hlt : k < 256
        · have hck := HC.out k hlt
          have hY := Lib.hid (HLY.out k)
          have hN := Lib.hid (HLN.out k)
          have hbk := HBD.out k
          have hki : (k : Int) < 256 := by omega
          generalize (hist xs).getD k 0 = y at *
          generalize lastOf xs k = l at *
          by_cases hy : 0 < y
          · have e := Lib.hid (hY.out hy)
            go_wp2
            go_roundw
            case rel => exact ⟨k + 1, by omega, by go_num, by rw [e.out], by trivial⟩
            case measure => simp [intOf]; omega
          · have e := Lib.hid (hN.out (by omega))
            go_wp2
            go_roundw
            case rel => exact ⟨k + 1, by omega, by go_num, by rw [e.out], by trivial⟩
            case measure => simp [intOf]; omega
        · have hk' : k = 256 := by omega
          rw [hk', HLA.out]
          clear hk' hlt hk HLY HLN
          have hck := HC.out (tp xs) (by have := HTP.out; omega)
          have hbk := HBD.out (tp xs)
          have hoe := Lib.hid HOE.out
          have htp := HTP.out
          have htp2 : ((tp xs : Nat) : Int) < 256 := by omega
          obtain ⟨b0, b1, b2, b3⟩ := HS2.out.b1_4
          have hl0 := HS2.out.l1
          obtain ⟨o, ho⟩ : ∃ o, o = oth xs := ⟨_, rfl⟩
          have HO := Lib.hid ho
          rw [← ho] at hoe
          generalize hT : (hist xs).getD (tp xs) 0 = y at *
          have hw0 : IntKind.i64.wrap ((xs.length : Int) - y) = o := by rw [hoe.out]; exact IntWalk.i64_in _ (by omega)
          clear hT ho
          go_wp2
          go_quiet (fail)
          have HSd : Hid (∀ n, GS w (wr.drewN n) _ _) := Lib.hid (fun n => HS2.out.drewN n)
          by_cases ho0 : o = 0
          · have HEQ0 : Hid (eqL xs = xs) := Lib.hid (eqL_id (by rw [← HO.out]; exact ho0))
            go_wp2_with fail
            refine (sCopyImage_any W H P A c xs _ ((HSd.out _).arg HX.out) hl).mono ?_
            rintro e u3 ⟨v3, rfl, hO3, hB3⟩
            obtain ⟨A3, c3, rfl, _⟩ := hO3.slice
            have S3 := (HSd.out _).add hO3 hB3
            obtain ⟨r0, r1, r2, r3⟩ := S3.b0_4
            have f0 := S3.f0 0
            have f1 := S3.f0 1
            have f2 := S3.f0 2
            have f3 := S3.f0 3
            have HE := Lib.hid (S3.e0_4 (.int .i64 W) (.int .i64 H) (.int .i64 P) (.slice A3 xs.length c3))
            clear S3 hO3 hB3 b0 b1 b2 b3 hck
            go_wp2
            exact bodyPost_ret (v := .agg #[.int .i64 W, .int .i64 H, .int .i64 P, .slice A3 xs.length c3]) (by simp [results, Try.results20, go_sem, r0, r1, r2, r3]) rfl (MadeIf.yes HF.out ⟨_, rfl, by rw [HEQ0.out]; exact HE.out.2 _ (List.Mem.head _), HE.out.1⟩)
          · have HO0 := Lib.hid (show 0 < o by have := HOB.out; rw [← HO.out] at this; omega)
            have HO2 := Lib.hid (show o ≤ xs.length by have := HOB.out; rw [← HO.out] at this; omega)
            have HTB : Hid (∀ n, tbF xs n = min 255 (255 * sm (hist xs) n / o)) := Lib.hid (fun n => by rw [HO.out]; rfl)
            have HTE : Hid (∀ j, j < xs.length → tbF xs (xs.getD j 0).toNat = eqF xs (xs.getD j 0)) := Lib.hid (fun j hj => tb_eq Hp.out HB.out (by simp [hj]) (by rw [← HO.out]; omega))
            have HSM : Hid (∀ n : Nat, n ≤ 256 → 0 ≤ sm (hist xs) n ∧ sm (hist xs) n ≤ xs.length) := Lib.hid (fun n h => sm_le HB.out h)
            have HSN : Hid (∀ n : Nat, sm (hist xs) (n + 1) = sm (hist xs) n + (hist xs).getD n 0) := Lib.hid (fun n => rfl)
            have HS0 : Hid (sm (hist xs) 0 = 0) := Lib.hid rfl
            obtain ⟨Z, hZ⟩ : ∃ Z, Z = row (zeros 256) := ⟨_, rfl⟩
            have hmk : ∀ W, (Instr.makeSlice 23 (.int .i64 256) (.int .i64 256)).run Try.prog W = .ok (.slice (some ⟨W.heap.size, 0, none⟩) 256 256) (W.alloc (.cells Z 3)) := fun W => by rw [hZ]; exact make_ints 256 (by omega) W
            have HZ := Lib.hid hZ
            clear hZ
            go_wp2_with fail
            refine (sCopyImage_any W H P A c xs _ ((HSd.out _).arg HX.out) hl).mono ?_
            rintro e u3 ⟨v3, rfl, hO3, hB3⟩
            obtain ⟨g, c2, rfl, hg1, hg2⟩ := hO3.form Hp.out
            have hsz := hB3.size
            obtain ⟨q, hq⟩ : ∃ q, q = u3.heap.size := ⟨_, rfl⟩
            obtain ⟨tg, htg⟩ : ∃ tg, tg = u3.heap.size + 1 := ⟨_, rfl⟩
            obtain ⟨u2, hu2⟩ : ∃ u2 : World, u2.heap.size = wr.heap.size ∧ True := ⟨wr, rfl, trivial⟩
            have HI : Hid (GS w ((u3.alloc (.cells #[.int .i64 W, .int .i64 H, .int .i64 P, .slice (some ⟨g, 0, none⟩) xs.length c2] 25)).alloc (.cells Z 3)) [ri u2.heap.size u3.heap.size (.slice (some ⟨g, 0, none⟩) xs.length c2) ((eqL xs).take 0 ++ xs.drop 0), ri u1.heap.size u2.heap.size (.slice (some ⟨gh, 0, none⟩) (hist xs).length ch) (hist xs)] [⟨tg, 3, row (tbL xs 0 ++ zeros (256 - 0))⟩, ⟨q, 25, #[.int .i64 W, .int .i64 H, .int .i64 P, .slice (some ⟨g, 0, none⟩) xs.length c2]⟩, ⟨w.heap.size + 1, 25, #[.int .i64 0, .int .i64 0, .int .i64 0, .slice none 0 0]⟩, ⟨w.heap.size, 25, #[.int .i64 W, .int .i64 H, .int .i64 P, .slice A xs.length c]⟩]) := Lib.hid (by
              have h1 := (((HSd.out _).add hO3 hB3).box' 25 #[.int .i64 W, .int .i64 H, .int .i64 P, .slice (some ⟨g, 0, none⟩) xs.length c2] q hq).box' 3 Z tg (by rw [htg]; simp)
              rw [show row (tbL xs 0 ++ zeros (256 - 0)) = Z from by rw [HZ.out]; rfl, show eqL xs = xs.map (eqF xs) from rfl, List.take_zero, List.drop_zero, List.nil_append, hu2.1]
              exact h1)
            have Hg1 := Lib.hid (show w.heap.size + 2 ≤ g by have := HS2.out.l0; have h2 := hg1; simp at h2; omega)
            have Hqg : Hid (g < q ∧ q < tg) := Lib.hid (by omega)
            have Hghg : Hid (gh < g) := Lib.hid (by have := Hgh.out; have h2 := hg1; simp at h2; omega)
            clear hO3 hB3 b0 b1 b2 b3 hck hsz hu2 HSd
            go_wp2
            rw [← htg, ← hq]
            generalize (u3.alloc (.cells #[.int .i64 W, .int .i64 H, .int .i64 P, .slice (some ⟨g, 0, none⟩) xs.length c2] 25)).alloc (.cells Z 3) = u4 at *
            clear hmk htg hq
            go_loopw [8, 10] (fun b i wr => ∃ k : Nat, k ≤ 256 ∧ i = .int .i64 k ∧ b = .int .i64 (sm (hist xs) k) ∧ Hid (GS w wr [ri u2.heap.size u3.heap.size (.slice (some ⟨g, 0, none⟩) xs.length c2) ((eqL xs).take 0 ++ xs.drop 0), ri u1.heap.size u2.heap.size (.slice (some ⟨gh, 0, none⟩) (hist xs).length ch) (hist xs)] [⟨tg, 3, row (tbL xs k ++ zeros (256 - k))⟩, ⟨q, 25, #[.int .i64 W, .int .i64 H, .int .i64 P, .slice (some ⟨g, 0, none⟩) xs.length c2]⟩, ⟨w.heap.size + 1, 25, #[.int .i64 0, .int .i64 0, .int .i64 0, .slice none 0 0]⟩, ⟨w.heap.size, 25, #[.int .i64 W, .int .i64 H, .int .i64 P, .slice A xs.length c]⟩])) (fun _ i _ => 256 - (intOf i).toNat)
            case atStart => exact ⟨0, Nat.zero_le _, rfl, rfl, HI⟩
            case round =>
              clear HI
              obtain ⟨k, hk, rfl, rfl, hI⟩ := hrel
              rename World => wv
              by_cases hlt : k < 256
              · have hck := hI.out.o1.cell rfl (j := k) (by rw [hist_len]; omega)
                have hct := (hI.out.blk (List.Mem.head _)).cell (i := k) (by rw [List.length_append, tbL_len]; simp [zeros]; omega)
                have hft := (hI.out.blk (List.Mem.head _)).frozen k
                have HN := Lib.hid (hI.out.setB k (tbF xs k))
                rw [set_nxt _ _ _ _ (by omega) (tbL_len _ _).symm, ← tbL_next, show 256 - k - 1 = 256 - (k + 1) by omega] at HN
                have hsk := HSM.out k (by omega)
                have hsk2 := HSM.out (k + 1) (by omega)
                have HT := Lib.hid (HTB.out k)
                have hsn := HSN.out k
                have HSn := Lib.hid hsn
                have hki : (k : Int) < 256 := by omega
                have ho1 := HO0.out
                have ho2 := HO2.out
                rw [hsn] at hsk2
                have hne5 : ¬ gh = tg := by have := Hghg.out; have := Hqg.out; omega
                have hne6 : ¬ tg = gh := by omega
                clear hI hsn
                generalize (hist xs).getD k 0 = y1 at *
                generalize sm (hist xs) k = s at *
                generalize List.getD (tbL xs k ++ zeros (256 - k)) k 0 = z at *
                have hd0 : 0 ≤ 255 * s / o := Int.ediv_nonneg (by omega) (by omega)
                have hd1 : 255 * s / o ≤ 255 * s := Int.ediv_le_self _ (by omega)
                have hw1 : IntKind.i64.wrap (255 * s) = 255 * s := IntWalk.i64_in _ (by omega)
                have hw2 : (255 * s).tdiv o = 255 * s / o := Int.tdiv_eq_ediv_of_nonneg (by omega)
                have hw3 : IntKind.i64.wrap (255 * s / o) = 255 * s / o := IntWalk.i64_in _ (by omega)
                have hw4 : IntKind.i64.wrap (s + y1) = s + y1 := IntWalk.i64_in _ (by omega)
                obtain ⟨d, hd⟩ : ∃ d, d = 255 * s / o := ⟨_, rfl⟩
                rw [← hd] at hd0 hd1 hw2 hw3 HT
                clear hd
                by_cases hm : d < 255
                · have hmd : min 255 d = d := by omega
                  rw [hmd] at HT
                  rw [HT.out] at HN
                  have hm2 : ¬ 255 < d := by omega
                  have hm3 : d ≤ 255 := by omega
                  clear hmd
                  go_wp2
                  go_roundw
                  case rel => exact ⟨k + 1, by omega, by go_num, by rw [HSn.out], HN⟩
                  case measure => simp [intOf]; omega
                · have hmd : min 255 d = 255 := by omega
                  rw [hmd] at HT
                  rw [HT.out] at HN
                  have hm2 : 255 ≤ d := by omega
                  clear hmd
                  go_wp2
                  all_goals
                    go_roundw
                    case rel => exact ⟨k + 1, by omega, by go_num, by rw [HSn.out], HN⟩
                    case measure => simp [intOf]; omega
              · have hk' : k = 256 := by omega
                rw [hk', show tbL xs 256 ++ zeros (256 - 256) = tbL xs 256 by rw [Nat.sub_self]; simp [zeros]] at hI
                clear hk' hk
                go_wp2
                go_loopw [11] (fun i wr => ∃ j : Nat, j ≤ xs.length ∧ i = .int .i64 j ∧ Hid (GS w wr [ri u2.heap.size u3.heap.size (.slice (some ⟨g, 0, none⟩) xs.length c2) ((eqL xs).take j ++ xs.drop j), ri u1.heap.size u2.heap.size (.slice (some ⟨gh, 0, none⟩) (hist xs).length ch) (hist xs)] [⟨tg, 3, row (tbL xs 256)⟩, ⟨q, 25, #[.int .i64 W, .int .i64 H, .int .i64 P, .slice (some ⟨g, 0, none⟩) xs.length c2]⟩, ⟨w.heap.size + 1, 25, #[.int .i64 0, .int .i64 0, .int .i64 0, .slice none 0 0]⟩, ⟨w.heap.size, 25, #[.int .i64 W, .int .i64 H, .int .i64 P, .slice A xs.length c]⟩])) (fun i _ => xs.length - (intOf i).toNat)
                case atStart => exact ⟨0, Nat.zero_le _, rfl, hI⟩
                case round =>
                  clear hI
                  obtain ⟨j, hj, rfl, hI⟩ := hrel
                  rename World => wx
                  have hlj : ((eqL xs).take j ++ xs.drop j).length = xs.length := by simp [eqL]; omega
                  obtain ⟨d0, d1, d2, d3⟩ := hI.out.b1_4
                  obtain ⟨b0, b1, b2, b3⟩ := hI.out.b3_4
                  by_cases hlt : j < xs.length
                  · obtain ⟨n, hne⟩ : ∃ n : Nat, xs.getD j 0 = n := ⟨(xs.getD j 0).toNat, by have := HB.out j hlt; omega⟩
                    have hn6 : n < 256 := by have := HB.out j hlt; omega
                    have hyx := HTE.out j hlt
                    rw [hne, Int.toNat_natCast] at hyx
                    obtain ⟨b, off, rfl, hb1, hc⟩ := HX.out.cells_ hlt
                    have hcj := (hI.out.below.cell (p := ⟨b, off + j, none⟩) (by exact hb1)).trans (hc j hlt)
                    have hcn := (hI.out.blk (List.Mem.head _)).cell (i := n) (by rw [tbL_len]; exact hn6)
                    rw [tbL_get xs hn6] at hcn
                    have hcw := hI.out.o0.cell hlj.symm (j := j) (by omega)
                    have hfw := hI.out.o0.frozen hlj.symm j
                    have hput := (show Own wx.drew u2.heap.size (.slice (some ⟨g, 0, none⟩) xs.length c2) ((eqL xs).take j ++ xs.drop j) from hI.out.o0).put hlj.symm j (tbF xs n)
                    have hset : ((eqL xs).take j ++ xs.drop j).set j (tbF xs n) = (eqL xs).take (j + 1) ++ xs.drop (j + 1) := by
                      have := map_put (eqF xs) xs j hlt
                      rw [hyx, ← hne]; exact this
                    rw [hset] at hput
                    have HN' := Lib.hid (hI.out.drew.mark0 hput.1 (by simp [eqL]; omega) hput.2)
                    rw [hne] at hcj
                    have hne1 : ¬ b = g := by have := Hg1.out; omega
                    have hne2 : ¬ tg = g := by have := Hqg.out; omega
                    have hne3 : ¬ q = g := by have := Hqg.out; omega
                    have hne4 : ¬ w.heap.size = g := by have := Hg1.out; omega
                    have hn7 : (n : Int) < 256 := by omega
                    clear hc hput hlj hI hset hne hyx
                    generalize tbF xs n = y at *
                    generalize (List.getD ((eqL xs).take j ++ xs.drop j) j 0) = z at *
                    go_wp2
                    go_region
                    all_goals
                      (try go_wp2)
                      go_roundw
                      case rel => exact ⟨j + 1, by omega, by go_num, HN'⟩
                      case measure => simp [intOf]; omega
                  · have hj' : j = xs.length := by omega
                    have e : (eqL xs).take j ++ xs.drop j = eqL xs := by subst hj'; rw [List.drop_length, List.append_nil, List.take_of_length_le (by simp [eqL])]
                    obtain ⟨r0, r1, r2, r3⟩ := hI.out.b2_4
                    have f0 := hI.out.f2 0
                    have f1 := hI.out.f2 1
                    have f2 := hI.out.f2 2
                    have f3 := hI.out.f2 3
                    have HE := Lib.hid (hI.out.e2_4 (.int .i64 W) (.int .i64 H) (.int .i64 P) (.slice (some ⟨g, 0, none⟩) xs.length c2))
                    rw [e] at HE
                    clear hI hlj e hj'
                    go_wp2
                    exact bodyPost_ret (v := .agg #[.int .i64 W, .int .i64 H, .int .i64 P, .slice (some ⟨g, 0, none⟩) xs.length c2]) (by simp [results, Try.results20, go_sem, r0, r1, r2, r3]) rfl (MadeIf.yes HF.out ⟨_, rfl, HE.out.2 _ (List.Mem.head _), HE.out.1⟩)
    · have HF : Hid (vpl W H P xs = false) := Lib.hid (by rw [HV.out, hv, decide_eq_false h1]; rfl)
      obtain ⟨r0, r1, r2, r3⟩ := HS.out.b0_4
      have f0 := HS.out.f0 0
      have f1 := HS.out.f0 1
      have f2 := HS.out.f0 2
      have f3 := HS.out.f0 3
      have HE := Lib.hid (HS.out.e0_4 (.int .i64 0) (.int .i64 0) (.int .i64 0) (.slice none 0 0)).1
      clear HV hv HS
      go_wp2
      exact bodyPost_ret (v := .agg #[.int .i64 0, .int .i64 0, .int .i64 0, .slice none 0 0]) (by simp [results, Try.results20, go_sem, r0, r1, r2, r3]) rfl (MadeIf.no HF.out ⟨_, rfl, World.ownsRow_nil _ _ _ _, HE.out⟩)
end Go.Proofs.Ytjcohmljpokgcaa
