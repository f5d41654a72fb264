/- Contract of MapImage in the model. -/
import Derived.Test.YtebfaomlljekiaaMapI
import Derived.Test.YtebfaomlljekiaaImgB
namespace Go.Proofs.Ytebfaomlljekiaa
open Go.RowKit Go.Shelf
set_option linter.unusedSimpArgs false
set_option linter.unusedVariables false
set_option maxRecDepth 20000

theorem map_put (f : Int → Int) (xs : List Int) (j : Nat) (hj : j < xs.length) : ((xs.map f).take j ++ xs.drop j).set j (f (xs.getD j 0)) = (xs.map f).take (j + 1) ++ xs.drop (j + 1) := by
  have hlj : ((xs.map f).take j).length = j := by simp; omega
  have hd : xs.drop j = xs[j] :: xs.drop (j + 1) := List.drop_eq_getElem_cons hj
  rw [map_step f xs j hj, List.set_append_right _ _ (by omega), hlj, Nat.sub_self, hd, List.set_cons_zero, List.append_assoc]
  rfl
theorem vim_pos {W H P : Int} {xs : List Int} (hv : vim W H P xs = true) : 0 < xs.length := by
  have hv' : vim W H P xs = (vsh W H P && (decide ((xs.length : Int) = W * H * P) && allB 0 255 xs)) := rfl
  rw [hv] at hv'
  have hs : vsh W H P = true := by
    cases h : vsh W H P
    · rw [h] at hv'; simp at hv'
    · rfl
  have hd : (xs.length : Int) = W * H * P := by
    by_cases h : (xs.length : Int) = W * H * P
    · exact h
    · rw [decide_eq_false h] at hv'; simp at hv'
  have := vsh_bd hs
  omega
set_option maxHeartbeats 8000000 in
theorem s_MapImage (W H P : Int) (A A' : Option Addr) (c c' : Nat) (xs ls : List Int) (w : World) (hx : Rds .i64 w w.heap.size A xs) (hl : xs.length ≤ 2000000) (hx' : Rds .i64 w w.heap.size A' ls) (hl' : ls.length ≤ 2000000) :
    Calls Try.prog 17 #[.agg #[.int .i64 W, .int .i64 H, .int .i64 P, .slice A xs.length c], .slice A' ls.length c'] w (MadeIb (mpOk W H P xs ls) W H P (mpL ls xs) w) := by
  have HX := Lib.hid hx
  have HX' := Lib.hid hx'
  have HV : Hid (mpOk W H P xs ls = (vim W H P xs && (decide (ls.length = 256) && allB 0 255 ls))) := Lib.hid rfl
  clear hx hx'
  have S0 := ((GS.start w).box' 25 #[.int .i64 W, .int .i64 H, .int .i64 P, .slice A xs.length c] w.heap.size (by simp)).box' 25 #[.int .i64 0, .int .i64 0, .int .i64 0, .slice none 0 0] (w.heap.size + 1) (by simp)
  go_enter Try.func17, Try.ntmps17
  go_wp2_with fail
  generalize (w.alloc (.cells #[.int .i64 W, .int .i64 H, .int .i64 P, .slice A xs.length c] 25)).alloc (.cells #[.int .i64 0, .int .i64 0, .int .i64 0, .slice none 0 0] 25) = u0 at *
  refine (sVimg_any W H P A c xs u0 (S0.arg HX.out) hl).mono ?_
  rintro e u1 ⟨rfl, hB⟩
  have HS := Lib.hid (S0.call hB)
  clear hB S0
  cases hv : vim W H P xs
  · have HF : Hid (mpOk W H P xs ls = false) := Lib.hid (by rw [HV.out, hv]; rfl)
    obtain ⟨r0, r1, r2, r3⟩ := HS.out.b0_4
    have f0 := HS.out.f0 0
    have f1 := HS.out.f0 1
    have f2 := HS.out.f0 2
    have f3 := HS.out.f0 3
    have HE := Lib.hid (HS.out.e0_4 (.int .i64 0) (.int .i64 0) (.int .i64 0) (.slice none 0 0)).1
    clear HV hv HS
    go_wp2
    exact bodyPost_ret (v := .tuple #[.agg #[.int .i64 0, .int .i64 0, .int .i64 0, .slice none 0 0], .bool false]) (by simp [results, Try.results17, go_sem, r0, r1, r2, r3]) rfl ⟨_, by rw [HF.out]; rfl, by rw [HF.out]; exact World.ownsRow_nil _ _ _ _, HE.out⟩
  · have Hv := Lib.hid hv
    by_cases hn : ls.length = 256
    · have HN := Lib.hid hn
      have hn1 : ((ls.length : Int) = 256) := by omega
      clear hn
      go_wp2_with fail
      refine (sAllIn_any A' c' _ ls 0 255 u1 (HS.out.arg HX'.out) (by omega)).mono ?_
      rintro e u2 ⟨rfl, rfl⟩
      cases hb : allB 0 255 ls
      · have HF : Hid (mpOk W H P xs ls = false) := Lib.hid (by rw [HV.out, hv, hb]; simp)
        obtain ⟨r0, r1, r2, r3⟩ := HS.out.b0_4
        have f0 := HS.out.f0 0
        have f1 := HS.out.f0 1
        have f2 := HS.out.f0 2
        have f3 := HS.out.f0 3
        have HE := Lib.hid (HS.out.e0_4 (.int .i64 0) (.int .i64 0) (.int .i64 0) (.slice none 0 0)).1
        clear HV hv HS hb
        go_wp2
        exact bodyPost_ret (v := .tuple #[.agg #[.int .i64 0, .int .i64 0, .int .i64 0, .slice none 0 0], .bool false]) (by simp [results, Try.results17, go_sem, r0, r1, r2, r3]) rfl ⟨_, by rw [HF.out]; rfl, by rw [HF.out]; exact World.ownsRow_nil _ _ _ _, HE.out⟩
      · have HF : Hid (mpOk W H P xs ls = true) := Lib.hid (by rw [HV.out, hv, hb, HN.out]; rfl)
        have HB := Lib.hid (bytes_of hv)
        have Hp := Lib.hid (vim_pos hv)
        obtain ⟨b0, b1, b2, b3⟩ := HS.out.b1_4
        clear HV hv hb
        go_wp2_with fail
        refine (sCopyImage_any W H P A c xs u1 (HS.out.arg HX.out) hl).mono ?_
        rintro e u2 ⟨v, rfl, hO, hB⟩
        obtain ⟨g, c2, rfl, hg1, hg2⟩ := hO.form Hp.out
        have hsz := hB.size
        obtain ⟨q, hq⟩ : ∃ q, q = u2.heap.size := ⟨_, rfl⟩
        have HI : Hid (GS w (u2.alloc (.cells #[.int .i64 W, .int .i64 H, .int .i64 P, .slice (some ⟨g, 0, none⟩) xs.length c2] 25)) [ri u1.heap.size u2.heap.size (.slice (some ⟨g, 0, none⟩) xs.length c2) ((mpL ls xs).take 0 ++ xs.drop 0)] [⟨q, 25, #[.int .i64 W, .int .i64 H, .int .i64 P, .slice (some ⟨g, 0, none⟩) xs.length c2]⟩, ⟨w.heap.size + 1, 25, #[.int .i64 0, .int .i64 0, .int .i64 0, .slice none 0 0]⟩, ⟨w.heap.size, 25, #[.int .i64 W, .int .i64 H, .int .i64 P, .slice A xs.length c]⟩]) :=
          Lib.hid ((HS.out.add hO hB).box' _ _ q hq)
        have Hg1 := Lib.hid (show w.heap.size + 2 ≤ g by have := HS.out.l0; omega)
        have Hqg : Hid (g < q) := Lib.hid (by omega)
        clear hO hB b0 b1 b2 b3 HS hsz
        go_wp2
        rw [← hq]
        clear hq hn1
        go_loopw [7] (fun i wr => ∃ j : Nat, j ≤ xs.length ∧ i = .int .i64 j ∧ Hid (GS w wr [ri u1.heap.size u2.heap.size (.slice (some ⟨g, 0, none⟩) xs.length c2) ((mpL ls xs).take j ++ xs.drop j)] [⟨q, 25, #[.int .i64 W, .int .i64 H, .int .i64 P, .slice (some ⟨g, 0, none⟩) xs.length c2]⟩, ⟨w.heap.size + 1, 25, #[.int .i64 0, .int .i64 0, .int .i64 0, .slice none 0 0]⟩, ⟨w.heap.size, 25, #[.int .i64 W, .int .i64 H, .int .i64 P, .slice A xs.length c]⟩])) (fun i _ => xs.length - (intOf i).toNat)
        case atStart => exact ⟨0, Nat.zero_le _, rfl, HI⟩
        case round =>
          clear HI
          obtain ⟨j, hj, rfl, hI⟩ := hrel
          have hlj : ((mpL ls xs).take j ++ xs.drop j).length = xs.length := by simp [mpL]; omega
          obtain ⟨d0, d1, d2, d3⟩ := hI.out.b0_4
          obtain ⟨b0, b1, b2, b3⟩ := hI.out.b2_4
          by_cases hlt : j < xs.length
          · obtain ⟨n, hne⟩ : ∃ n : Nat, xs.getD j 0 = n := ⟨(xs.getD j 0).toNat, by have := HB.out j hlt; omega⟩
            have hn6 : n < ls.length := by have := HB.out j hlt; have := HN.out; omega
            have hyx : mpF ls (xs.getD j 0) = ls.getD n 0 := by rw [hne]; rfl
            obtain ⟨b, off, rfl, hb1, hc⟩ := HX.out.cells_ hlt
            have hcj := (hI.out.below.cell (p := ⟨b, off + j, none⟩) (by exact hb1)).trans (hc j hlt)
            obtain ⟨b', off', rfl, hb1', hc'⟩ := HX'.out.cells_ hn6
            have hcn := (hI.out.below.cell (p := ⟨b', off' + n, none⟩) (by exact hb1')).trans (hc' n hn6)
            have hcw := hI.out.o0.cell hlj.symm (j := j) (by omega)
            have hfw := hI.out.o0.frozen hlj.symm j
            have hput := (show Own wr.drew u1.heap.size (.slice (some ⟨g, 0, none⟩) xs.length c2) ((mpL ls xs).take j ++ xs.drop j) from hI.out.o0).put hlj.symm j (ls.getD n 0)
            have hset : ((mpL ls xs).take j ++ xs.drop j).set j (ls.getD n 0) = (mpL ls xs).take (j + 1) ++ xs.drop (j + 1) := by rw [← hyx]; exact map_put (mpF ls) xs j hlt
            rw [hset] at hput
            have HN' := Lib.hid (hI.out.drew.mark0 hput.1 (by simp [mpL]; omega) hput.2)
            rw [hne] at hcj
            have hne1 : ¬ b = g := by have := Hg1.out; omega
            have hne2 : ¬ b' = g := by have := Hg1.out; omega
            have hne3 : ¬ q = g := by have := Hqg.out; omega
            have hne4 : ¬ w.heap.size = g := by have := Hg1.out; omega
            have hn7 : (n : Int) < (ls.length : Int) := by omega
            clear hc hc' hput hlj hI hset hne hyx
            generalize ls.getD n 0 = y at *
            generalize (List.getD ((mpL ls xs).take j ++ xs.drop j) j 0) = z at *
            go_wp2
            go_region
            all_goals
              (try go_wp2)
              go_roundw
              case rel => exact ⟨j + 1, by omega, by go_num, HN'⟩
              case measure => simp [intOf]; omega
          · have hj' : j = xs.length := by omega
            have e : (mpL ls xs).take j ++ xs.drop j = mpL ls xs := by subst hj'; rw [List.drop_length, List.append_nil, List.take_of_length_le (by simp [mpL])]
            obtain ⟨r0, r1, r2, r3⟩ := hI.out.b1_4
            have f0 := hI.out.f1 0
            have f1 := hI.out.f1 1
            have f2 := hI.out.f1 2
            have f3 := hI.out.f1 3
            have HE := Lib.hid (hI.out.e1_4 (.int .i64 W) (.int .i64 H) (.int .i64 P) (.slice (some ⟨g, 0, none⟩) xs.length c2))
            rw [e] at HE
            clear hI hlj e hj'
            go_wp2
            exact bodyPost_ret (v := .tuple #[.agg #[.int .i64 W, .int .i64 H, .int .i64 P, .slice (some ⟨g, 0, none⟩) xs.length c2], .bool true]) (by simp [results, Try.results17, go_sem, r0, r1, r2, r3]) rfl ⟨_, by rw [HF.out]; rfl, by rw [HF.out]; exact HE.out.2 _ (List.Mem.head _), HE.out.1⟩
    · have HF : Hid (mpOk W H P xs ls = false) := Lib.hid (by rw [HV.out, hv, decide_eq_false hn]; rfl)
      have hn1 : ¬ ((ls.length : Int) = 256) := by omega
      obtain ⟨r0, r1, r2, r3⟩ := HS.out.b0_4
      have f0 := HS.out.f0 0
      have f1 := HS.out.f0 1
      have f2 := HS.out.f0 2
      have f3 := HS.out.f0 3
      have HE := Lib.hid (HS.out.e0_4 (.int .i64 0) (.int .i64 0) (.int .i64 0) (.slice none 0 0)).1
      clear HV hv HS hn
      go_wp2
      exact bodyPost_ret (v := .tuple #[.agg #[.int .i64 0, .int .i64 0, .int .i64 0, .slice none 0 0], .bool false]) (by simp [results, Try.results17, go_sem, r0, r1, r2, r3]) rfl ⟨_, by rw [HF.out]; rfl, by rw [HF.out]; exact World.ownsRow_nil _ _ _ _, HE.out⟩
end Go.Proofs.Ytebfaomlljekiaa
