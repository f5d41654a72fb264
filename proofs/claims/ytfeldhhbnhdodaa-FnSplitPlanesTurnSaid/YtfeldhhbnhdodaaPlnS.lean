/- Contract of SplitPlanes in the model. -/
import Derived.Test.YtfeldhhbnhdodaaPlnM
import Derived.Test.YtfeldhhbnhdodaaIma
import Derived.Test.YtfeldhhbnhdodaaImgA
import Derived.Test.YtfeldhhbnhdodaaSpecM
import Derived.Test.YtfeldhhbnhdodaaInvI
import Derived.RegionTactic
import Derived.BigRegion
namespace Go.Proofs.Ytfeldhhbnhdodaa
open Go.RowKit Go.Shelf
set_option linter.unusedSimpArgs false
set_option linter.unusedVariables false
set_option maxRecDepth 20000

/-- The call of the model made a slice of the images ms. -/
def MadeIV (ms : List Imv) (w : World) (e : Ending) (w' : World) : Prop := ∃ v, e = .returned v ∧ ImS w w' v ms [] []
set_option maxHeartbeats 16000000 in
theorem s_SplitPlanes (W H P : Int) (A : Option Addr) (c : Nat) (xs : List Int) (w : World) (hx : Rds .i64 w w.heap.size A xs) (hl : xs.length ≤ 2000000) (hlc : xs.length ≤ c) :
    Calls Try.prog 11 #[.agg #[.int .i64 W, .int .i64 H, .int .i64 P, .slice A xs.length c]] w (MadeIV (spL W H P xs) w) := by
  have HX := Lib.hid hx
  clear hx
  have S0 : GS w (w.alloc (.cells #[.int .i64 W, .int .i64 H, .int .i64 P, .slice A xs.length c] 25)) [] [⟨w.heap.size, 25, #[.int .i64 W, .int .i64 H, .int .i64 P, .slice A xs.length c]⟩] := GS.box' (GS.start w) _ _ w.heap.size (by simp)
  have HV0 := Lib.hid (ImS.made S0)
  have HX0 := Lib.hid (S0.arg HX.out)
  go_enter Try.func11, Try.ntmps11
  go_wp2_with fail
  generalize hu0 : (w.alloc (.cells #[.int .i64 W, .int .i64 H, .int .i64 P, .slice A xs.length c] 25)).alloc (.cells #[] 25) = u0 at *
  have HV1 : Hid (ImS w u0 (.slice (some ⟨w.heap.size + 1, 0, none⟩) 0 0) [] [] [⟨w.heap.size, 25, #[.int .i64 W, .int .i64 H, .int .i64 P, .slice A xs.length c]⟩]) := Lib.hid (by simpa using HV0.out)
  clear hu0 HV0 S0 HX0
  refine (sVimg_any W H P A c xs u0 (HV1.out.gs.arg HX.out) hl).mono ?_
  rintro e u1 ⟨rfl, hB⟩
  have HV2 := Lib.hid (HV1.out.call hB)
  clear hB HV1
  cases hv : vim W H P xs
  · have HN : Hid (ImS w u1 (.slice none 0 0) (spL W H P xs) [] []) := Lib.hid (by rw [spL_no hv]; exact ImS.nil (HV2.out.gs.sub (List.Sublist.refl _) (List.nil_sublist _)))
    clear hv HV2
    go_wp2
    go_ret
    exact ⟨_, rfl, HN.out⟩
  · obtain ⟨W, H, P, rfl, rfl, rfl, hW1, hW, hH1, hH, hP1, hP, hln, hby⟩ := vim_nat hv
    have HE := Lib.hid (spL_yes hv)
    have HLn := Lib.hid hln
    have hWH : W * H ≤ 256 := by have := Nat.mul_le_mul hW hH; omega
    have Hg0 : Hid (0 < W * H * 1) := Lib.hid (Nat.mul_pos (Nat.mul_pos hW1 hH1) (by omega))
    clear hv hln hby
    go_wp2
    go_loopw [3, 4] (fun v i wr => ∃ k : Nat, k ≤ P ∧ i = .int .i64 k ∧ Hid (ImS w wr v ((spN W H P xs).take k) [] [⟨w.heap.size, 25, #[.int .i64 (W : Int), .int .i64 (H : Int), .int .i64 (P : Int), .slice A xs.length c]⟩])) (fun _ i _ => P - (intOf i).toNat)
    case atStart => exact ⟨0, Nat.zero_le _, rfl, HV2⟩
    case round =>
      clear HV2
      obtain ⟨k, hk, rfl, hI⟩ := hrel
      obtain ⟨m0, m1, m2, m3⟩ := hI.out.gs.b0_4
      by_cases hlt : k < P
      · go_wp2_with fail
        rw [show (1 : Int) = ((1 : Nat) : Int) from rfl]
        refine (newImage_any W H 1 hW hH (by omega) wr).mono ?_
        rintro e u3x ⟨v3, rfl, hO3, hB3⟩
        obtain ⟨n, hn⟩ : ∃ n, n = W * H := ⟨_, rfl⟩
        have hzl : (zeros (W * H * 1)).length = n := by simp [zeros, hn]
        obtain ⟨g, c2, rfl, hg1, hg2⟩ := hO3.form (by rw [hzl, hn, ← Nat.mul_one (W * H)]; exact Hg0.out)
        have S3 := hI.out.add hO3 hB3
        rw [hzl] at S3 ⊢
        obtain ⟨lo3, hlo3⟩ : ∃ lo3, lo3 = wr.heap.size := ⟨_, rfl⟩
        obtain ⟨hi3, hhi3⟩ : ∃ hi3, hi3 = u3x.heap.size := ⟨_, rfl⟩
        obtain ⟨b3, hb3⟩ : ∃ b3, b3 = u3x.heap.size := ⟨_, rfl⟩
        rw [← hlo3, ← hhi3, Nat.mul_one, ← hn] at S3
        rw [show (((1 : Nat) : Int)) = 1 from rfl]
        have HI0 : Hid (ImS w (u3x.alloc (.cells #[.int .i64 (W : Int), .int .i64 (H : Int), .int .i64 1, .slice (some ⟨g, 0, none⟩) n c2] 25)) u3 ((spN W H P xs).take k) [ri lo3 hi3 (.slice (some ⟨g, 0, none⟩) n c2) ((plL W H P xs k).take 0 ++ zeros (n - 0))] [⟨b3, 25, #[.int .i64 (W : Int), .int .i64 (H : Int), .int .i64 1, .slice (some ⟨g, 0, none⟩) n c2]⟩, ⟨w.heap.size, 25, #[.int .i64 (W : Int), .int .i64 (H : Int), .int .i64 (P : Int), .slice A xs.length c]⟩]) := Lib.hid (by simpa using S3.box _ _ b3 hb3)
        have HB3 := Lib.hid hb3
        have Hn := Lib.hid hn
        have hzb : b3 ≠ g := by omega
        have hwg : w.heap.size ≠ g := by have := hI.out.gs.l0; omega
        have hWg : w.heap.size ≤ g := by have := hI.out.gs.below.size; omega
        have hn256 : n ≤ 256 := by omega
        have HLp : Hid ((plL W H P xs k).length = n) := Lib.hid (by rw [plL_len, hn])
        have HXn : Hid (xs.length = n * P) := Lib.hid (by rw [HLn.out, hn])
        clear hO3 hB3 S3 hzl hlo3 hhi3 hb3 hI m0 m1 m2 m3 hn
        go_wp2
        (try rw [← HB3.out])
        go_loopw [6] (fun i wr => ∃ j : Nat, j ≤ n ∧ i = .int .i64 j ∧ Hid (ImS w wr u3 ((spN W H P xs).take k) [ri lo3 hi3 (.slice (some ⟨g, 0, none⟩) n c2) ((plL W H P xs k).take j ++ zeros (n - j))] [⟨b3, 25, #[.int .i64 (W : Int), .int .i64 (H : Int), .int .i64 1, .slice (some ⟨g, 0, none⟩) n c2]⟩, ⟨w.heap.size, 25, #[.int .i64 (W : Int), .int .i64 (H : Int), .int .i64 (P : Int), .slice A xs.length c]⟩])) (fun i _ => n - (intOf i).toNat)
        case atStart => exact ⟨0, Nat.zero_le _, rfl, HI0⟩
        case round =>
          clear HI0
          obtain ⟨j, hj, rfl, hJ⟩ := hrel
          have hlj : ((plL W H P xs k).take j ++ zeros (n - j)).length = n := by simp [zeros, HLp.out]; omega
          obtain ⟨o0, o1, o2, o3⟩ := hJ.out.gs.b0_4
          obtain ⟨m0, m1, m2, m3⟩ := hJ.out.gs.b1_4
          by_cases hjlt : j < n
          · obtain ⟨q1, hq1⟩ : ∃ q1, q1 = j * P := ⟨_, rfl⟩
            obtain ⟨q, hq⟩ : ∃ q, q = q1 + k := ⟨_, rfl⟩
            have hqx : q < xs.length := by
              have h1 := Nat.mul_le_mul_right P (show j + 1 ≤ n from hjlt)
              rw [Nat.add_mul, Nat.one_mul] at h1
              rw [HXn.out]; omega
            have hx1024 : xs.length ≤ 1024 := by rw [HXn.out]; have := Nat.mul_le_mul hn256 hP; omega
            obtain ⟨b, off, rfl, hb, hcx⟩ := HX.out.cells_ hqx
            have hcq := (hJ.out.gs.below.cell (p := ⟨b, off + q, none⟩) hb).trans (hcx q hqx)
            have hown := hJ.out.gs.o0
            have hcw := hown.cell hlj.symm (j := j) (by omega)
            have hfw := hown.frozen hlj.symm j
            have hput := (show Own wr.drew lo3 (.slice (some ⟨g, 0, none⟩) n c2) ((plL W H P xs k).take j ++ zeros (n - j)) from hown).put hlj.symm j (xs.getD q 0)
            have hset := take_set_next (plL W H P xs k) j (by rw [HLp.out]; exact hjlt)
            rw [plL_get (by have := Hn.out; omega), ← hq1, ← hq, HLp.out] at hset
            rw [hset] at hput
            have HN := Lib.hid (hJ.out.drew.mark hput.1 (by simp [zeros, HLp.out]; omega) hput.2)
            have hne1 : ¬ b = g := by omega
            have hne3 : ¬ b3 = g := hzb
            have hne4 : ¬ w.heap.size = g := hwg
            have i1 : (j : Int) * (P : Int) = (q1 : Int) := by rw [hq1]; simp
            have i2 : (q1 : Int) + (k : Int) = (q : Int) := by rw [hq]; simp
            have w1 : IntKind.i64.wrap ((q1 : Nat) : Int) = (q1 : Int) := IntWalk.i64_in _ (by omega)
            have w2 : IntKind.i64.wrap ((q : Nat) : Int) = (q : Int) := IntWalk.i64_in _ (by omega)
            have hqI : (q : Int) < (xs.length : Int) := by omega
            clear hcx hput hlj hown hset hq1 hq hJ
            generalize xs.getD q 0 = y at *
            generalize (List.getD ((plL W H P xs k).take j ++ zeros (n - j)) j 0) = z at *
            go_wp2
            go_region
            all_goals
              (try go_wp2)
              go_roundw
              case rel => exact ⟨j + 1, by omega, by go_num, HN⟩
              case measure => simp [intOf]; omega
          · have hjn : j = n := by omega
            subst hjn
            have hE1 : (plL W H P xs k).take j ++ zeros (j - j) = plL W H P xs k := by rw [Nat.sub_self, List.take_of_length_le (by rw [HLp.out]; exact Nat.le_refl _)]; simp [zeros]
            have h0 := hJ.out
            rw [hE1] at h0
            have h4 := (h0.call ((Below.refl wr.heap.size wr).alloc (Nat.le_refl _) (.cells #[.int .i64 (W : Int), .int .i64 (H : Int), .int .i64 1, .slice (some ⟨g, 0, none⟩) j c2] 25))).sub (List.Sublist.refl _) (List.Sublist.cons _ (List.Sublist.refl ([⟨w.heap.size, 25, #[.int .i64 (W : Int), .int .i64 (H : Int), .int .i64 (P : Int), .slice A xs.length c]⟩] : List Bxg)))
            have hcl4 := Bx.new wr 25 #[.int .i64 (W : Int), .int .i64 (H : Int), .int .i64 1, .slice (some ⟨g, 0, none⟩) j c2]
            obtain ⟨z0, z1, z2, z3⟩ := bx4 hcl4
            have hjc : j ≤ c2 := by
              rcases (h0.gs.2.1 _ (List.Mem.head _)).1.1.2 with ⟨e0, _⟩ | ⟨g', cap, cur, hv, _, _, hnc, _⟩
              · cases e0
              · simp only [ri, Value.slice.injEq] at hv
                obtain ⟨_, _, rfl⟩ := hv
                simp only [ri] at hnc
                rw [HLp.out] at hnc
                exact hnc
            have HI5 : Hid (ImS w (wr.alloc (.cells #[.int .i64 (W : Int), .int .i64 (H : Int), .int .i64 1, .slice (some ⟨g, 0, none⟩) j c2] 25)) u3 ((spN W H P xs).take k) (rt 3 1 lo3 hi3 (.slice (some ⟨g, 0, none⟩) (plL W H P xs k).length c2) (plL W H P xs k).length (plL W H P xs k) :: []) [⟨w.heap.size, 25, #[.int .i64 (W : Int), .int .i64 (H : Int), .int .i64 (P : Int), .slice A xs.length c]⟩]) := Lib.hid (by rw [HLp.out]; rw [show rt 3 1 lo3 hi3 (.slice (some ⟨g, 0, none⟩) j c2) j (plL W H P xs k) = ri lo3 hi3 (.slice (some ⟨g, 0, none⟩) j c2) (plL W H P xs k) by unfold ri rt; rw [HLp.out]]; exact h4)
            have x0 : (wr.alloc (.cells #[.int .i64 (W : Int), .int .i64 (H : Int), .int .i64 1, .slice (some ⟨g, 0, none⟩) j c2] 25)).cell? ((⟨wr.heap.size, 0, none⟩ : Addr).add 0) = some (.int .i64 (W : Int)) := by rw [add_spot rfl]; exact z0
            have x1 : (wr.alloc (.cells #[.int .i64 (W : Int), .int .i64 (H : Int), .int .i64 1, .slice (some ⟨g, 0, none⟩) j c2] 25)).cell? ((⟨wr.heap.size, 0, none⟩ : Addr).add 1) = some (.int .i64 (H : Int)) := by rw [add_spot rfl]; exact z1
            have x2 : (wr.alloc (.cells #[.int .i64 (W : Int), .int .i64 (H : Int), .int .i64 1, .slice (some ⟨g, 0, none⟩) j c2] 25)).cell? ((⟨wr.heap.size, 0, none⟩ : Addr).add 2) = some (.int .i64 1) := by rw [add_spot rfl]; exact z2
            have x3 : (wr.alloc (.cells #[.int .i64 (W : Int), .int .i64 (H : Int), .int .i64 1, .slice (some ⟨g, 0, none⟩) j c2] 25)).cell? ((⟨wr.heap.size, 0, none⟩ : Addr).add 3) = some (.slice (some ⟨g, 0, none⟩) j c2) := by rw [add_spot rfl]; exact z3
            have HNx := Lib.hid (spN_next (xs := xs) hlt (W := W) (H := H))
            have HTl : Hid (((spN W H P xs).take k).length ≤ 1000) := Lib.hid (by rw [List.length_take]; omega)
            clear hJ h0 h4 hcl4 hlj hE1 z0 z1 z2 z3
            go_wp2_with (at_builtin; refine wpList_appIS rfl (.tmp 43) (.tmp 45) rfl 3 lo3 hi3 (some ⟨g, 0, none⟩) j c2 c2 ⟨W, H, 1, plL W H P xs k⟩ rfl HI5.out ⟨wr.heap.size, 0, none⟩ 1 rfl (by rw [HLp.out]; exact hjc) HTl.out HLp.out.symm x0 x1 x2 x3 ?_; intro v5 w5 hI5)
            rw [← HNx.out] at hI5
            have HI6 := Lib.hid hI5
            clear hI5 HI5 x0 x1 x2 x3
            go_roundw
            case rel => exact ⟨k + 1, by omega, by go_num, HI6⟩
            case measure => simp [intOf]; omega
      · have hkP : k = P := by omega
        go_wp2
        go_ret
        have h := hI.out
        rw [hkP, List.take_of_length_le (by rw [spN_len]; exact Nat.le_refl _), ← HE.out] at h
        exact ⟨_, rfl, h.sub (List.Sublist.refl _) (List.nil_sublist _)⟩
end Go.Proofs.Ytfeldhhbnhdodaa
