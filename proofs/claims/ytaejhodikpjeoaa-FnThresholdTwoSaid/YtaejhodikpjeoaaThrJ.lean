/- The contract of ThresholdOf in the program. -/
import Derived.Test.YtaejhodikpjeoaaThrI
import Derived.Test.YtaejhodikpjeoaaThrT
namespace Go.Proofs.Ytaejhodikpjeoaa
open Go.RowKit Go.Shelf
set_option linter.unusedSimpArgs false
set_option linter.unusedVariables false
set_option maxRecDepth 20000
attribute [local irreducible] thA thB thD thE thX thY bst sm wsm

theorem GS.permT {W0 w : World} {L : List Rg} {Bs Bs' : List Bxg} (h : GS W0 w L Bs) (hp : Bs.Perm Bs') : GS W0 w L Bs' :=
  ⟨h.1, h.2.1, h.2.2.1, fun c hc => h.2.2.2.1 c (hp.mem_iff.2 hc), (hp.pairwise_iff (fun h => h.symm)).1 h.2.2.2.2⟩
theorem rot3 {α : Type} (a b c : α) (Bs : List α) : (a :: b :: c :: Bs).Perm (c :: a :: b :: Bs) := ((List.Perm.swap c b Bs).cons a).trans (List.Perm.swap c a (b :: Bs))
/-- The array of counts, by its place. -/
theorem th_index (cs : List Int) (hl : cs.length = 256) (w : World) (y : Nat) (hy : y < 256) : (Instr.index 43 (.agg (row cs)) (.int .i64 (y : Int))).run Try.prog w = .ok (.int .i64 (cs.getD y 0)) w := by
  have e : (row cs)[y]? = some (.int .i64 (cs.getD y 0)) := by
    unfold row
    simp [List.getD_eq_getElem?_getD, hl, hy]
  have h1 : (y : Int) < 256 := by omega
  simp [Instr.index, run_underlying Try.underlying43, asIntOf, go_sem, row_size, hl, e]
  intro h; omega
set_option maxHeartbeats 8000000 in
theorem i_ThresholdOf (W H P : Int) (A : Option Addr) (c : Nat) (xs : List Int) (w : World) (hx : Rds .i64 w w.heap.size A xs) (hl : xs.length ≤ 2000000) :
    Calls Try.prog 9 #[.agg #[.int .i64 W, .int .i64 H, .int .i64 P, .slice A xs.length c]] w fun e w' => e = .returned (.int .i64 (thV W H P xs)) ∧ Below w.heap.size w w' := by
  have HX := Lib.hid hx
  clear hx
  obtain ⟨hz, hi⟩ := zero_of_info (P := Try.prog) (t := 43) (v := .agg (row (zeros 256))) (n := 256) (by kernel_rfl)
  obtain ⟨Z, hZ⟩ : ∃ Z, Z = row (zeros 256) := ⟨_, rfl⟩
  rw [← hZ] at hz
  have HZ := Lib.hid hZ
  have HI := Lib.hid hi
  clear hZ hi
  have S0 := (GS.start w).box' 27 #[.int .i64 W, .int .i64 H, .int .i64 P, .slice A xs.length c] w.heap.size (by simp)
  go_enter Try.func9, Try.ntmps9
  go_wp2_with fail
  generalize (w.alloc (.cells #[.int .i64 W, .int .i64 H, .int .i64 P, .slice A xs.length c] 27)) = u0 at *
  refine (iVplane_any W H P A c xs u0 (S0.arg HX.out) hl).mono ?_
  rintro e u1 ⟨rfl, hB⟩
  have HS := Lib.hid (S0.call hB)
  clear hB S0
  cases hv : vpl W H P xs
  · have HF : Hid (thV W H P xs = -1) := Lib.hid (by unfold thV; rw [hv]; rfl)
    clear hv hz
    go_wp2
    go_ret
    exact ⟨(congrArg (fun z => Ending.returned (.int .i64 z)) HF.out).symm, HS.out.below⟩
  · have HF : Hid (thV W H P xs = (bst (hist xs) 255 : Nat)) := Lib.hid (by unfold thV; rw [hv]; rfl)
    have hln := (vpl_len hv).1
    have hvm := (vpl_len hv).2.1
    have HB := Lib.hid (bytes_of hvm)
    have HC : Hid (ThC (hist xs)) := Lib.hid (thC_hist hln HB.out)
    obtain ⟨b0, b1, b2, b3⟩ := HS.out.b0_4
    clear hv hvm
    go_wp2_with fail
    refine (counts_any W H P A c xs u1 (HS.out.arg HX.out) hl HB.out).mono ?_
    rintro e u2 ⟨rfl, hB⟩
    have hZs : Z.size = 256 := by rw [HZ.out, row_size, zeros_len]
    have S2 := (HS.out.call hB).box' 43 Z u2.heap.size rfl
    have hst := run_storeCells_row (xs := hist xs) (S2.bx (List.Mem.head _)) (by rw [hist_len, hZs])
    have HE := Lib.hid (S2.setRow (row (hist xs)))
    clear hB S2 hZs b0 b1 b2 b3
    have Hz := Lib.hid (show (Try.prog.info? 43).map (·.size) = some (row (hist xs)).size by rw [row_size, hist_len]; exact HI.out)
    have HS3 := Lib.hid ((HE.out.box' 46 #[.int .i64 0, .int .i64 0] (u2.heap.size + 1) (by simp)).box' 46 #[.int .i64 0, .int .i64 0] (u2.heap.size + 1 + 1) (by simp))
    go_wp2
    clear hst hz HZ HI HX HB hln HE HS
    generalize (((u2.alloc (Obj.cells Z 43)).setRow u2.heap.size (row (hist xs))).alloc (Obj.cells #[.int .i64 0, .int .i64 0] 46)).alloc (Obj.cells #[.int .i64 0, .int .i64 0] 46) = u3 at *
    generalize u2.heap.size = N at *
    generalize hist xs = cs at *
    have HC := HC
    refine wp_load_row 43 (.tmp 3) rfl N rfl 43 (row cs) (0, 0) _ HS3.out.x2 Try.underlying43 rfl Hz.out ?_
    go_at_K
    go_wp2
    obtain ⟨z1, z2⟩ := sm_zero cs
    go_loopw [19] (fun i wr => ∃ k : Nat, k ≤ 256 ∧ i = .int .i64 k ∧ Hid (GS w wr [] [⟨N + 1 + 1, 46, #[.int .i64 (sm cs k), .int .i64 (wsm cs k)]⟩, ⟨N + 1, 46, #[.int .i64 0, .int .i64 0]⟩, ⟨N, 43, row cs⟩, ⟨w.heap.size, 27, #[.int .i64 W, .int .i64 H, .int .i64 P, .slice A xs.length c]⟩])) (fun i _ => 256 - (intOf i).toNat)
    case atStart => exact ⟨0, by omega, rfl, by rw [z1, z2]; exact HS3⟩
    case round =>
      clear HS3 z1 z2
      obtain ⟨k, hk, rfl, hI⟩ := hrel
      rename World => wv
      by_cases hlt : k < 256
      · have hki : (k : Int) < 256 := by omega
        obtain ⟨y0, y1, m0, m1⟩ := HC.out.one k hlt
        obtain ⟨s0, s1, r0, r1⟩ := HC.out.bds k (by omega)
        have HN := Lib.hid (sm_next cs k)
        have hix : ∀ W : World, (Instr.index 43 (.agg (row cs)) (.int .i64 (k : Int))).run Try.prog W = .ok (.int .i64 (cs.getD k 0)) W := fun W => th_index cs HC.out.len W k hlt
        rw [Int.mul_comm] at m0 m1
        generalize cs.getD k 0 = y at *
        obtain ⟨m, hm⟩ : ∃ m, m = y * (k : Int) := ⟨_, rfl⟩
        rw [← hm] at m0 m1 HN
        have w0 : IntKind.i64.wrap (y * (k : Int)) = m := by rw [← hm]; exact IntWalk.i64_in _ (by omega)
        generalize sm cs k = s at *
        generalize wsm cs k = r at *
        have w1 : IntKind.i64.wrap (s + y) = s + y := IntWalk.i64_in _ (by omega)
        have w2 : IntKind.i64.wrap (r + m) = r + m := IntWalk.i64_in _ (by omega)
        have HA := Lib.hid (i_add (N + 1 + 1) s r y k m wv hI.out.x0 w1 w0 w2)
        clear hm w0 w1 w2
        go_wp2_with fail
        refine HA.out.mono ?_
        rintro e u4 ⟨rfl, hX, hG⟩
        have HS4 := Lib.hid (hI.out.fill hX hG)
        clear hX hG HA hI
        go_wp2
        go_roundw
        case rel => exact ⟨k + 1, by omega, by go_num, by rw [HN.out.1, HN.out.2]; exact HS4⟩
        case measure => simp [intOf]; omega
      · obtain rfl : k = 256 := by omega
        obtain ⟨z1, z2, z3, z4⟩ := th_start cs
        obtain ⟨z5, z6⟩ := fr_zero cs
        have HS5 : Hid (GS w wv [] [⟨N + 1 + 1, 46, #[.int .i64 (thB cs 0), .int .i64 (thY cs 0)]⟩, ⟨N + 1, 46, #[.int .i64 (thA cs 0), .int .i64 (thX cs 0)]⟩, ⟨N, 43, row cs⟩, ⟨w.heap.size, 27, #[.int .i64 W, .int .i64 H, .int .i64 P, .slice A xs.length c]⟩]) := Lib.hid (by rw [z1, z2, z3, z4]; exact hI.out)
        have HZF : Hid (frT cs (bst cs 0) = 0 ∧ frE cs (bst cs 0) = 1 ∧ bst cs 0 = 0) := Lib.hid ⟨z5, z6, bst_zero cs⟩
        clear hI z1 z2 z3 z4 z5 z6
        go_wp2
        have HS6 : Hid (GS w (wv.alloc (.cells #[.int .i64 0, .int .i64 1] 49)) [] [⟨N + 1, 46, #[.int .i64 (thA cs 0), .int .i64 (thX cs 0)]⟩, ⟨N + 1 + 1, 46, #[.int .i64 (thB cs 0), .int .i64 (thY cs 0)]⟩, ⟨wv.heap.size, 49, #[.int .i64 0, .int .i64 1]⟩, ⟨N, 43, row cs⟩, ⟨w.heap.size, 27, #[.int .i64 W, .int .i64 H, .int .i64 P, .slice A xs.length c]⟩]) := Lib.hid (((HS5.out.box' 49 #[.int .i64 0, .int .i64 1] wv.heap.size rfl).permT (rot3 _ _ _ _)).permT ((List.Perm.swap _ _ _).cons _))
        clear HS5
        generalize wv.alloc (.cells #[.int .i64 0, .int .i64 1] 49) = u5 at *
        generalize wv.heap.size = Q at *
        refine wp_load_row 43 (.tmp 3) rfl N rfl 43 (row cs) (0, 0) _ HS6.out.x3 Try.underlying43 rfl Hz.out ?_
        go_at_K
        go_wp2
        go_loopw [8, 29] (fun best i wr => ∃ k : Nat, k ≤ 256 ∧ i = .int .i64 k ∧ best = .int .i64 (bst cs k : Nat) ∧ Hid (GS w wr [] [⟨N + 1, 46, #[.int .i64 (thA cs k), .int .i64 (thX cs k)]⟩, ⟨N + 1 + 1, 46, #[.int .i64 (thB cs k), .int .i64 (thY cs k)]⟩, ⟨Q, 49, #[.int .i64 (frT cs (bst cs k)), .int .i64 (frE cs (bst cs k))]⟩, ⟨N, 43, row cs⟩, ⟨w.heap.size, 27, #[.int .i64 W, .int .i64 H, .int .i64 P, .slice A xs.length c]⟩])) (fun _ i _ => 256 - (intOf i).toNat)
        case atStart => exact ⟨0, by omega, rfl, by rw [HZF.out.2.2]; rfl, by rw [HZF.out.1, HZF.out.2.1]; exact HS6⟩
        case round =>
          clear HS6 HZF
          obtain ⟨k, hk, rfl, rfl, hI⟩ := hrel
          rename World => wu
          by_cases hlt : k < 256
          · have hki : (k : Int) < 256 := by omega
            obtain ⟨y0, y1, m0, m1⟩ := HC.out.one k hlt
            obtain ⟨a0, a1, b0, b1, _⟩ := HC.out.a_bd (t := k + 1) (by omega)
            obtain ⟨x0, x1, _, _, v0, v1⟩ := HC.out.x_bd (t := k + 1) (by omega)
            obtain ⟨t0, t1, e0, e1⟩ := HC.out.fr k hk
            have HTH := Lib.hid (th_step cs k)
            have HSk : Hid (thA cs (k + 1) = 0 ∨ thB cs (k + 1) = 0 → bst cs (k + 1) = bst cs k) := Lib.hid (fun h => bst_skip h)
            have HNx : Hid (¬ thA cs (k + 1) = 0 → ¬ thB cs (k + 1) = 0 → bst cs (k + 1) = if frT cs (bst cs k) * thE cs (k + 1) < thD cs (k + 1) * thD cs (k + 1) * frE cs (bst cs k) then k + 1 else bst cs k) := Lib.hid (fun h1 h2 => HC.out.next hlt h1 h2)
            have HBo : Hid (¬ thA cs (k + 1) = 0 → ¬ thB cs (k + 1) = 0 → 0 < thE cs (k + 1) ∧ thE cs (k + 1) ≤ 16384 ∧ 0 ≤ thD cs (k + 1) ∧ thD cs (k + 1) ≤ 4177920 ∧ 0 ≤ thD cs (k + 1) * thD cs (k + 1) ∧ thD cs (k + 1) * thD cs (k + 1) ≤ 17455015526400) := Lib.hid (fun h1 h2 => HC.out.both (by omega) (by omega) h1 h2)
            have HE1 := Lib.hid (thE_eq cs (k + 1))
            have HD1 := Lib.hid (thD_eq cs (k + 1))
            have HFP := Lib.hid (fr_pos cs k)
            have hix : ∀ W : World, (Instr.index 43 (.agg (row cs)) (.int .i64 (k : Int))).run Try.prog W = .ok (.int .i64 (cs.getD k 0)) W := fun W => th_index cs HC.out.len W k hlt
            rw [Int.mul_comm] at m0 m1
            obtain ⟨n, hn⟩ : ∃ n, n = k + 1 := ⟨_, rfl⟩
            have HN := Lib.hid hn
            rw [← hn] at a0 a1 b0 b1 x0 x1 v0 v1 HTH HSk HNx HBo HE1 HD1 HFP
            clear hn
            generalize cs.getD k 0 = y at *
            obtain ⟨m, hm⟩ : ∃ m, m = y * (k : Int) := ⟨_, rfl⟩
            rw [← hm] at m0 m1 HTH
            have w0 : IntKind.i64.wrap (y * (k : Int)) = m := by rw [← hm]; exact IntWalk.i64_in _ (by omega)
            have wn : IntKind.i64.wrap (-y) = -y := IntWalk.i64_in _ (by omega)
            have wm : IntKind.i64.wrap (-y * (k : Int)) = -m := by rw [Int.neg_mul, ← hm]; exact IntWalk.i64_in _ (by omega)
            have w1 : IntKind.i64.wrap (thA cs k + y) = thA cs k + y := by rw [← HTH.out.1]; exact IntWalk.i64_in _ (by omega)
            have w2 : IntKind.i64.wrap (thX cs k + m) = thX cs k + m := by rw [← HTH.out.2.1]; exact IntWalk.i64_in _ (by omega)
            have w3 : IntKind.i64.wrap (thB cs k + -y) = thB cs k + -y := by rw [← HTH.out.2.2.1]; exact IntWalk.i64_in _ (by omega)
            have w4 : IntKind.i64.wrap (thY cs k + -m) = thY cs k + -m := by rw [← HTH.out.2.2.2]; exact IntWalk.i64_in _ (by omega)
            have HA := Lib.hid (i_add (N + 1) (thA cs k) (thX cs k) y k m wu hI.out.x0 w1 w0 w2)
            have HA2 := Lib.hid (fun (u : World) (h : Bx u (N + 1 + 1) 46 #[.int .i64 (thB cs k), .int .i64 (thY cs k)]) => i_add (N + 1 + 1) (thB cs k) (thY cs k) (-y) k (-m) u h w3 wm w4)
            rw [← HTH.out.1, ← HTH.out.2.1] at HA
            rw [← HTH.out.2.2.1, ← HTH.out.2.2.2] at HA2
            clear hm w0 wm w1 w2 w3 w4 HTH
            go_wp2_with fail
            refine HA.out.mono ?_
            rintro e u6 ⟨rfl, hX, hG⟩
            have HS6 := Lib.hid ((hI.out.fill hX hG).swap)
            clear hX hG HA hI
            go_wp2_with fail
            refine (HA2.out _ HS6.out.x0).mono ?_
            rintro e u7 ⟨rfl, hX, hG⟩
            have HS7 := Lib.hid ((HS6.out.fill hX hG).swap)
            clear hX hG HA2 HS6 hix
            obtain ⟨l0, l1⟩ := HS7.out.b0_2
            obtain ⟨l2, l3⟩ := HS7.out.b1_2
            have HV : Hid (∀ z, z = n → thA cs z = thA cs n ∧ thX cs z = thX cs n ∧ thB cs z = thB cs n ∧ thY cs z = thY cs n) := Lib.hid (fun z h => by rw [h]; exact ⟨rfl, rfl, rfl, rfl⟩)
            generalize thA cs n = a at *
            generalize thB cs n = b at *
            generalize thX cs n = x at *
            generalize thY cs n = v at *
            generalize thE cs n = ee at *
            generalize thD cs n = d at *
            have HK0 : Hid (∀ z, z = bst cs k → frT cs z = frT cs (bst cs k) ∧ frE cs z = frE cs (bst cs k)) := Lib.hid (fun z h => by rw [h]; exact ⟨rfl, rfl⟩)
            generalize frT cs (bst cs k) = T at *
            generalize frE cs (bst cs k) = E at *
            generalize bst cs k = mm at *
            by_cases ha : a = 0
            · have HK := Lib.hid (HSk.out (.inl ha))
              have hab : (a == 0) = true := by rw [ha]; rfl
              have HF2 := Lib.hid (HK0.out mm rfl)
              go_wp2
              go_roundw
              case rel => exact ⟨n, by have := HN.out; omega, by rw [HN.out]; go_num, by rw [HK.out], by rw [HK.out, HF2.out.1, HF2.out.2, (HV.out n rfl).1, (HV.out n rfl).2.1, (HV.out n rfl).2.2.1, (HV.out n rfl).2.2.2]; exact HS7⟩
              case measure => have := HN.out; simp [intOf]; omega
            · have hab : (a == 0) = false := beq_eq_false_iff_ne.2 ha
              by_cases hb : b = 0
              · have HK := Lib.hid (HSk.out (.inr hb))
                have hbb : (b == 0) = true := by rw [hb]; rfl
                have HF2 := Lib.hid (HK0.out mm rfl)
                go_wp2
                go_roundw
                case rel => exact ⟨n, by have := HN.out; omega, by rw [HN.out]; go_num, by rw [HK.out], by rw [HK.out, HF2.out.1, HF2.out.2, (HV.out n rfl).1, (HV.out n rfl).2.1, (HV.out n rfl).2.2.1, (HV.out n rfl).2.2.2]; exact HS7⟩
                case measure => have := HN.out; simp [intOf]; omega
              · have hbb : (b == 0) = false := beq_eq_false_iff_ne.2 hb
                have HN2 := Lib.hid (HNx.out ha hb)
                obtain ⟨e2, e3, d0, d1, p0, p1⟩ := HBo.out ha hb
                clear HNx HBo HSk
                obtain ⟨z, hz⟩ : ∃ z, z = d * d := ⟨_, rfl⟩
                rw [← hz] at HN2 p0 p1 HFP
                obtain ⟨p, hp⟩ : ∃ z, z = a * v := ⟨_, rfl⟩
                obtain ⟨q, hq⟩ : ∃ z, z = b * x := ⟨_, rfl⟩
                rw [← hp, ← hq] at HD1
                obtain ⟨i0, i1⟩ := thMul a0 a1 v0 (show v ≤ 65280 by omega)
                obtain ⟨j0, j1⟩ := thMul b0 b1 x0 (show x ≤ 65280 by omega)
                rw [← hp] at i0 i1
                rw [← hq] at j0 j1
                have w1 : IntKind.i64.wrap (a * v) = p := by rw [← hp]; exact IntWalk.i64_in _ (by omega)
                have w2 : IntKind.i64.wrap (b * x) = q := by rw [← hq]; exact IntWalk.i64_in _ (by omega)
                have w3 : IntKind.i64.wrap (p - q) = d := by rw [← HD1.out]; exact IntWalk.i64_in _ (by omega)
                have w4 : IntKind.i64.wrap (d * d) = z := by rw [← hz]; exact IntWalk.i64_in _ (by omega)
                have w5 : IntKind.i64.wrap (a * b) = ee := by rw [← HE1.out]; exact IntWalk.i64_in _ (by omega)
                have HCo := Lib.hid (fun u => i_contrast a x b v p q d z ee u w1 w2 w3 w4 w5)
                clear hz hp hq w1 w2 w3 w4 w5 HD1 HE1
                obtain ⟨i2, i3⟩ := thMul p0 p1 (show 0 ≤ E by omega) e1
                obtain ⟨j2, j3⟩ := thMul t0 t1 (show 0 ≤ ee by omega) e3
                obtain ⟨P1, hP1⟩ : ∃ r, r = z * E := ⟨_, rfl⟩
                obtain ⟨P2, hP2⟩ : ∃ r, r = T * ee := ⟨_, rfl⟩
                rw [← hP1] at HN2 i2 i3
                rw [← hP2] at HN2 j2 j3
                have w6 : IntKind.i64.wrap (z * E) = P1 := by rw [← hP1]; exact IntWalk.i64_in _ (by omega)
                have w7 : IntKind.i64.wrap (T * ee) = P2 := by rw [← hP2]; exact IntWalk.i64_in _ (by omega)
                have HEx := Lib.hid (fun u => i_exceeds z ee T E P1 P2 u w6 w7)
                clear hP1 hP2 w6 w7
                go_wp2_with fail
                refine (HCo.out _).mono ?_
                rintro e u8 ⟨rfl, hB⟩
                have HS8 := Lib.hid (HS7.out.call hB)
                clear hB l0 l1 l2 l3 HCo HS7
                go_upto_region 18 with fail
                have HS9 := Lib.hid (HS8.out.box' 49 #[.int .i64 z, .int .i64 ee] u8.heap.size rfl)
                clear HS8
                generalize u8.alloc (.cells #[.int .i64 z, .int .i64 ee] 49) = u9 at *
                generalize u8.heap.size = R at *
                obtain ⟨f0, f1⟩ := HS9.out.b0_2
                obtain ⟨g0, g1⟩ := HS9.out.b3_2
                go_wp2_with fail
                refine (HEx.out _).mono ?_
                rintro e u10 ⟨rfl, hB⟩
                have HS10 := Lib.hid (HS9.out.call hB)
                clear hB f0 f1 g0 g1 HEx HS9
                by_cases hc : P2 < P1
                · have HK : Hid (bst cs n = n) := Lib.hid (by rw [HN2.out, if_pos hc])
                  have hcd : decide (P2 < P1) = true := decide_eq_true hc
                  obtain ⟨f0, f1⟩ := HS10.out.b0_2
                  obtain ⟨g0, g1⟩ := HS10.out.b3_2
                  have g2 := HS10.out.f3 0
                  have g3 := HS10.out.f3 1
                  have hlQ := HS10.out.l3
                  have HSq := Lib.hid (HS10.out.drop.drew.permT (rot3 _ _ _ _))
                  have HS11 := Lib.hid ((HSq.out.fill (bx_put2T HSq.out.x0 (.int .i64 z) (.int .i64 ee)) (gtrans (grown_set _ Q 0 _) (grown_set _ Q 1 _))).permT (rot3 _ _ _ _).symm)
                  clear HSq HS10
                  go_wp2
                  go_region
                  all_goals
                    (try go_wp2)
                    go_roundw
                    case rel => exact ⟨n, by have := HN.out; omega, by rw [HN.out]; go_num, by rw [HK.out, HN.out]; go_num, by rw [HK.out, HFP.out.1, HFP.out.2, (HV.out n rfl).1, (HV.out n rfl).2.1, (HV.out n rfl).2.2.1, (HV.out n rfl).2.2.2]; exact HS11⟩
                    case measure => have := HN.out; simp [intOf]; omega
                · have HK : Hid (bst cs n = mm) := Lib.hid (by rw [HN2.out, if_neg hc])
                  have hcd : decide (P2 < P1) = false := decide_eq_false hc
                  have HF2 := Lib.hid (HK0.out mm rfl)
                  have HS11 := Lib.hid HS10.out.drop
                  clear HS10
                  go_wp2
                  go_roundw
                  case rel => exact ⟨n, by have := HN.out; omega, by rw [HN.out]; go_num, by rw [HK.out], by rw [HK.out, HF2.out.1, HF2.out.2, (HV.out n rfl).1, (HV.out n rfl).2.1, (HV.out n rfl).2.2.1, (HV.out n rfl).2.2.2]; exact HS11⟩
                  case measure => have := HN.out; simp [intOf]; omega
          · obtain rfl : k = 256 := by omega
            have HK : Hid (thV W H P xs = (bst cs 256 : Nat)) := Lib.hid (by rw [HF.out, th_full])
            generalize bst cs 256 = mm at *
            go_wp2
            go_ret
            exact ⟨(congrArg (fun z => Ending.returned (.int .i64 z)) HK.out).symm, hI.out.below⟩
end Go.Proofs.Ytaejhodikpjeoaa
