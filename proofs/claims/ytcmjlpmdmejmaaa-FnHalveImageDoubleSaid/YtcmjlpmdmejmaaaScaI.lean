/- Sums of areas in the program. -/
import Derived.Test.YtcmjlpmdmejmaaaGridJ
import Derived.Test.YtcmjlpmdmejmaaaScaM
import Derived.Test.YtcmjlpmdmejmaaaDiv
import Derived.Test.YtcmjlpmdmejmaaaScale
namespace Go.Proofs.Ytcmjlpmdmejmaaa
open Go.RowKit Go.Shelf
set_option linter.unusedSimpArgs false
set_option linter.unusedVariables false
set_option maxRecDepth 20000

set_option maxHeartbeats 2000000 in
theorem iOvl_any (i cnt j oth : Nat) (hi : i ≤ 16) (hc : cnt ≤ 16) (hj : j ≤ 16) (ho : oth ≤ 16) (w : World) : Calls Try.prog 64 #[.int .i64 (i : Int), .int .i64 (cnt : Int), .int .i64 (j : Int), .int .i64 (oth : Int)] w fun e w' => e = .returned (.int .i64 (ovn i cnt j oth : Int)) ∧ w = w' := by
  obtain ⟨p1, h1⟩ : ∃ p, p = i * oth := ⟨_, rfl⟩
  obtain ⟨p2, h2⟩ : ∃ p, p = j * cnt := ⟨_, rfl⟩
  obtain ⟨q1, h3⟩ : ∃ p, p = (i + 1) * oth := ⟨_, rfl⟩
  obtain ⟨q2, h4⟩ : ∃ p, p = (j + 1) * cnt := ⟨_, rfl⟩
  have b1 : p1 ≤ 256 := by rw [h1]; have := Nat.mul_le_mul hi ho; omega
  have b2 : p2 ≤ 256 := by rw [h2]; have := Nat.mul_le_mul hj hc; omega
  have b3 : q1 ≤ 272 := by rw [h3]; have := Nat.mul_le_mul (show i + 1 ≤ 17 by omega) ho; omega
  have b4 : q2 ≤ 272 := by rw [h4]; have := Nat.mul_le_mul (show j + 1 ≤ 17 by omega) hc; omega
  have e1 : (i : Int) * (oth : Int) = (p1 : Int) := by rw [h1]; simp
  have e2 : (j : Int) * (cnt : Int) = (p2 : Int) := by rw [h2]; simp
  have e3 : ((i : Int) + 1) * (oth : Int) = (q1 : Int) := by rw [h3]; simp
  have e4 : ((j : Int) + 1) * (cnt : Int) = (q2 : Int) := by rw [h4]; simp
  have HV : Hid (ovn i cnt j oth = min q1 q2 - max p1 p2) := Lib.hid (by unfold ovn; rw [h1, h2, h3, h4])
  clear h1 h2 h3 h4
  by_cases k1 : q2 < q1 <;> by_cases k2 : p1 < p2
  all_goals
    go_enter Try.func64, Try.ntmps64
    go_wp2
    all_goals
      go_ret
      exact ⟨ret_int (by rw [HV.out]; omega), rfl⟩
set_option maxHeartbeats 8000000 in
theorem iCol1_any (W H n a : Nat) (hn : W * H = n) (hW : W ≤ 16) (hH : H ≤ 16) (ha : a ≤ 16) (A : Option Addr) (c : Nat) (f : Nat → Nat → Int) (hf : ∀ x y, x < W → y < H → 0 ≤ f x y ∧ f x y ≤ 65280) (hc : n ≤ c) (x y : Nat) (hx : x < a) (hy : y < H) (pg pw : Nat) (w : World) (hr : Rds .i64 w w.heap.size A (grN W H f))
    (hg : Bx w pg 59 #[.int .i64 (W : Int), .int .i64 (H : Int), .slice A n c]) (hp : Bx w pw 3 #[.int .i64 (a : Int)]) :
    Calls Try.prog 63 (#[.int .i64 (x : Int), .int .i64 (y : Int)] ++ #[.pointer (some ⟨pg, 0, none⟩), .pointer (some ⟨pw, 0, none⟩)]) w fun e w' => e = .returned (.int .i64 (scF W a f x y)) ∧ Below w.heap.size w w' := by
  have Hr := Lib.hid hr
  have HG := Lib.hid hg
  have HP := Lib.hid hp
  have HF := Lib.hid hf
  have Hn := Lib.hid hn
  obtain ⟨g0, g1, g2⟩ := bx3 hg
  have h0 := bx1 hp
  obtain ⟨T, hT⟩ : ∃ T : Nat → Int, T = fun k => sumN (fun c => f c y * (ovn c W x a : Int)) k := ⟨_, rfl⟩
  have HT := Lib.hid hT
  have HT0 : Hid (T 0 = 0) := Lib.hid (by rw [hT]; rfl)
  clear hr hg hp hf hn hT
  show Calls Try.prog 63 #[.int .i64 (x : Int), .int .i64 (y : Int), .pointer (some ⟨pg, 0, none⟩), .pointer (some ⟨pw, 0, none⟩)] w _
  go_enter Try.func63, Try.ntmps63
  go_wp2
  go_loopw [7, 11] (fun s i wr => ∃ k : Nat, k ≤ W ∧ i = .int .i64 (k : Int) ∧ s = .int .i64 (T k) ∧ Hid (Below w.heap.size w wr)) (fun _ i _ => W - (intOf i).toNat)
  case atStart => exact ⟨0, Nat.zero_le _, rfl, by rw [HT0.out], Lib.hid (Below.refl _ _)⟩
  case round =>
    obtain ⟨k, hk, rfl, rfl, hB⟩ := hrel
    clear g0 g1 g2 h0
    by_cases hlt : k < W
    · have hg2 := HG.out.below hB.out
      have hp2 := HP.out.below hB.out
      obtain ⟨g0, g1, g2⟩ := bx3 hg2
      have h0 := bx1 hp2
      have hgl := hg2.lt
      have hpl := hp2.lt
      have hb := HF.out k y hlt hy
      have hpt := scF_part (W := W) (a := a) (f := f) (x := x) (y := y) (b := 65280) (by omega) ha (fun c hc => HF.out c y hc hy) hk (by omega)
      have hov := ovn_le k W x a
      have hTk : T k = sumN (fun c => f c y * (ovn c W x a : Int)) k := by rw [HT.out]
      have hTn : T (k + 1) = T k + f k y * (ovn k W x a : Int) := by rw [HT.out]; rfl
      rw [← hTk] at hpt
      obtain ⟨t0, t1⟩ := hpt
      obtain ⟨z, hz⟩ : ∃ z, z = f k y := ⟨_, rfl⟩
      obtain ⟨o, ho⟩ : ∃ o, o = ovn k W x a := ⟨_, rfl⟩
      rw [← hz] at hb
      rw [← ho] at hov
      obtain ⟨m, hm⟩ : ∃ m, m = z * (o : Int) := ⟨_, rfl⟩
      have hmb : 0 ≤ m ∧ m ≤ 65280 * 16 := by
        rw [hm]
        exact ⟨Int.mul_nonneg hb.1 (by omega), Int.mul_le_mul hb.2 (by omega) (by omega) (by omega)⟩
      obtain ⟨m0, m1⟩ := hmb
      have HN : Hid (T (k + 1) = T k + m) := Lib.hid (by rw [hTn, hm, hz, ho])
      have em : z * (o : Int) = m := hm.symm
      have ew : IntKind.i64.wrap m = m := IntWalk.i64_in _ (by omega)
      have es : IntKind.i64.wrap (T k + m) = T k + m := IntWalk.i64_in _ (by omega)
      have Hz := Lib.hid hz
      have Ho := Lib.hid ho
      have HR2 := Lib.hid ((Hr.out.below hB.out).more hB.out.size)
      clear hg2 hp2 hz ho hm hTk hTn hb
      go_upto_region 5 with fail
      go_region_held3 (fun w' => w'.cell? ⟨pg, 0, none⟩ = some (.int .i64 (W : Int)) ∧ w'.cell? ⟨pg, 1, none⟩ = some (.int .i64 (H : Int)) ∧ w'.cell? ⟨pg, 2, none⟩ = some (.slice A n c) ∧ w'.cell? ⟨pw, 0, none⟩ = some (.int .i64 (a : Int)))
        (first | (with_reducible exact ⟨d0, d1, d2, d3⟩) | exact ⟨g0, g1, g2, h0⟩ | go_keep)
        (first | (go_at_call 56; refine (atN_any W H n Hn.out hW hH A c f k y hlt hy _ (by exact HR2.out) hc).mono ?_; rintro e w3 ⟨rfl, hB3⟩; rw [← Hz.out]; have d0 := (hB3.cell (p := ⟨pg, 0, none⟩) (by exact hgl)).trans g0; have d1 := (hB3.cell (p := ⟨pg, 1, none⟩) (by exact hgl)).trans g1; have d2 := (hB3.cell (p := ⟨pg, 2, none⟩) (by exact hgl)).trans g2; have d3 := (hB3.cell (p := ⟨pw, 0, none⟩) (by exact hpl)).trans h0; have HB3 := Lib.hid hB3; clear hB3) | (go_at_call 64; refine (iOvl_any k W x a (by omega) hW (by omega) ha _).mono ?_; rintro e w4 ⟨rfl, rfl⟩; rw [← Ho.out]))
      all_goals
        have HB4 : Hid (Below w.heap.size w w3) := Lib.hid ((show Below w.heap.size w wr.drew from ⟨hB.out.os, hB.out.tape, hB.out.output, hB.out.size, hB.out.block⟩).trans (HB3.out.mono hB.out.size))
        clear d0 d1 d2 d3 g0 g1 g2 h0 HB3
        go_wp2
        go_roundw
        case rel => exact ⟨k + 1, by omega, by go_num, by rw [HN.out], HB4⟩
        case measure => simp [intOf]; omega
    · have hkW : k = W := by omega
      have HE : Hid (T k = scF W a f x y) := Lib.hid (by rw [HT.out, hkW]; rfl)
      go_wp2
      go_ret
      exact ⟨by rw [← HE.out]; rfl, hB.out⟩
set_option maxHeartbeats 8000000 in
theorem iCols_any (W H n a : Nat) (hn : W * H = n) (hW : W ≤ 16) (hH : H ≤ 16) (ha : a ≤ 16) (A : Option Addr) (c : Nat) (f : Nat → Nat → Int) (hf : ∀ x y, x < W → y < H → 0 ≤ f x y ∧ f x y ≤ 65280) (hc : n ≤ c) (w : World) (hr : Rds .i64 w w.heap.size A (grN W H f)) :
    Calls Try.prog 59 #[.agg #[.int .i64 (W : Int), .int .i64 (H : Int), .slice A n c], .int .i64 (a : Int)] w (GridI a H (scF W a f) w) := by
  have Hr := Lib.hid hr
  have HF := Lib.hid hf
  have Hn := Lib.hid hn
  have Eg : Hid (∀ args w, (callFunc 63 args).run Try.prog w = .ok (.enter 63 args) w) := Lib.hid (enters_of Try.func63 (by kernel_rfl) rfl)
  have S0 : GS w (((w.alloc (.cells #[.int .i64 (W : Int), .int .i64 (H : Int), .slice A n c] 59)).alloc (.cells #[.int .i64 (a : Int)] 3)).alloc (.cells #[.int .i64 0, .int .i64 0, .slice none 0 0] 59)) [] [⟨w.heap.size + 2, 59, #[.int .i64 0, .int .i64 0, .slice none 0 0]⟩, ⟨w.heap.size + 1, 3, #[.int .i64 (a : Int)]⟩, ⟨w.heap.size, 59, #[.int .i64 (W : Int), .int .i64 (H : Int), .slice A n c]⟩] :=
    GS.box' (GS.box' (GS.box' (GS.start w) _ _ w.heap.size (by simp)) _ _ (w.heap.size + 1) (by simp)) _ _ (w.heap.size + 2) (by simp)
  have HS := Lib.hid S0
  clear hr hf hn S0
  go_enter Try.func59, Try.ntmps59
  go_wp2_with fail
  generalize ((w.alloc (.cells #[.int .i64 (W : Int), .int .i64 (H : Int), .slice A n c] 59)).alloc (.cells #[.int .i64 (a : Int)] 3)).alloc (.cells #[.int .i64 0, .int .i64 0, .slice none 0 0] 59) = u at *
  refine (buildN_any a H ha hH 63 #[.pointer (some ⟨w.heap.size, 0, none⟩), .pointer (some ⟨w.heap.size + 1, 0, none⟩)] (scF W a f) u Eg.out (fun x y w' hx hy hbel =>
    iCol1_any W H n a Hn.out hW hH ha A c f HF.out hc x y hx hy w.heap.size (w.heap.size + 1) w' ((HS.out.call hbel).arg Hr.out) ((HS.out.call hbel).bx (by simp)) ((HS.out.call hbel).bx (by simp)))).mono ?_
  rintro e w2 ⟨v2, rfl, hO2, hB2⟩
  have S2 := HS.out.add hO2 hB2
  obtain ⟨A2, c2, rfl, _⟩ := hO2.slice
  obtain ⟨r0, r1, r2⟩ := S2.b0_3
  have f0 := S2.f0 0
  have f1 := S2.f0 1
  have f2 := S2.f0 2
  have HE := Lib.hid (S2.e0_3 (.int .i64 (a : Int)) (.int .i64 (H : Int)) (.slice A2 (img a H 1 (fun x y _ => scF W a f x y)).length c2))
  clear S2 HS hO2 hB2 Hr HF Eg
  go_wp2
  exact bodyPost_ret (v := .agg #[.int .i64 (a : Int), .int .i64 (H : Int), .slice A2 (img a H 1 (fun x y _ => scF W a f x y)).length c2]) (by simp [results, Try.results59, go_sem, r0, r1, r2]) rfl ⟨_, rfl, HE.out.2 _ (List.Mem.head _), HE.out.1⟩
set_option maxHeartbeats 8000000 in
theorem iAreas_any (W H n a b : Nat) (hn : W * H = n) (hW : W ≤ 16) (hH : H ≤ 16) (ha : a ≤ 16) (hb : b ≤ 16) (A : Option Addr) (c : Nat) (f : Nat → Nat → Int) (hf : ∀ x y, x < W → y < H → 0 ≤ f x y ∧ f x y ≤ 255) (hc : n ≤ c) (w : World) (hr : Rds .i64 w w.heap.size A (grN W H f)) :
    Calls Try.prog 52 #[.agg #[.int .i64 (W : Int), .int .i64 (H : Int), .slice A n c], .int .i64 (a : Int), .int .i64 (b : Int)] w (GridI a b (saF W H a b f) w) := by
  have Hr := Lib.hid hr
  have HF := Lib.hid hf
  have Hn := Lib.hid hn
  have S0 : GS w ((w.alloc (.cells #[.int .i64 (W : Int), .int .i64 (H : Int), .slice A n c] 59)).alloc (.cells #[.int .i64 0, .int .i64 0, .slice none 0 0] 59)) [] [⟨w.heap.size + 1, 59, #[.int .i64 0, .int .i64 0, .slice none 0 0]⟩, ⟨w.heap.size, 59, #[.int .i64 (W : Int), .int .i64 (H : Int), .slice A n c]⟩] :=
    GS.box' (GS.box' (GS.start w) _ _ w.heap.size (by simp)) _ _ (w.heap.size + 1) (by simp)
  have HS := Lib.hid S0
  have HB1 : Hid (∀ x y, x < a → y < H → 0 ≤ scF W a f x y ∧ scF W a f x y ≤ 65280) := Lib.hid (fun x y _ hy => scF_bd hW ha (fun c hc => HF.out c y hc hy))
  clear hr hf hn S0
  go_enter Try.func52, Try.ntmps52
  go_wp2_with fail
  generalize (w.alloc (.cells #[.int .i64 (W : Int), .int .i64 (H : Int), .slice A n c] 59)).alloc (.cells #[.int .i64 0, .int .i64 0, .slice none 0 0] 59) = u at *
  refine (iCols_any W H n a Hn.out hW hH ha A c f (fun x y hx hy => by have := HF.out x y hx hy; omega) hc u (HS.out.arg Hr.out)).mono ?_
  rintro e w2 ⟨v2, rfl, hO2, hB2⟩
  have S2 := Lib.hid (HS.out.add hO2 hB2)
  obtain ⟨A2, c2, rfl, hc2⟩ := hO2.slice
  clear HS hO2 hB2 Hr HF
  go_wp2_with fail
  refine (transpJ_any a H _ (grN_len a H (scF W a f)).symm ha hH A2 c2 (scF W a f) hc2 w2 (S2.out.rds (List.Mem.head _))).mono ?_
  rintro e w3 ⟨v3, rfl, hO3, hB3⟩
  have S3 := Lib.hid (S2.out.add hO3 hB3)
  obtain ⟨A3, c3, rfl, hc3⟩ := hO3.slice
  clear S2 hO3 hB3
  go_wp2_with fail
  refine (iCols_any H a _ b (grN_len H a (fun x y => scF W a f y x)).symm hH ha hb A3 c3 (fun x y => scF W a f y x) (fun x y hx hy => HB1.out y x hy hx) hc3 w3 (S3.out.rds (List.Mem.head _))).mono ?_
  rintro e w4 ⟨v4, rfl, hO4, hB4⟩
  have S4 := Lib.hid (S3.out.add hO4 hB4)
  obtain ⟨A4, c4, rfl, hc4⟩ := hO4.slice
  clear S3 hO4 hB4
  go_wp2_with fail
  refine (transpJ_any b a _ (grN_len b a (scF H b (fun x y => scF W a f y x))).symm hb ha A4 c4 (scF H b (fun x y => scF W a f y x)) hc4 w4 (S4.out.rds (List.Mem.head _))).mono ?_
  rintro e w5 ⟨v5, rfl, hO5, hB5⟩
  have S5 := S4.out.add hO5 hB5
  obtain ⟨A5, c5, rfl, hc5⟩ := hO5.slice
  obtain ⟨r0, r1, r2⟩ := S5.b0_3
  have f0 := S5.f0 0
  have f1 := S5.f0 1
  have f2 := S5.f0 2
  have HE := Lib.hid (S5.e0_3 (.int .i64 (a : Int)) (.int .i64 (b : Int)) (.slice A5 (img a b 1 (fun x y _ => scF H b (fun x y => scF W a f y x) y x)).length c5))
  clear S5 S4 hO5 hB5
  go_wp2
  exact bodyPost_ret (v := .agg #[.int .i64 (a : Int), .int .i64 (b : Int), .slice A5 (img a b 1 (fun x y _ => scF H b (fun x y => scF W a f y x) y x)).length c5]) (by simp [results, Try.results52, go_sem, r0, r1, r2]) rfl ⟨_, rfl, HE.out.2 _ (List.Mem.head _), HE.out.1⟩
end Go.Proofs.Ytcmjlpmdmejmaaa
