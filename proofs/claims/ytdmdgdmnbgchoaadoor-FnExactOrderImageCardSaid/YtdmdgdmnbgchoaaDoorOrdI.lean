/- Contract of OrderImage in the program, under the matrix that it lays. -/
import Derived.Test.YtdmdgdmnbgchoaaDoorOrdM
import Derived.Test.YtdmdgdmnbgchoaaDoorDoorM
import Derived.Test.YtdmdgdmnbgchoaaDoorHisI
import Derived.Test.YtdmdgdmnbgchoaaDoorGridJ
import Derived.Test.YtdmdgdmnbgchoaaDoorScaP
import Derived.Test.YtdmdgdmnbgchoaaDoorMapI
import Derived.Deep.RegionHeld3
namespace Go.Proofs.YtdmdgdmnbgchoaaDoor
open Go.RowKit Go.Shelf
set_option linter.unusedSimpArgs false
set_option linter.unusedVariables false
set_option maxRecDepth 20000

set_option maxHeartbeats 4000000 in
theorem iDith_any (W H P L : Int) (A : Option Addr) (c : Nat) (xs : List Int) (w : World) (hx : Rds .i64 w w.heap.size A xs) (hl : xs.length ≤ 2000000) :
    Calls Tryd.prog 16 #[.agg #[.int .i64 W, .int .i64 H, .int .i64 P, .slice A xs.length c], .int .i64 L] w fun e w' => e = .returned (.bool (odB W H P xs L)) ∧ Below w.heap.size w w' := by
  have HX := Lib.hid hx
  have HV : Hid (odB W H P xs L = (vpl W H P xs && lvB L)) := Lib.hid rfl
  clear hx
  have S0 := (GS.start w).box' 25 #[.int .i64 W, .int .i64 H, .int .i64 P, .slice A xs.length c] w.heap.size (by simp)
  go_enter Tryd.func16, Tryd.ntmps16
  go_wp2_with fail
  generalize (w.alloc (.cells #[.int .i64 W, .int .i64 H, .int .i64 P, .slice A xs.length c] 25)) = u0 at *
  refine (iVplane_any W H P A c xs u0 (S0.arg HX.out) hl).mono ?_
  rintro e u1 ⟨rfl, hB⟩
  have S1 := S0.call hB
  clear hB S0
  cases hv : vpl W H P xs
  · have HF : Hid (odB W H P xs L = false) := Lib.hid (by rw [HV.out, hv]; rfl)
    clear HV hv
    go_wp2
    go_ret
    exact ⟨ret_bool HF.out.symm, S1.below⟩
  · have HF : Hid (odB W H P xs L = lvB L) := Lib.hid (by rw [HV.out, hv]; rfl)
    clear HV hv
    go_wp2_with fail
    refine (iVlv_any L u1).mono ?_
    rintro e u2 ⟨rfl, rfl⟩
    go_wp2
    go_ret
    exact ⟨ret_bool HF.out.symm, S1.below⟩
theorem bay_mod (x y : Nat) : bay (x % 4) (y % 4) = bay x y := by unfold bay; rw [Nat.mod_mod, Nat.mod_mod]
set_option maxHeartbeats 8000000 in
theorem iOrd1_any (W H nn : Nat) (hnn : W * H = nn) (hW : W ≤ 16) (hH : H ≤ 16) (A : Option Addr) (c : Nat) (f : Nat → Nat → Int) (L : Int) (hL2 : 2 ≤ L) (hL16 : L ≤ 16) (x y : Nat) (hx : x < W) (hy : y < H) (hf : 0 ≤ f x y ∧ f x y ≤ 255) (pg pl : Nat) (w : World) (hr : Rds .i64 w w.heap.size A (grN W H f)) (hc : nn ≤ c)
    (hg : Bx w pg 40 #[.int .i64 (W : Int), .int .i64 (H : Int), .slice A nn c]) (hp : Bx w pl 3 #[.int .i64 L]) (hT : Tab w) :
    Calls Tryd.prog 20 (#[.int .i64 (x : Int), .int .i64 (y : Int)] ++ #[.pointer (some ⟨pg, 0, none⟩), .pointer (some ⟨pl, 0, none⟩)]) w fun e w' => e = .returned (.int .i64 (odV (f x y) L (bay x y))) ∧ Below w.heap.size w w' := by
  show Calls Tryd.prog 20 #[.int .i64 (x : Int), .int .i64 (y : Int), .pointer (some ⟨pg, 0, none⟩), .pointer (some ⟨pl, 0, none⟩)] w _
  obtain ⟨n, hn⟩ : ∃ n, f x y = n := ⟨_, rfl⟩
  obtain ⟨bq, hbq⟩ : ∃ b, bay x y = b := ⟨_, rfl⟩
  obtain ⟨xm, hxm⟩ : ∃ m, x % 4 = m := ⟨_, rfl⟩
  obtain ⟨ym, hym⟩ : ∃ m, y % 4 = m := ⟨_, rfl⟩
  have t0 := hT.2 ym xm (by omega) (by omega)
  rw [← hxm, ← hym, bay_mod, hbq, hxm, hym] at t0
  have hbb : 0 ≤ bq ∧ bq ≤ 15 := by rw [← hbq]; exact bay_bd x y
  rw [hn] at hf
  obtain ⟨o1, o2, o3, o4, o5, o6⟩ := od_bd hf ⟨hL2, hL16⟩ hbb
  have Hn := Lib.hid hn
  have ek : 16 * n * (L - 1) = n * (L - 1) * 16 := by rw [Int.mul_assoc, Int.mul_comm 16]
  have hk0 : 0 ≤ n * (L - 1) ∧ n * (L - 1) ≤ 61200 := by have := o1; have := o2; omega
  have Hw4 : Hid (IntKind.i64.wrap (L - 1) = L - 1) := Lib.hid (IntWalk.i64_in _ (by omega))
  have Hv5 : Hid (IntKind.i64.wrap (n * (L - 1)) = n * (L - 1)) := Lib.hid (IntWalk.i64_in _ (by omega))
  have Hv6 : Hid (IntKind.i64.wrap (n * (L - 1) * 16) = n * (L - 1) * 16) := Lib.hid (IntWalk.i64_in _ (by omega))
  have Hw6 : Hid (IntKind.i64.wrap (255 * bq) = 255 * bq) := Lib.hid (IntWalk.i64_in _ (by omega))
  have Hv7 : Hid (IntKind.i64.wrap (n * (L - 1) * 16 + 255 * bq) = odN n L bq) := Lib.hid (by rw [← ek]; exact IntWalk.i64_in (odN n L bq) (by omega))
  have Hw8 : Hid (IntKind.i64.wrap ((odN n L bq).tdiv 4080) = odN n L bq / 4080) := Lib.hid (by rw [od_tdiv o3]; exact IntWalk.i64_in _ (by omega))
  have Hbd := Lib.hid (And.intro o5 o6)
  have HR : Hid (Rds .i64 w.drew w.drew.heap.size A (grN W H f)) := Lib.hid hr
  have HlG := Lib.hid hg.lt
  have HlL := Lib.hid hp.lt
  have d0 := cell_of_row w pg 0 _ _ _ hg
  have d1 := cell_of_row w pg 1 _ _ _ hg
  have d2 := cell_of_row w pg 2 _ _ _ hg
  have d3 := cell_of_row w pl 0 _ _ _ hp
  have hyT : (y : Int).tmod 4 = (ym : Int) := by rw [Int.tmod_eq_emod_of_nonneg (by omega)]; omega
  have hxT : (x : Int).tmod 4 = (xm : Int) := by rw [Int.tmod_eq_emod_of_nonneg (by omega)]; omega
  have hyE : (y : Int) % 4 = (ym : Int) := by omega
  have hxE : (x : Int) % 4 = (xm : Int) := by omega
  have hym4 : (ym : Int) < 4 := by omega
  have hxm4 : (xm : Int) < 4 := by omega
  rw [hn, hbq]
  clear hr hg hp hT hn hbq ek o1 o2 o3 o4 o5 o6 hk0 hxm hym
  go_enter Tryd.func20, Tryd.ntmps20
  go_upto_region 2 with fail
  clear t0
  refine wp_region_held_drew (S := (fun w' => w'.cell? ⟨pg, 0, none⟩ = some (.int .i64 (W : Int)) ∧ w'.cell? ⟨pg, 1, none⟩ = some (.int .i64 (H : Int)) ∧ w'.cell? ⟨pg, 2, none⟩ = some (.slice A nn c) ∧ w'.cell? ⟨pl, 0, none⟩ = some (.int .i64 L))) (by kernel_rfl) (by exact ⟨d0, d1, d2, d3⟩) (fun hHeld => ?_)
  refine' wpAnyH_take (i := 0) (oi := _) (v := _) ?hi1 (by kernel_rfl) (by kernel_rfl) (by kernel_rfl) ?hq1 (Or.inl ⟨?hw1, ?hy1⟩) (by assumption) ?rest1
  case hi1 => (simp only [List.getElem?_toArray, List.getElem?_cons_succ, List.getElem?_cons_zero]; rfl)
  case hq1 => exact fun _ _ _ h => h
  case hw1 => rfl
  case hy1 => (intro wq hSw; (try dsimp only at hSw); go_simp; (try with_reducible rfl))
  (try simp only [Act.put, List.setIfInBounds_toArray, List.set_cons_zero, List.set_cons_succ])
  refine' wpAnyH_take (i := 1) (oi := _) (v := _) ?hi2 (by kernel_rfl) (by kernel_rfl) (by kernel_rfl) ?hq2 (Or.inl ⟨?hw2, ?hy2⟩) (by assumption) ?rest2
  case hi2 => (simp only [List.getElem?_toArray, List.getElem?_cons_succ, List.getElem?_cons_zero]; rfl)
  case hq2 => exact fun _ _ _ h => h
  case hw2 => rfl
  case hy2 => (intro wq hSw; (try dsimp only at hSw); go_simp; (try with_reducible rfl))
  (try simp only [Act.put, List.setIfInBounds_toArray, List.set_cons_zero, List.set_cons_succ])
  refine' wpAnyH_take (i := 2) (oi := _) (v := _) ?hi3 (by kernel_rfl) (by kernel_rfl) (by kernel_rfl) ?hq3 (Or.inl ⟨?hw3, ?hy3⟩) (by assumption) ?rest3
  case hi3 => (simp only [List.getElem?_toArray, List.getElem?_cons_succ, List.getElem?_cons_zero]; rfl)
  case hq3 => exact fun _ _ _ h => h
  case hw3 => rfl
  case hy3 => (intro wq hSw; (try dsimp only at hSw); go_simp; (try with_reducible rfl))
  (try simp only [Act.put, List.setIfInBounds_toArray, List.set_cons_zero, List.set_cons_succ])
  refine' wpAnyH_take (i := 4) (oi := _) (v := _) ?hi4 (by kernel_rfl) (by kernel_rfl) (by kernel_rfl) ?hq4 (Or.inl ⟨?hw4, ?hy4⟩) (by assumption) ?rest4
  case hi4 => (simp only [List.getElem?_toArray, List.getElem?_cons_succ, List.getElem?_cons_zero]; rfl)
  case hq4 => exact fun _ _ _ h => h
  case hw4 => rfl
  case hy4 => (intro wq hSw; (try dsimp only at hSw); go_simp; (try with_reducible rfl))
  (try simp only [Act.put, List.setIfInBounds_toArray, List.set_cons_zero, List.set_cons_succ])
  refine' wpAnyH_take (i := 5) (oi := _) (v := Value.int .i64 (L - 1)) ?hi5 (by kernel_rfl) (by kernel_rfl) (by kernel_rfl) ?hq5 (Or.inl ⟨?hw5, ?hy5⟩) (by assumption) ?rest5
  case hi5 => (simp only [List.getElem?_toArray, List.getElem?_cons_succ, List.getElem?_cons_zero]; rfl)
  case hq5 => exact fun _ _ _ h => h
  case hw5 => rfl
  case hy5 => (intro wq hSw; (try dsimp only at hSw); (try go_simp); (first | done | rfl | exact Hw4.out | rw [Hw4.out] | simp [Hw4.out]))
  (try simp only [Act.put, List.setIfInBounds_toArray, List.set_cons_zero, List.set_cons_succ])
  refine' wpAnyH_take (i := 8) (oi := _) (v := _) ?hi6 (by kernel_rfl) (by kernel_rfl) (by kernel_rfl) ?hq6 (Or.inl ⟨?hw6, ?hy6⟩) (by assumption) ?rest6
  case hi6 => (simp only [List.getElem?_toArray, List.getElem?_cons_succ, List.getElem?_cons_zero]; rfl)
  case hq6 => exact fun _ _ _ h => h
  case hw6 => rfl
  case hy6 => (intro wq hSw; (try dsimp only at hSw); go_simp; (try with_reducible rfl))
  (try simp only [Act.put, List.setIfInBounds_toArray, List.set_cons_zero, List.set_cons_succ])
  refine' wpAnyH_take (i := 9) (oi := _) (v := Value.int .i64 (255 * bq)) ?hi7 (by kernel_rfl) (by kernel_rfl) (by kernel_rfl) ?hq7 (Or.inl ⟨?hw7, ?hy7⟩) (by assumption) ?rest7
  case hi7 => (simp only [List.getElem?_toArray, List.getElem?_cons_succ, List.getElem?_cons_zero]; rfl)
  case hq7 => exact fun _ _ _ h => h
  case hw7 => rfl
  case hy7 => (intro wq hSw; (try dsimp only at hSw); (try go_simp); (first | done | rfl | exact Hw6.out | rw [Hw6.out] | simp [Hw6.out]))
  (try simp only [Act.put, List.setIfInBounds_toArray, List.set_cons_zero, List.set_cons_succ])
  refine wpAnyH_ready (rs := [3]) (by kernel_rfl) (by simp) ?_
  refine' AllReadyH.cons (o := _) ?hi8 (fun K hK => ?rest8) AllReadyH.nil
  case hi8 => (simp only [List.getElem?_toArray, List.getElem?_cons_succ, List.getElem?_cons_zero]; rfl)
  go_simp
  go_at_call 21
  refine (atN_any W H nn hnn hW hH A c f x y hx hy w.drew HR.out hc).mono ?_
  rintro e w3 ⟨rfl, hb⟩
  rw [Hn.out]
  have HB3 := Lib.hid hb
  have e0 := (hb.cell (p := ⟨pg, 0, none⟩) HlG.out).trans d0
  have e1 := (hb.cell (p := ⟨pg, 1, none⟩) HlG.out).trans d1
  have e2 := (hb.cell (p := ⟨pg, 2, none⟩) HlG.out).trans d2
  have e3 := (hb.cell (p := ⟨pl, 0, none⟩) HlL.out).trans d3
  clear hb d0 d1 d2 d3
  go_wp2_with fail
  refine hK.out _ _ (by (try dsimp only); exact ⟨e0, e1, e2, e3⟩) (fun hHeld => ?_)
  clear hK K
  (try simp only [Act.put, List.setIfInBounds_toArray, List.set_cons_zero, List.set_cons_succ])
  refine' wpAnyH_take (i := 6) (oi := _) (v := Value.int .i64 (n * (L - 1))) ?hi9 (by kernel_rfl) (by kernel_rfl) (by kernel_rfl) ?hq9 (Or.inl ⟨?hw9, ?hy9⟩) (by assumption) ?rest9
  case hi9 => (simp only [List.getElem?_toArray, List.getElem?_cons_succ, List.getElem?_cons_zero]; rfl)
  case hq9 => exact fun _ _ _ h => h
  case hw9 => rfl
  case hy9 => (intro wq hSw; (try dsimp only at hSw); (try go_simp); (first | done | rfl | exact Hv5.out | rw [Hv5.out] | simp [Hv5.out]))
  (try simp only [Act.put, List.setIfInBounds_toArray, List.set_cons_zero, List.set_cons_succ])
  refine' wpAnyH_take (i := 7) (oi := _) (v := Value.int .i64 (n * (L - 1) * 16)) ?hi10 (by kernel_rfl) (by kernel_rfl) (by kernel_rfl) ?hq10 (Or.inl ⟨?hw10, ?hy10⟩) (by assumption) ?rest10
  case hi10 => (simp only [List.getElem?_toArray, List.getElem?_cons_succ, List.getElem?_cons_zero]; rfl)
  case hq10 => exact fun _ _ _ h => h
  case hw10 => rfl
  case hy10 => (intro wq hSw; (try dsimp only at hSw); (try go_simp); (first | done | rfl | exact Hv6.out | rw [Hv6.out] | simp [Hv6.out]))
  (try simp only [Act.put, List.setIfInBounds_toArray, List.set_cons_zero, List.set_cons_succ])
  refine' wpAnyH_take (i := 10) (oi := _) (v := Value.int .i64 (odN n L bq)) ?hi11 (by kernel_rfl) (by kernel_rfl) (by kernel_rfl) ?hq11 (Or.inl ⟨?hw11, ?hy11⟩) (by assumption) ?rest11
  case hi11 => (simp only [List.getElem?_toArray, List.getElem?_cons_succ, List.getElem?_cons_zero]; rfl)
  case hq11 => exact fun _ _ _ h => h
  case hw11 => rfl
  case hy11 => (intro wq hSw; (try dsimp only at hSw); (try go_simp); (first | done | rfl | exact Hv7.out | rw [Hv7.out] | simp [Hv7.out]))
  (try simp only [Act.put, List.setIfInBounds_toArray, List.set_cons_zero, List.set_cons_succ])
  refine' wpAnyH_take (i := 11) (oi := _) (v := Value.int .i64 (odN n L bq / 4080)) ?hi12 (by kernel_rfl) (by kernel_rfl) (by kernel_rfl) ?hq12 (Or.inl ⟨?hw12, ?hy12⟩) (by assumption) ?rest12
  case hi12 => (simp only [List.getElem?_toArray, List.getElem?_cons_succ, List.getElem?_cons_zero]; rfl)
  case hq12 => exact fun _ _ _ h => h
  case hw12 => rfl
  case hy12 => (intro wq hSw; (try dsimp only at hSw); (try go_simp); (first | done | rfl | exact Hw8.out | rw [Hw8.out] | simp [Hw8.out]))
  (try simp only [Act.put, List.setIfInBounds_toArray, List.set_cons_zero, List.set_cons_succ])
  refine' wpAnyH_take (i := 12) (oi := _) (v := _) ?hi13 (by kernel_rfl) (by kernel_rfl) (by kernel_rfl) ?hq13 (Or.inl ⟨?hw13, ?hy13⟩) (by assumption) ?rest13
  case hi13 => (simp only [List.getElem?_toArray, List.getElem?_cons_succ, List.getElem?_cons_zero]; rfl)
  case hq13 => exact fun _ _ _ h => h
  case hw13 => rfl
  case hy13 => (intro wq hSw; (try dsimp only at hSw); go_simp; (try with_reducible rfl))
  (try simp only [Act.put, List.setIfInBounds_toArray, List.set_cons_zero, List.set_cons_succ])
  refine wpAnyH_done (by kernel_rfl) ?_ _
  clear e0 e1 e2
  go_wp2_with fail
  refine (iLvl_any (odN n L bq / 4080) L w3 Hbd.out.1 (by have := Hbd.out.2; omega) hL2 hL16).mono ?_
  rintro e w4 ⟨rfl, rfl⟩
  go_wp2
  go_ret
  exact ⟨rfl, ⟨HB3.out.os, HB3.out.tape, HB3.out.output, HB3.out.size, HB3.out.block⟩⟩
set_option maxHeartbeats 16000000 in
theorem i_OrderImage (W H P L : Int) (A : Option Addr) (c : Nat) (xs : List Int) (w : World) (hx : Rds .i64 w w.heap.size A xs) (hl : xs.length ≤ 2000000) (hlc : xs.length ≤ c) (hT : Tab w) :
    Calls Tryd.prog 6 #[.agg #[.int .i64 W, .int .i64 H, .int .i64 P, .slice A xs.length c], .int .i64 L] w (MadeIb (odB W H P xs L) W H P (odL W.toNat H.toNat xs L) w) := by
  have HX := Lib.hid hx
  have HTT := Lib.hid hT
  have Eg : Hid (∀ args w, (callFunc 20 args).run Tryd.prog w = .ok (.enter 20 args) w) := Lib.hid (enters_of Tryd.func20 (by kernel_rfl) rfl)
  clear hx hT
  have S0 := (((GS.start w).box' 25 #[.int .i64 W, .int .i64 H, .int .i64 P, .slice A xs.length c] w.heap.size (by simp)).box' 3 #[.int .i64 L] (w.heap.size + 1) (by simp)).box' 25 #[.int .i64 0, .int .i64 0, .int .i64 0, .slice none 0 0] (w.heap.size + 2) (by simp)
  go_enter Tryd.func6, Tryd.ntmps6
  go_wp2_with fail
  generalize ((w.alloc (.cells #[.int .i64 W, .int .i64 H, .int .i64 P, .slice A xs.length c] 25)).alloc (.cells #[.int .i64 L] 3)).alloc (.cells #[.int .i64 0, .int .i64 0, .int .i64 0, .slice none 0 0] 25) = u0 at *
  refine (iDith_any W H P L A c xs u0 (S0.arg HX.out) hl).mono ?_
  rintro e u1 ⟨rfl, hB⟩
  have HS := Lib.hid (S0.call hB)
  clear hB S0
  cases hok : odB W H P xs L
  · have HF0 := Lib.hid hok
    obtain ⟨r0, r1, r2, r3⟩ := HS.out.b0_4
    have f0 := HS.out.f0 0
    have f1 := HS.out.f0 1
    have f2 := HS.out.f0 2
    have f3 := HS.out.f0 3
    have HE := Lib.hid (HS.out.e0_4 (.int .i64 0) (.int .i64 0) (.int .i64 0) (.slice none 0 0)).1
    clear HS hok
    go_wp2
    exact bodyPost_ret (v := .tuple #[.agg #[.int .i64 0, .int .i64 0, .int .i64 0, .slice none 0 0], .bool false]) (by simp [results, Tryd.results6, go_sem, r0, r1, r2, r3]) rfl ⟨_, (by first | rfl | (rw [HF0.out]; rfl)), (by first | exact World.ownsRow_nil _ _ _ _ | (rw [HF0.out]; exact World.ownsRow_nil _ _ _ _)), HE.out⟩
  · have HF1 := Lib.hid hok
    have hq := hok
    unfold odB vpl at hq
    rw [Bool.and_eq_true, Bool.and_eq_true, decide_eq_true_eq] at hq
    obtain ⟨⟨hv, hP⟩, hlv⟩ := hq
    subst hP
    obtain ⟨hL2, hL16⟩ : 2 ≤ L ∧ L ≤ 16 := of_decide_eq_true hlv
    have HB := Lib.hid (bytes_of hv)
    obtain ⟨W, H, P1, rfl, rfl, hP1, hW1, hW, hH1, hH, _, _, hll, -⟩ := vim_nat hv
    obtain rfl : P1 = 1 := by omega
    have HLn := Lib.hid hll
    have HF : Hid (∀ x y, x < W → y < H → 0 ≤ px W 1 xs x y 0 ∧ px W 1 xs x y 0 ≤ 255) := Lib.hid (fun x y hx hy => by
      unfold px
      exact HB.out _ (by rw [HLn.out]; exact pix_lt hx hy (by omega)))
    clear hv hlv hP1 hll hok
    obtain ⟨b0, b1, b2, b3⟩ := HS.out.b2_4
    go_wp2_with fail
    refine (iPlane_any W H 1 0 hW hH (by omega) (by omega) A c xs HLn.out u1 (HS.out.arg HX.out)).mono ?_
    rintro e u2 ⟨v, rfl, hO, hB⟩
    have hlen : (img W H 1 (fun x y _ => px W 1 xs x y 0)).length = W * H := by rw [img_len, Nat.mul_one]
    obtain ⟨A6, c6, rfl, hc6⟩ := hO.slice
    rw [hlen] at hO hc6 ⊢
    clear hlen
    obtain ⟨q, hq⟩ : ∃ q, q = u2.heap.size := ⟨_, rfl⟩
    have HS3 := Lib.hid ((HS.out.add hO hB).box' 40 #[.int .i64 (W : Int), .int .i64 (H : Int), .slice A6 (W * H) c6] q hq)
    have hR6 := hO.rds
    clear hO hB b0 b1 b2 b3 HS
    obtain ⟨b0, b1, b2, b3⟩ := HS3.out.b3_4
    obtain ⟨u3, hu3⟩ : ∃ z : World, z = u2.alloc (.cells #[.int .i64 (W : Int), .int .i64 (H : Int), .slice A6 (W * H) c6] 40) := ⟨_, rfl⟩
    have HR3 : Hid (Rds .i64 u3 u3.heap.size A6 (grN W H (fun x y => px W 1 xs x y 0))) := Lib.hid (by rw [hu3]; exact (hR6.2.alloc (Nat.le_refl _) _).more (by simp))
    rw [← hu3] at HS3
    have HU3 := Lib.hid hu3
    have Hq := Lib.hid hq
    clear hu3 hR6 hq
    go_wp2_with fail
    rw [← HU3.out, ← Hq.out]
    clear HU3 Hq b0 b1 b2 b3
    refine (buildN_any W H hW hH 20 #[.pointer (some ⟨q, 0, none⟩), .pointer (some ⟨w.heap.size + 1, 0, none⟩)] (fun x y => odV (px W 1 xs x y 0) L (bay x y)) u3 Eg.out (fun x y w' hx hy hb => iOrd1_any W H (W * H) rfl hW hH A6 c6 (fun x y => px W 1 xs x y 0) L hL2 hL16 x y hx hy (HF.out x y hx hy) q (w.heap.size + 1) w' ((HR3.out.below hb).more hb.size) hc6 ((HS3.out.call hb).bx (by simp)) ((HS3.out.call hb).bx (by simp)) (HTT.out.below (HS3.out.call hb).below))).mono ?_
    rintro e u4 ⟨v7, rfl, hO7, hB7⟩
    have hlen7 : (img W H 1 (fun x y _ => (fun x y => odV (px W 1 xs x y 0) L (bay x y)) x y)).length = W * H := by rw [img_len, Nat.mul_one]
    obtain ⟨A7, c7, rfl, hc7⟩ := hO7.slice
    rw [hlen7] at hO7 hc7 ⊢
    clear hlen7
    have HS4 := Lib.hid (HS3.out.add hO7 hB7)
    have HR7 := Lib.hid hO7.rds.2
    obtain ⟨s, hs⟩ : ∃ s, s = u4.heap.size := ⟨_, rfl⟩
    obtain ⟨u5, hu5⟩ : ∃ z : World, z = u4.alloc (.cells #[.int .i64 (W : Int), .int .i64 (H : Int), .slice A7 (W * H) c7] 40) := ⟨_, rfl⟩
    have HS5 := Lib.hid (HS4.out.box' 40 #[.int .i64 (W : Int), .int .i64 (H : Int), .slice A7 (W * H) c7] s hs)
    rw [← hu5] at HS5
    have HR5 : Hid (Rds .i64 u5 u5.heap.size A7 (img W H 1 (fun x y _ => odV (px W 1 xs x y 0) L (bay x y)))) := Lib.hid (by rw [hu5]; exact (HR7.out.alloc (Nat.le_refl _) _).more (by simp))
    have HU5 := Lib.hid hu5
    have Hs := Lib.hid hs
    clear hO7 hB7 hu5 hs HS3 HR3 HS4
    go_wp2_with fail
    rw [← HU5.out, ← Hs.out]
    clear HU5 Hs
    obtain ⟨c0, c1, c2⟩ := HS5.out.c3 (g := s) (T := 40) (a0 := .int .i64 (W : Int)) (a1 := .int .i64 (H : Int)) (a2 := .slice A7 (W * H) c7) (by simp)
    refine (join_any W H 1 hW1 hW hH1 hH (by omega) (by omega) s 0 1 (fun x y _ => odV (px W 1 xs x y 0) L (bay x y)) (fun _ => A7) (fun _ => c7) u5 HS5.out.l0 (fun i hi => by obtain rfl : i = 0 := (by omega); exact ⟨c0, c1, c2⟩) (fun i hi => ⟨HR5.out, hc7⟩)).mono ?_
    rintro e u6 ⟨v9, rfl, hO9, hB9⟩
    obtain ⟨A9, c9, rfl, _⟩ := hO9.slice
    have HS6 := Lib.hid (HS5.out.add hO9 hB9)
    clear hO9 hB9 HS5 c0 c1 c2
    obtain ⟨r0, r1, r2, r3⟩ := HS6.out.b2_4
    have f0 := HS6.out.f2 0
    have f1 := HS6.out.f2 1
    have f2 := HS6.out.f2 2
    have f3 := HS6.out.f2 3
    have HE := Lib.hid (HS6.out.e2_4 (.int .i64 (W : Int)) (.int .i64 (H : Int)) (.int .i64 1) (.slice A9 (img W H 1 (fun x y _ => odV (px W 1 xs x y 0) L (bay x y))).length c9))
    clear HS6
    go_wp2
    exact bodyPost_ret (v := .tuple #[.agg #[.int .i64 (W : Int), .int .i64 (H : Int), .int .i64 1, .slice A9 (img W H 1 (fun x y _ => odV (px W 1 xs x y 0) L (bay x y))).length c9], .bool true]) (by simp [results, Tryd.results6, go_sem, r0, r1, r2, r3]) rfl ⟨_, (by first | rfl | (rw [HF1.out]; rfl)), (by first | exact HE.out.2 _ (List.Mem.head _) | (rw [HF1.out]; exact HE.out.2 _ (List.Mem.head _))), HE.out.1⟩
end Go.Proofs.YtdmdgdmnbgchoaaDoor
