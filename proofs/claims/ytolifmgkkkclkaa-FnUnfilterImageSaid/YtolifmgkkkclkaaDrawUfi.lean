/- Contract of the drawing of UnfilterImage's arguments. -/
import Derived.Test.YtolifmgkkkclkaaDrawImg2
import Derived.Test.YtolifmgkkkclkaaSpoil
import Derived.Test.YtolifmgkkkclkaaFlS
import Derived.Deep.RegionHeld3
namespace Go.Proofs.Ytolifmgkkkclkaa
open Go.RowKit Go.Shelf
set_option linter.unusedSimpArgs false
set_option linter.unusedVariables false
set_option maxRecDepth 20000

theorem resUf {fn : Func} {t u v x : Tmp} (h : fn.results = #[.tmp t, .tmp u, .tmp v, .tmp x]) (tmps : Array Value) (P : Program) (w : World) :
    (results fn tmps).run P w = .ok (.tuple #[tmps.getD t undef, tmps.getD u undef, tmps.getD v undef, tmps.getD x undef]) w := by simp [results, h]
theorem fim_bdU (W H P : Int) (xs : List Int) : (fimV W H P xs).length ≤ 2000 := by
  unfold fimV
  cases h : vim W H P xs
  · simp
  · obtain ⟨W, H, P, rfl, rfl, rfl, hW1, hW, hH1, hH, hP1, hP, hln, hby⟩ := vim_nat h
    show (fiL (W * P) P xs H).length ≤ 2000
    rw [fiL_len]
    have h64 : W * P ≤ 64 := Nat.mul_le_mul hW hP
    have := Nat.mul_le_mul hH (show W * P + 1 ≤ 65 by omega)
    omega
/-- Drawn from a code: a shape and a list of few numbers. -/
def DrawnUf (w : World) (e : Ending) (w' : World) : Prop :=
  ∃ (W H P : Int) (A : Option Addr) (c : Nat) (xs : List Int), e = .returned (.tuple #[.int .i64 W, .int .i64 H, .int .i64 P, .slice A xs.length c]) ∧ xs.length ≤ 2001 ∧ xs.length ≤ c ∧ Rds .i64 w' w'.heap.size A xs ∧ Below w.heap.size w w'
/-- What is known ahead of the last step. -/
def UfV (w V : World) (g M : Nat) (A : Option Addr) (zs : List Int) (b7 : Nat) (cs : Array Value) : Prop :=
  Rdr V g M ∧ Rds .i64 V V.heap.size A zs ∧ Bx V b7 25 cs ∧ Below w.heap.size w V
set_option maxHeartbeats 8000000 in
theorem drawUfi_any (A : Option Addr) (c : Nat) (bs : List Int) (w : World) (hc : bs.length ≤ c) (h : Rdw .u8 w w.heap.size A bs) :
    Calls Try.prog 13 #[.slice A bs.length c] w (DrawnUf w) := by
  go_enter Try.func13, Try.ntmps13
  go_wp2_with fail
  refine (newReader_any A c bs w hc h).mono ?_
  rintro e w1 ⟨rfl, hr1, hb1, hs1⟩
  obtain ⟨g, hg⟩ : ∃ g, g = w.heap.size := ⟨_, rfl⟩
  rw [← hg] at hr1 ⊢
  have Hgw := Lib.hid hg
  clear h hg
  go_wp2_with fail
  refine (anyImage_any g 0 w1 hr1 (by omega)).mono ?_
  rintro e w3 ⟨W3, H3, P3, A3, c3, ys, rfl, hy, hyc, hr3, hR3, hG3, hA3⟩
  have hb3 : Below w.heap.size w w3 := hb1.grown hG3 hb1.size (fun k hk => by injection hk with hk; have := Hgw.out; omega)
  obtain ⟨b7, hb7⟩ : ∃ b, b = w3.heap.size := ⟨_, rfl⟩
  obtain ⟨u4, hu4⟩ : ∃ u4, u4 = w3.alloc (.cells #[.int .i64 W3, .int .i64 H3, .int .i64 P3, .slice A3 ys.length c3] 25) := ⟨_, rfl⟩
  have hb4 : Below w.heap.size w u4 := by rw [hu4]; exact hb3.alloc hb3.size _
  have HR4 : Hid (Rdr u4 g 304) := Lib.hid (by rw [hu4]; exact hR3.alloc _)
  have HT4 : Hid (Bx u4 b7 25 (imC W3 H3 P3 (.slice A3 ys.length c3))) := Lib.hid (by rw [hu4, hb7]; exact Bx.new w3 _ _)
  have HY4 : Hid (Rds .i64 u4 u4.heap.size A3 ys) := Lib.hid (by rw [hu4]; exact (hr3.alloc (Nat.le_refl _) _).more (by simp))
  have Hb7 : Hid (g < b7 ∧ b7 < u4.heap.size ∧ w.heap.size ≤ g) := Lib.hid ⟨by rw [hb7]; exact hR3.lt, HT4.out.lt, by have := Hgw.out; omega⟩
  have HB4 := Lib.hid hb4
  have HU4 := Lib.hid hu4
  have HU7 := Lib.hid hb7
  obtain ⟨m0, m1, m2, m3⟩ := HT4.out.im
  clear hr1 hb1 hs1 hr3 hR3 hG3 hA3 hb3 hb4 hb7 hu4
  go_wp2_with (fail)
  (try rw [← HU4.out])
  (try rw [← HU7.out])
  go_wp2_with (fail)
  refine (s_FilterImage W3 H3 P3 A3 c3 ys u4 HY4.out (by omega) hyc).mono ?_
  rintro e V ⟨v5, rfl, hO5, hB5⟩
  obtain ⟨A5, c5, rfl, hc5⟩ := hO5.slice
  have HO5 := Lib.hid hO5
  obtain ⟨zs, hzs⟩ : ∃ zs, zs = fimV W3 H3 P3 ys := ⟨_, rfl⟩
  have hzb : zs.length ≤ 2000 := by rw [hzs]; exact fim_bdU _ _ _ _
  rw [← hzs] at HO5 hc5 ⊢
  obtain ⟨M, hM⟩ : ∃ M, M = 304 := ⟨_, rfl⟩
  have hM1 : M ≤ 1000 := by omega
  rw [← hM] at HR4
  have HV : Hid (UfV w V g M A5 zs b7 (imC W3 H3 P3 (.slice A3 ys.length c3))) := Lib.hid ⟨HR4.out.below hB5 (by have := Hb7.out; omega), HO5.out.rds.2, HT4.out.below hB5, HB4.out.trans (hB5.mono HB4.out.size)⟩
  obtain ⟨n, hn⟩ : ∃ n, n = zs.length := ⟨_, rfl⟩
  have Hzl : Hid (n = zs.length ∧ n ≤ 2000) := Lib.hid ⟨hn, by omega⟩
  have Hbd : Hid (∀ a, A5 = some a → u4.heap.size ≤ a.block) := Lib.hid (fun a ha => by subst ha; exact (HO5.out.lt a.block rfl).1)
  rw [← hn] at hc5 ⊢
  clear hO5 hB5 hM HR4 HT4 HY4 HB4 HU4 HU7 hzs hzb m0 m1 m2 m3 hn
  have HSp : Hid (∀ (u : World) (M' : Nat) (zs' : List Int), zs'.length = n → M' ≤ 2000 → Rdr u g M' → Rds .i64 u u.heap.size A5 zs' → Calls Try.prog 36 #[.pointer (some ⟨g, 0, none⟩), .slice A5 n c5, .int .i64 256] u (Spoiled n g (M' + 3) u)) := Lib.hid (fun u M' zs' hl hm h1 h2 => by
    have := spoil_any A5 c5 zs' 256 g M' u h1 (by omega) h2 (by have := Hzl.out; omega)
    rw [hl] at this
    exact this)
  by_cases hn0 : n = 0
  · subst hn0
    have hzl : zs.length = 0 := Hzl.out.1.symm
    have Hzz := Lib.hid hzl
    clear hzl
    obtain ⟨m0, m1, m2, m3⟩ := HV.out.2.2.1.im
    have m0 : V.drew.cell? _ = _ := m0
    have m1 : V.drew.cell? _ = _ := m1
    have m2 : V.drew.cell? _ = _ := m2
    go_upto_region 6 with fail
    refine wp_region_held_drew (S := (fun w' => w'.cell? ⟨b7, 0, none⟩ = some (.int .i64 W3) ∧ w'.cell? ⟨b7, 1, none⟩ = some (.int .i64 H3) ∧ w'.cell? ⟨b7, 2, none⟩ = some (.int .i64 P3))) (by kernel_rfl) (by exact ⟨m0, m1, m2⟩) (fun hHeld => ?_)
    refine' wpAnyH_take (i := 0) (oi := _) (v := _) ?hi1 (by kernel_rfl) (by kernel_rfl) (by kernel_rfl) ?hq1 (Or.inl ⟨?hw1, ?hy1⟩) (by assumption) ?rest1
    case hi1 => (simp only [List.getElem?_toArray, List.getElem?_cons_succ, List.getElem?_cons_zero]; rfl)
    case hq1 => exact fun _ _ _ h => h
    case hw1 => rfl
    case hy1 => (intro wq hSw; (try dsimp only at hSw); go_simp; (try with_reducible rfl))
    (try simp only [Act.put, List.setIfInBounds_toArray, List.set_cons_zero, List.set_cons_succ])
    refine' wpAnyH_take (i := 1) (oi := _) (v := _) ?hi2 (by kernel_rfl) (by kernel_rfl) (by kernel_rfl) ?hq2 (Or.inl ⟨?hw2, ?hy2⟩) (by assumption) ?rest2
    case hi2 => (simp only [List.getElem?_toArray, List.getElem?_cons_succ, List.getElem?_cons_zero]; rfl)
    case hq2 => exact fun _ _ _ h => h
    case hw2 => rfl
    case hy2 => (intro wq hSw; (try dsimp only at hSw); go_simp; (try with_reducible rfl))
    (try simp only [Act.put, List.setIfInBounds_toArray, List.set_cons_zero, List.set_cons_succ])
    refine' wpAnyH_take (i := 2) (oi := _) (v := _) ?hi3 (by kernel_rfl) (by kernel_rfl) (by kernel_rfl) ?hq3 (Or.inl ⟨?hw3, ?hy3⟩) (by assumption) ?rest3
    case hi3 => (simp only [List.getElem?_toArray, List.getElem?_cons_succ, List.getElem?_cons_zero]; rfl)
    case hq3 => exact fun _ _ _ h => h
    case hw3 => rfl
    case hy3 => (intro wq hSw; (try dsimp only at hSw); go_simp; (try with_reducible rfl))
    (try simp only [Act.put, List.setIfInBounds_toArray, List.set_cons_zero, List.set_cons_succ])
    refine' wpAnyH_take (i := 3) (oi := _) (v := _) ?hi4 (by kernel_rfl) (by kernel_rfl) (by kernel_rfl) ?hq4 (Or.inl ⟨?hw4, ?hy4⟩) (by assumption) ?rest4
    case hi4 => (simp only [List.getElem?_toArray, List.getElem?_cons_succ, List.getElem?_cons_zero]; rfl)
    case hq4 => exact fun _ _ _ h => h
    case hw4 => rfl
    case hy4 => (intro wq hSw; (try dsimp only at hSw); go_simp; (try with_reducible rfl))
    (try simp only [Act.put, List.setIfInBounds_toArray, List.set_cons_zero, List.set_cons_succ])
    refine' wpAnyH_take (i := 4) (oi := _) (v := _) ?hi5 (by kernel_rfl) (by kernel_rfl) (by kernel_rfl) ?hq5 (Or.inl ⟨?hw5, ?hy5⟩) (by assumption) ?rest5
    case hi5 => (simp only [List.getElem?_toArray, List.getElem?_cons_succ, List.getElem?_cons_zero]; rfl)
    case hq5 => exact fun _ _ _ h => h
    case hw5 => rfl
    case hy5 => (intro wq hSw; (try dsimp only at hSw); go_simp; (try with_reducible rfl))
    (try simp only [Act.put, List.setIfInBounds_toArray, List.set_cons_zero, List.set_cons_succ])
    refine' wpAnyH_take (i := 5) (oi := _) (v := _) ?hi6 (by kernel_rfl) (by kernel_rfl) (by kernel_rfl) ?hq6 (Or.inl ⟨?hw6, ?hy6⟩) (by assumption) ?rest6
    case hi6 => (simp only [List.getElem?_toArray, List.getElem?_cons_succ, List.getElem?_cons_zero]; rfl)
    case hq6 => exact fun _ _ _ h => h
    case hw6 => rfl
    case hy6 => (intro wq hSw; (try dsimp only at hSw); go_simp; (try with_reducible rfl))
    (try simp only [Act.put, List.setIfInBounds_toArray, List.set_cons_zero, List.set_cons_succ])
    refine' wpAnyH_take (i := 6) (oi := _) (v := _) ?hi7 (by kernel_rfl) (by kernel_rfl) (by kernel_rfl) ?hq7 (Or.inl ⟨?hw7, ?hy7⟩) (by assumption) ?rest7
    case hi7 => (simp only [List.getElem?_toArray, List.getElem?_cons_succ, List.getElem?_cons_zero]; rfl)
    case hq7 => exact fun _ _ _ h => h
    case hw7 => rfl
    case hy7 => (intro wq hSw; (try dsimp only at hSw); go_simp; (try with_reducible rfl))
    (try simp only [Act.put, List.setIfInBounds_toArray, List.set_cons_zero, List.set_cons_succ])
    refine' wpAnyH_take (i := 7) (oi := _) (v := _) ?hi8 (by kernel_rfl) (by kernel_rfl) (by kernel_rfl) ?hq8 (Or.inl ⟨?hw8, ?hy8⟩) (by assumption) ?rest8
    case hi8 => (simp only [List.getElem?_toArray, List.getElem?_cons_succ, List.getElem?_cons_zero]; rfl)
    case hq8 => exact fun _ _ _ h => h
    case hw8 => rfl
    case hy8 => (intro wq hSw; (try dsimp only at hSw); go_simp; (try with_reducible rfl))
    (try simp only [Act.put, List.setIfInBounds_toArray, List.set_cons_zero, List.set_cons_succ])
    refine wpAnyH_ready (rs := [8]) (by kernel_rfl) (by simp) ?_
    refine' AllReadyH.cons (o := _) ?hi9 (fun K hK => ?rest9) AllReadyH.nil
    case hi9 => (simp only [List.getElem?_toArray, List.getElem?_cons_succ, List.getElem?_cons_zero]; rfl)
    go_simp
    go_at_call 36
    refine (HSp.out V.drew M zs Hzz.out (by omega) (by exact HV.out.1) (by exact HV.out.2.1)).mono ?_
    rintro e u7 ⟨A7, c7, q, rfl, hqc, hql, hq7, hR7, hG7, hA7⟩
    have HT7 := Lib.hid (bx_gr (w := V.drew) HV.out.2.2.1 hG7 (by have := Hb7.out; omega))
    clear m0 m1 m2 m3
    obtain ⟨m0, m1, m2, m3⟩ := HT7.out.im
    have HE : Hid (DrawnUf w (.returned (.tuple #[.int .i64 W3, .int .i64 H3, .int .i64 P3, .slice A7 q.length c7])) u7) := Lib.hid ⟨W3, H3, P3, A7, c7, q, rfl, by have := Hzl.out; omega, hqc, hq7, (show Below w.heap.size w V.drew from HV.out.2.2.2.drew).grown hG7 HV.out.2.2.2.size (fun k hk => by injection hk with hk; have := Hb7.out; omega)⟩
    clear hqc hql hq7 hR7 hG7 hA7 HT7
    go_wp2_with fail
    refine hK.out _ _ (by (try dsimp only); exact ⟨m0, m1, m2⟩) (fun hHeld => ?_)
    clear hK K
    (try simp only [Act.put, List.setIfInBounds_toArray, List.set_cons_zero, List.set_cons_succ])
    refine' wpAnyH_take (i := 9) (oi := _) (v := _) ?hi10 (by kernel_rfl) (by kernel_rfl) (by kernel_rfl) ?hq10 (Or.inl ⟨?hw10, ?hy10⟩) (by assumption) ?rest10
    case hi10 => (simp only [List.getElem?_toArray, List.getElem?_cons_succ, List.getElem?_cons_zero]; rfl)
    case hq10 => exact fun _ _ _ h => h
    case hw10 => rfl
    case hy10 => (intro wq hSw; (try dsimp only at hSw); go_simp; (try with_reducible rfl))
    (try simp only [Act.put, List.setIfInBounds_toArray, List.set_cons_zero, List.set_cons_succ])
    refine' wpAnyH_take (i := 10) (oi := _) (v := _) ?hi11 (by kernel_rfl) (by kernel_rfl) (by kernel_rfl) ?hq11 (Or.inl ⟨?hw11, ?hy11⟩) (by assumption) ?rest11
    case hi11 => (simp only [List.getElem?_toArray, List.getElem?_cons_succ, List.getElem?_cons_zero]; rfl)
    case hq11 => exact fun _ _ _ h => h
    case hw11 => rfl
    case hy11 => (intro wq hSw; (try dsimp only at hSw); go_simp; (try with_reducible rfl))
    (try simp only [Act.put, List.setIfInBounds_toArray, List.set_cons_zero, List.set_cons_succ])
    refine' wpAnyH_take (i := 11) (oi := _) (v := _) ?hi12 (by kernel_rfl) (by kernel_rfl) (by kernel_rfl) ?hq12 (Or.inl ⟨?hw12, ?hy12⟩) (by assumption) ?rest12
    case hi12 => (simp only [List.getElem?_toArray, List.getElem?_cons_succ, List.getElem?_cons_zero]; rfl)
    case hq12 => exact fun _ _ _ h => h
    case hw12 => rfl
    case hy12 => (intro wq hSw; (try dsimp only at hSw); go_simp; (try with_reducible rfl))
    (try simp only [Act.put, List.setIfInBounds_toArray, List.set_cons_zero, List.set_cons_succ])
    refine' wpAnyH_take (i := 12) (oi := _) (v := _) ?hi13 (by kernel_rfl) (by kernel_rfl) (by kernel_rfl) ?hq13 (Or.inl ⟨?hw13, ?hy13⟩) (by assumption) ?rest13
    case hi13 => (simp only [List.getElem?_toArray, List.getElem?_cons_succ, List.getElem?_cons_zero]; rfl)
    case hq13 => exact fun _ _ _ h => h
    case hw13 => rfl
    case hy13 => (intro wq hSw; (try dsimp only at hSw); go_simp; (try with_reducible rfl))
    (try simp only [Act.put, List.setIfInBounds_toArray, List.set_cons_zero, List.set_cons_succ])
    refine wpAnyH_done (by kernel_rfl) ?_ _
    go_wp2
    refine bodyPost_ret (resUf rfl _ _ _) rfl ?_
    exact HE.out
  · have hn1 : 0 < n := by omega
    have hn2 : (n : Int) > 0 := by omega
    obtain ⟨g5, rfl⟩ : ∃ g5, A5 = some ⟨g5, 0, none⟩ := by
      obtain ⟨g5, c9, h1, _⟩ := HO5.out.form (by have := Hzl.out; omega)
      injection h1 with h1
      exact ⟨g5, h1⟩
    have Hg5 : Hid (u4.heap.size ≤ g5) := Lib.hid (Hbd.out _ rfl)
    have Hzz : Hid (zs.length = n) := Lib.hid Hzl.out.1.symm
    go_wp2_with fail
    refine (pick_any 4 g M V HV.out.1 (by omega) (by omega)).mono ?_
    intro e V2 hp
    obtain ⟨k, rfl, hk, hR2, hG2, hs2⟩ := picked_nat hp (by omega)
    have HO2 : Hid (Own V2 u4.heap.size (.slice (some ⟨g5, 0, none⟩) zs.length c5) zs) := Lib.hid (HO5.out.off hG2 (by have := Hb7.out; omega))
    have HV2 : Hid (UfV w V2 g (M + 1) (some ⟨g5, 0, none⟩) zs b7 (imC W3 H3 P3 (.slice A3 ys.length c3))) := Lib.hid ⟨hR2, HO2.out.rds.2, bx_gr HV.out.2.2.1 hG2 (by have := Hb7.out; omega), HV.out.2.2.2.grown hG2 HV.out.2.2.2.size (fun k hk => by injection hk with hk; have := Hb7.out; omega)⟩
    clear hp hR2 hG2 hs2 HV HO5
    obtain ⟨M2, hM2⟩ : ∃ M2, M2 = M + 1 := ⟨_, rfl⟩
    have hM21 : M2 ≤ 1001 := by omega
    rw [← hM2] at HV2
    clear hM2
    by_cases hk0 : k = 0
    · subst hk0
      go_wp2_with fail
      refine (one_litB _ [0, 1, 2, 3, 4, 5] 6 6 _ g M2 V2 rfl (by exact HV2.out.1) (by omega) (by simp) (by simp) rfl rfl).mono ?_
      rintro e V3 ⟨v, rfl, hv, hR3, hG3⟩
      have HO3 : Own V3 u4.heap.size (.slice (some ⟨g5, 0, none⟩) zs.length c5) zs := HO2.out.off hG3 (by have := Hb7.out; omega)
      have hcw := HO3.cell rfl (j := 0) (by have := Hzz.out; omega)
      have hfw := HO3.frozen rfl 0
      have hput := HO3.put rfl 0 v
      have hb9 := Hb7.out
      have hg9 := Hg5.out
      have HV4 : Hid (UfV w (V3.setCell ⟨g5, 0, none⟩ (.int .i64 v)) g (M2 + 1) (some ⟨g5, 0, none⟩) (zs.set 0 v) b7 (imC W3 H3 P3 (.slice A3 ys.length c3))) := Lib.hid ⟨hR3.grown hput.2 (fun k hk => by injection hk with hk; omega), (by have h9 := hput.1.rds.2; simpa using h9), (hput.2.block b7 (bx_gr HV2.out.2.2.1 hG3 (by omega)).lt (fun e => by injection e with e; omega)).trans (bx_gr HV2.out.2.2.1 hG3 (by omega)), ((HV2.out.2.2.2.grown hG3 HV2.out.2.2.2.size (fun k hk => by injection hk with hk; omega)).grown hput.2 (Nat.le_trans HV2.out.2.2.2.size hG3.size) (fun k hk => by injection hk with hk; omega))⟩
      have Hzz2 : Hid ((zs.set 0 v).length = n) := Lib.hid (by simp [Hzz.out])
      generalize hz0 : zs.getD 0 0 = z0 at *
      clear hz0 hv hR3 hG3 HO3 hput HO2 HV2 hb9 hg9
      go_wp2_with fail
      generalize V3.setCell ⟨g5, 0, none⟩ (.int .i64 v) = V4 at *
      obtain ⟨m0, m1, m2, m3⟩ := HV4.out.2.2.1.im
      have m0 : V4.drew.cell? _ = _ := m0
      have m1 : V4.drew.cell? _ = _ := m1
      have m2 : V4.drew.cell? _ = _ := m2
      go_upto_region 6 with fail
      refine wp_region_held_drew (S := (fun w' => w'.cell? ⟨b7, 0, none⟩ = some (.int .i64 W3) ∧ w'.cell? ⟨b7, 1, none⟩ = some (.int .i64 H3) ∧ w'.cell? ⟨b7, 2, none⟩ = some (.int .i64 P3))) (by kernel_rfl) (by exact ⟨m0, m1, m2⟩) (fun hHeld => ?_)
      refine' wpAnyH_take (i := 0) (oi := _) (v := _) ?hi27 (by kernel_rfl) (by kernel_rfl) (by kernel_rfl) ?hq27 (Or.inl ⟨?hw27, ?hy27⟩) (by assumption) ?rest27
      case hi27 => (simp only [List.getElem?_toArray, List.getElem?_cons_succ, List.getElem?_cons_zero]; rfl)
      case hq27 => exact fun _ _ _ h => h
      case hw27 => rfl
      case hy27 => (intro wq hSw; (try dsimp only at hSw); go_simp; (try with_reducible rfl))
      (try simp only [Act.put, List.setIfInBounds_toArray, List.set_cons_zero, List.set_cons_succ])
      refine' wpAnyH_take (i := 1) (oi := _) (v := _) ?hi28 (by kernel_rfl) (by kernel_rfl) (by kernel_rfl) ?hq28 (Or.inl ⟨?hw28, ?hy28⟩) (by assumption) ?rest28
      case hi28 => (simp only [List.getElem?_toArray, List.getElem?_cons_succ, List.getElem?_cons_zero]; rfl)
      case hq28 => exact fun _ _ _ h => h
      case hw28 => rfl
      case hy28 => (intro wq hSw; (try dsimp only at hSw); go_simp; (try with_reducible rfl))
      (try simp only [Act.put, List.setIfInBounds_toArray, List.set_cons_zero, List.set_cons_succ])
      refine' wpAnyH_take (i := 2) (oi := _) (v := _) ?hi29 (by kernel_rfl) (by kernel_rfl) (by kernel_rfl) ?hq29 (Or.inl ⟨?hw29, ?hy29⟩) (by assumption) ?rest29
      case hi29 => (simp only [List.getElem?_toArray, List.getElem?_cons_succ, List.getElem?_cons_zero]; rfl)
      case hq29 => exact fun _ _ _ h => h
      case hw29 => rfl
      case hy29 => (intro wq hSw; (try dsimp only at hSw); go_simp; (try with_reducible rfl))
      (try simp only [Act.put, List.setIfInBounds_toArray, List.set_cons_zero, List.set_cons_succ])
      refine' wpAnyH_take (i := 3) (oi := _) (v := _) ?hi30 (by kernel_rfl) (by kernel_rfl) (by kernel_rfl) ?hq30 (Or.inl ⟨?hw30, ?hy30⟩) (by assumption) ?rest30
      case hi30 => (simp only [List.getElem?_toArray, List.getElem?_cons_succ, List.getElem?_cons_zero]; rfl)
      case hq30 => exact fun _ _ _ h => h
      case hw30 => rfl
      case hy30 => (intro wq hSw; (try dsimp only at hSw); go_simp; (try with_reducible rfl))
      (try simp only [Act.put, List.setIfInBounds_toArray, List.set_cons_zero, List.set_cons_succ])
      refine' wpAnyH_take (i := 4) (oi := _) (v := _) ?hi31 (by kernel_rfl) (by kernel_rfl) (by kernel_rfl) ?hq31 (Or.inl ⟨?hw31, ?hy31⟩) (by assumption) ?rest31
      case hi31 => (simp only [List.getElem?_toArray, List.getElem?_cons_succ, List.getElem?_cons_zero]; rfl)
      case hq31 => exact fun _ _ _ h => h
      case hw31 => rfl
      case hy31 => (intro wq hSw; (try dsimp only at hSw); go_simp; (try with_reducible rfl))
      (try simp only [Act.put, List.setIfInBounds_toArray, List.set_cons_zero, List.set_cons_succ])
      refine' wpAnyH_take (i := 5) (oi := _) (v := _) ?hi32 (by kernel_rfl) (by kernel_rfl) (by kernel_rfl) ?hq32 (Or.inl ⟨?hw32, ?hy32⟩) (by assumption) ?rest32
      case hi32 => (simp only [List.getElem?_toArray, List.getElem?_cons_succ, List.getElem?_cons_zero]; rfl)
      case hq32 => exact fun _ _ _ h => h
      case hw32 => rfl
      case hy32 => (intro wq hSw; (try dsimp only at hSw); go_simp; (try with_reducible rfl))
      (try simp only [Act.put, List.setIfInBounds_toArray, List.set_cons_zero, List.set_cons_succ])
      refine' wpAnyH_take (i := 6) (oi := _) (v := _) ?hi33 (by kernel_rfl) (by kernel_rfl) (by kernel_rfl) ?hq33 (Or.inl ⟨?hw33, ?hy33⟩) (by assumption) ?rest33
      case hi33 => (simp only [List.getElem?_toArray, List.getElem?_cons_succ, List.getElem?_cons_zero]; rfl)
      case hq33 => exact fun _ _ _ h => h
      case hw33 => rfl
      case hy33 => (intro wq hSw; (try dsimp only at hSw); go_simp; (try with_reducible rfl))
      (try simp only [Act.put, List.setIfInBounds_toArray, List.set_cons_zero, List.set_cons_succ])
      refine' wpAnyH_take (i := 7) (oi := _) (v := _) ?hi34 (by kernel_rfl) (by kernel_rfl) (by kernel_rfl) ?hq34 (Or.inl ⟨?hw34, ?hy34⟩) (by assumption) ?rest34
      case hi34 => (simp only [List.getElem?_toArray, List.getElem?_cons_succ, List.getElem?_cons_zero]; rfl)
      case hq34 => exact fun _ _ _ h => h
      case hw34 => rfl
      case hy34 => (intro wq hSw; (try dsimp only at hSw); go_simp; (try with_reducible rfl))
      (try simp only [Act.put, List.setIfInBounds_toArray, List.set_cons_zero, List.set_cons_succ])
      refine wpAnyH_ready (rs := [8]) (by kernel_rfl) (by simp) ?_
      refine' AllReadyH.cons (o := _) ?hi35 (fun K hK => ?rest35) AllReadyH.nil
      case hi35 => (simp only [List.getElem?_toArray, List.getElem?_cons_succ, List.getElem?_cons_zero]; rfl)
      go_simp
      go_at_call 36
      refine (HSp.out V4.drew (M2 + 1) (zs.set 0 v) Hzz2.out (by omega) (by exact HV4.out.1) (by exact HV4.out.2.1)).mono ?_
      rintro e u7 ⟨A7, c7, q, rfl, hqc, hql, hq7, hR7, hG7, hA7⟩
      have HT7 := Lib.hid (bx_gr (w := V4.drew) HV4.out.2.2.1 hG7 (by have := Hb7.out; omega))
      clear m0 m1 m2 m3
      obtain ⟨m0, m1, m2, m3⟩ := HT7.out.im
      have HE : Hid (DrawnUf w (.returned (.tuple #[.int .i64 W3, .int .i64 H3, .int .i64 P3, .slice A7 q.length c7])) u7) := Lib.hid ⟨W3, H3, P3, A7, c7, q, rfl, by have := Hzl.out; omega, hqc, hq7, (show Below w.heap.size w V4.drew from HV4.out.2.2.2.drew).grown hG7 HV4.out.2.2.2.size (fun k hk => by injection hk with hk; have := Hb7.out; omega)⟩
      clear hqc hql hq7 hR7 hG7 hA7 HT7
      go_wp2_with fail
      refine hK.out _ _ (by (try dsimp only); exact ⟨m0, m1, m2⟩) (fun hHeld => ?_)
      clear hK K
      (try simp only [Act.put, List.setIfInBounds_toArray, List.set_cons_zero, List.set_cons_succ])
      refine' wpAnyH_take (i := 9) (oi := _) (v := _) ?hi36 (by kernel_rfl) (by kernel_rfl) (by kernel_rfl) ?hq36 (Or.inl ⟨?hw36, ?hy36⟩) (by assumption) ?rest36
      case hi36 => (simp only [List.getElem?_toArray, List.getElem?_cons_succ, List.getElem?_cons_zero]; rfl)
      case hq36 => exact fun _ _ _ h => h
      case hw36 => rfl
      case hy36 => (intro wq hSw; (try dsimp only at hSw); go_simp; (try with_reducible rfl))
      (try simp only [Act.put, List.setIfInBounds_toArray, List.set_cons_zero, List.set_cons_succ])
      refine' wpAnyH_take (i := 10) (oi := _) (v := _) ?hi37 (by kernel_rfl) (by kernel_rfl) (by kernel_rfl) ?hq37 (Or.inl ⟨?hw37, ?hy37⟩) (by assumption) ?rest37
      case hi37 => (simp only [List.getElem?_toArray, List.getElem?_cons_succ, List.getElem?_cons_zero]; rfl)
      case hq37 => exact fun _ _ _ h => h
      case hw37 => rfl
      case hy37 => (intro wq hSw; (try dsimp only at hSw); go_simp; (try with_reducible rfl))
      (try simp only [Act.put, List.setIfInBounds_toArray, List.set_cons_zero, List.set_cons_succ])
      refine' wpAnyH_take (i := 11) (oi := _) (v := _) ?hi38 (by kernel_rfl) (by kernel_rfl) (by kernel_rfl) ?hq38 (Or.inl ⟨?hw38, ?hy38⟩) (by assumption) ?rest38
      case hi38 => (simp only [List.getElem?_toArray, List.getElem?_cons_succ, List.getElem?_cons_zero]; rfl)
      case hq38 => exact fun _ _ _ h => h
      case hw38 => rfl
      case hy38 => (intro wq hSw; (try dsimp only at hSw); go_simp; (try with_reducible rfl))
      (try simp only [Act.put, List.setIfInBounds_toArray, List.set_cons_zero, List.set_cons_succ])
      refine' wpAnyH_take (i := 12) (oi := _) (v := _) ?hi39 (by kernel_rfl) (by kernel_rfl) (by kernel_rfl) ?hq39 (Or.inl ⟨?hw39, ?hy39⟩) (by assumption) ?rest39
      case hi39 => (simp only [List.getElem?_toArray, List.getElem?_cons_succ, List.getElem?_cons_zero]; rfl)
      case hq39 => exact fun _ _ _ h => h
      case hw39 => rfl
      case hy39 => (intro wq hSw; (try dsimp only at hSw); go_simp; (try with_reducible rfl))
      (try simp only [Act.put, List.setIfInBounds_toArray, List.set_cons_zero, List.set_cons_succ])
      refine wpAnyH_done (by kernel_rfl) ?_ _
      go_wp2
      refine bodyPost_ret (resUf rfl _ _ _) rfl ?_
      exact HE.out
    · have hk1 : ((k : Int) == 0) = false := beq_eq_false_iff_ne.2 (by omega)
      clear HO2
      obtain ⟨m0, m1, m2, m3⟩ := HV2.out.2.2.1.im
      have m0 : V2.drew.cell? _ = _ := m0
      have m1 : V2.drew.cell? _ = _ := m1
      have m2 : V2.drew.cell? _ = _ := m2
      go_upto_region 6 with fail
      refine wp_region_held_drew (S := (fun w' => w'.cell? ⟨b7, 0, none⟩ = some (.int .i64 W3) ∧ w'.cell? ⟨b7, 1, none⟩ = some (.int .i64 H3) ∧ w'.cell? ⟨b7, 2, none⟩ = some (.int .i64 P3))) (by kernel_rfl) (by exact ⟨m0, m1, m2⟩) (fun hHeld => ?_)
      refine' wpAnyH_take (i := 0) (oi := _) (v := _) ?hi14 (by kernel_rfl) (by kernel_rfl) (by kernel_rfl) ?hq14 (Or.inl ⟨?hw14, ?hy14⟩) (by assumption) ?rest14
      case hi14 => (simp only [List.getElem?_toArray, List.getElem?_cons_succ, List.getElem?_cons_zero]; rfl)
      case hq14 => exact fun _ _ _ h => h
      case hw14 => rfl
      case hy14 => (intro wq hSw; (try dsimp only at hSw); go_simp; (try with_reducible rfl))
      (try simp only [Act.put, List.setIfInBounds_toArray, List.set_cons_zero, List.set_cons_succ])
      refine' wpAnyH_take (i := 1) (oi := _) (v := _) ?hi15 (by kernel_rfl) (by kernel_rfl) (by kernel_rfl) ?hq15 (Or.inl ⟨?hw15, ?hy15⟩) (by assumption) ?rest15
      case hi15 => (simp only [List.getElem?_toArray, List.getElem?_cons_succ, List.getElem?_cons_zero]; rfl)
      case hq15 => exact fun _ _ _ h => h
      case hw15 => rfl
      case hy15 => (intro wq hSw; (try dsimp only at hSw); go_simp; (try with_reducible rfl))
      (try simp only [Act.put, List.setIfInBounds_toArray, List.set_cons_zero, List.set_cons_succ])
      refine' wpAnyH_take (i := 2) (oi := _) (v := _) ?hi16 (by kernel_rfl) (by kernel_rfl) (by kernel_rfl) ?hq16 (Or.inl ⟨?hw16, ?hy16⟩) (by assumption) ?rest16
      case hi16 => (simp only [List.getElem?_toArray, List.getElem?_cons_succ, List.getElem?_cons_zero]; rfl)
      case hq16 => exact fun _ _ _ h => h
      case hw16 => rfl
      case hy16 => (intro wq hSw; (try dsimp only at hSw); go_simp; (try with_reducible rfl))
      (try simp only [Act.put, List.setIfInBounds_toArray, List.set_cons_zero, List.set_cons_succ])
      refine' wpAnyH_take (i := 3) (oi := _) (v := _) ?hi17 (by kernel_rfl) (by kernel_rfl) (by kernel_rfl) ?hq17 (Or.inl ⟨?hw17, ?hy17⟩) (by assumption) ?rest17
      case hi17 => (simp only [List.getElem?_toArray, List.getElem?_cons_succ, List.getElem?_cons_zero]; rfl)
      case hq17 => exact fun _ _ _ h => h
      case hw17 => rfl
      case hy17 => (intro wq hSw; (try dsimp only at hSw); go_simp; (try with_reducible rfl))
      (try simp only [Act.put, List.setIfInBounds_toArray, List.set_cons_zero, List.set_cons_succ])
      refine' wpAnyH_take (i := 4) (oi := _) (v := _) ?hi18 (by kernel_rfl) (by kernel_rfl) (by kernel_rfl) ?hq18 (Or.inl ⟨?hw18, ?hy18⟩) (by assumption) ?rest18
      case hi18 => (simp only [List.getElem?_toArray, List.getElem?_cons_succ, List.getElem?_cons_zero]; rfl)
      case hq18 => exact fun _ _ _ h => h
      case hw18 => rfl
      case hy18 => (intro wq hSw; (try dsimp only at hSw); go_simp; (try with_reducible rfl))
      (try simp only [Act.put, List.setIfInBounds_toArray, List.set_cons_zero, List.set_cons_succ])
      refine' wpAnyH_take (i := 5) (oi := _) (v := _) ?hi19 (by kernel_rfl) (by kernel_rfl) (by kernel_rfl) ?hq19 (Or.inl ⟨?hw19, ?hy19⟩) (by assumption) ?rest19
      case hi19 => (simp only [List.getElem?_toArray, List.getElem?_cons_succ, List.getElem?_cons_zero]; rfl)
      case hq19 => exact fun _ _ _ h => h
      case hw19 => rfl
      case hy19 => (intro wq hSw; (try dsimp only at hSw); go_simp; (try with_reducible rfl))
      (try simp only [Act.put, List.setIfInBounds_toArray, List.set_cons_zero, List.set_cons_succ])
      refine' wpAnyH_take (i := 6) (oi := _) (v := _) ?hi20 (by kernel_rfl) (by kernel_rfl) (by kernel_rfl) ?hq20 (Or.inl ⟨?hw20, ?hy20⟩) (by assumption) ?rest20
      case hi20 => (simp only [List.getElem?_toArray, List.getElem?_cons_succ, List.getElem?_cons_zero]; rfl)
      case hq20 => exact fun _ _ _ h => h
      case hw20 => rfl
      case hy20 => (intro wq hSw; (try dsimp only at hSw); go_simp; (try with_reducible rfl))
      (try simp only [Act.put, List.setIfInBounds_toArray, List.set_cons_zero, List.set_cons_succ])
      refine' wpAnyH_take (i := 7) (oi := _) (v := _) ?hi21 (by kernel_rfl) (by kernel_rfl) (by kernel_rfl) ?hq21 (Or.inl ⟨?hw21, ?hy21⟩) (by assumption) ?rest21
      case hi21 => (simp only [List.getElem?_toArray, List.getElem?_cons_succ, List.getElem?_cons_zero]; rfl)
      case hq21 => exact fun _ _ _ h => h
      case hw21 => rfl
      case hy21 => (intro wq hSw; (try dsimp only at hSw); go_simp; (try with_reducible rfl))
      (try simp only [Act.put, List.setIfInBounds_toArray, List.set_cons_zero, List.set_cons_succ])
      refine wpAnyH_ready (rs := [8]) (by kernel_rfl) (by simp) ?_
      refine' AllReadyH.cons (o := _) ?hi22 (fun K hK => ?rest22) AllReadyH.nil
      case hi22 => (simp only [List.getElem?_toArray, List.getElem?_cons_succ, List.getElem?_cons_zero]; rfl)
      go_simp
      go_at_call 36
      refine (HSp.out V2.drew M2 zs Hzz.out (by omega) (by exact HV2.out.1) (by exact HV2.out.2.1)).mono ?_
      rintro e u7 ⟨A7, c7, q, rfl, hqc, hql, hq7, hR7, hG7, hA7⟩
      have HT7 := Lib.hid (bx_gr (w := V2.drew) HV2.out.2.2.1 hG7 (by have := Hb7.out; omega))
      clear m0 m1 m2 m3
      obtain ⟨m0, m1, m2, m3⟩ := HT7.out.im
      have HE : Hid (DrawnUf w (.returned (.tuple #[.int .i64 W3, .int .i64 H3, .int .i64 P3, .slice A7 q.length c7])) u7) := Lib.hid ⟨W3, H3, P3, A7, c7, q, rfl, by have := Hzl.out; omega, hqc, hq7, (show Below w.heap.size w V2.drew from HV2.out.2.2.2.drew).grown hG7 HV2.out.2.2.2.size (fun k hk => by injection hk with hk; have := Hb7.out; omega)⟩
      clear hqc hql hq7 hR7 hG7 hA7 HT7
      go_wp2_with fail
      refine hK.out _ _ (by (try dsimp only); exact ⟨m0, m1, m2⟩) (fun hHeld => ?_)
      clear hK K
      (try simp only [Act.put, List.setIfInBounds_toArray, List.set_cons_zero, List.set_cons_succ])
      refine' wpAnyH_take (i := 9) (oi := _) (v := _) ?hi23 (by kernel_rfl) (by kernel_rfl) (by kernel_rfl) ?hq23 (Or.inl ⟨?hw23, ?hy23⟩) (by assumption) ?rest23
      case hi23 => (simp only [List.getElem?_toArray, List.getElem?_cons_succ, List.getElem?_cons_zero]; rfl)
      case hq23 => exact fun _ _ _ h => h
      case hw23 => rfl
      case hy23 => (intro wq hSw; (try dsimp only at hSw); go_simp; (try with_reducible rfl))
      (try simp only [Act.put, List.setIfInBounds_toArray, List.set_cons_zero, List.set_cons_succ])
      refine' wpAnyH_take (i := 10) (oi := _) (v := _) ?hi24 (by kernel_rfl) (by kernel_rfl) (by kernel_rfl) ?hq24 (Or.inl ⟨?hw24, ?hy24⟩) (by assumption) ?rest24
      case hi24 => (simp only [List.getElem?_toArray, List.getElem?_cons_succ, List.getElem?_cons_zero]; rfl)
      case hq24 => exact fun _ _ _ h => h
      case hw24 => rfl
      case hy24 => (intro wq hSw; (try dsimp only at hSw); go_simp; (try with_reducible rfl))
      (try simp only [Act.put, List.setIfInBounds_toArray, List.set_cons_zero, List.set_cons_succ])
      refine' wpAnyH_take (i := 11) (oi := _) (v := _) ?hi25 (by kernel_rfl) (by kernel_rfl) (by kernel_rfl) ?hq25 (Or.inl ⟨?hw25, ?hy25⟩) (by assumption) ?rest25
      case hi25 => (simp only [List.getElem?_toArray, List.getElem?_cons_succ, List.getElem?_cons_zero]; rfl)
      case hq25 => exact fun _ _ _ h => h
      case hw25 => rfl
      case hy25 => (intro wq hSw; (try dsimp only at hSw); go_simp; (try with_reducible rfl))
      (try simp only [Act.put, List.setIfInBounds_toArray, List.set_cons_zero, List.set_cons_succ])
      refine' wpAnyH_take (i := 12) (oi := _) (v := _) ?hi26 (by kernel_rfl) (by kernel_rfl) (by kernel_rfl) ?hq26 (Or.inl ⟨?hw26, ?hy26⟩) (by assumption) ?rest26
      case hi26 => (simp only [List.getElem?_toArray, List.getElem?_cons_succ, List.getElem?_cons_zero]; rfl)
      case hq26 => exact fun _ _ _ h => h
      case hw26 => rfl
      case hy26 => (intro wq hSw; (try dsimp only at hSw); go_simp; (try with_reducible rfl))
      (try simp only [Act.put, List.setIfInBounds_toArray, List.set_cons_zero, List.set_cons_succ])
      refine wpAnyH_done (by kernel_rfl) ?_ _
      go_wp2
      refine bodyPost_ret (resUf rfl _ _ _) rfl ?_
      exact HE.out
end Go.Proofs.Ytolifmgkkkclkaa
