/- Contracts of the drawing of images that may be invalid. -/
import Derived.Test.YtolifmgkkkclkaaDrawImg
import Derived.Deep.RegionHeld3
namespace Go.Proofs.Ytolifmgkkkclkaa
open Go.RowKit
set_option linter.unusedSimpArgs false
set_option linter.unusedVariables false

/-- A drawn image: few numbers that can be read. -/
def DrawIm (g N : Nat) (w : World) (e : Ending) (w' : World) : Prop :=
  ∃ (W H P : Int) (A : Option Addr) (c : Nat) (xs : List Int), e = .returned (.agg #[.int .i64 W, .int .i64 H, .int .i64 P, .slice A xs.length c]) ∧ (xs.length ≤ 256 ∧ P ≤ 99 ∧ 0 ≤ P) ∧ xs.length ≤ c ∧ Rds .i64 w' w'.heap.size A xs ∧ Rdr w' g N ∧ w.grownBy w' (some g) ∧ ∀ a : Addr, A = some a → w.heap.size ≤ a.block
theorem hset (r : Nat) (u : World) (i : Nat) (x : Value) : u.grownBy (u.setCell ⟨r, i, none⟩ x) (some r) := ⟨rfl, rfl, rfl, by simp [World.setCell], fun k _ hk => heap_setCell_other u ⟨r, i, none⟩ k x (fun e => hk (by simp [e]))⟩
theorem Rds.setOff {k : IntKind} {w : World} {B b off r i : Nat} {xs : List Int} (h : Rds k w B (some ⟨b, off, none⟩) xs) (hne : b ≠ r) (x : Value) : Rds k (w.setCell ⟨r, i, none⟩ x) B (some ⟨b, off, none⟩) xs := by
  rcases h with h | ⟨b', off', hA, hb, hc⟩
  · exact .inl h
  · injection hA with hA
    injection hA with h1 h2
    subst h1 h2
    exact .inr ⟨b, off, rfl, hb, fun j hj => (World.cell?_setCell_other w ⟨r, i, none⟩ ⟨b, off + j, none⟩ x (fun e => by injection e with e1; exact hne e1.symm)).trans (hc j hj)⟩
theorem Own.slice' {w : World} {base : Nat} {v : Value} {xs : List Int} (h : Own w base v xs) : ∃ A c, v = .slice A xs.length c ∧ xs.length ≤ c := h.slice
theorem Own.rds' {w : World} {base gb n c : Nat} {xs : List Int} (h : Own w base (.slice (some ⟨gb, 0, none⟩) n c) xs) (hn : n = xs.length) : Rds .i64 w w.heap.size (some ⟨gb, 0, none⟩) xs := by
  subst hn; exact h.rds.2
theorem spoil_fin {w wr : World} {g N N' gb off r c : Nat} {xs : List Int} (hr : Rds .i64 wr wr.heap.size (some ⟨gb, off, none⟩) xs) (hR : Rdr wr g N') (hG : w.grownBy wr (some g)) (hne : gb ≠ r) (hgb : w.heap.size ≤ gb) (hgr : g < r) (hwr : w.heap.size ≤ r) (hN : N' ≤ N) (W H P : Int) (hx : xs.length ≤ 256 ∧ P ≤ 99 ∧ 0 ≤ P) (hc : xs.length ≤ c) (u0 u1 u2 u3 : Value) :
    DrawIm g N w (.returned (.agg #[.int .i64 W, .int .i64 H, .int .i64 P, .slice (some ⟨gb, off, none⟩) xs.length c])) ((((wr.setCell ⟨r, 0, none⟩ u0).setCell ⟨r, 1, none⟩ u1).setCell ⟨r, 2, none⟩ u2).setCell ⟨r, 3, none⟩ u3) := by
  have hG4 := gtrans (gtrans (gtrans (hset r wr 0 u0) (hset r _ 1 u1)) (hset r _ 2 u2)) (hset r _ 3 u3)
  refine ⟨W, H, P, _, c, xs, rfl, hx, hc, ?_, (hR.grown hG4 (fun k hk => by injection hk with hk; omega)).more hN, gmix hG hG4 (fun k hk => by injection hk with hk; omega), fun a ha => by injection ha with ha; subst ha; exact hgb⟩
  exact ((((hr.setOff hne u0).setOff hne u1).setOff hne u2).setOff hne u3).more (by simp [World.setCell])
theorem bx_set {w : World} {b i : Nat} {T : TypeId} {cs : Array Value} {r : Nat} (h : Bx w b T cs) (hne : b ≠ r) (x : Value) : Bx (w.setCell ⟨r, i, none⟩ x) b T cs := (Below.heap_setCell w ⟨r, i, none⟩ x b hne).trans h
set_option maxRecDepth 100000 in
set_option maxHeartbeats 16000000 in
theorem spoilImage_any (W H P : Int) (hW0 : 0 ≤ W) (hW1 : W ≤ 100) (hPb : P ≤ 99 ∧ 0 ≤ P) (gb c n : Nat) (xs : List Int) (hn : n = xs.length) (hn1 : 0 < n) (hn2 : n ≤ 256) (lo g N : Nat) (w00 w : World) (hG00 : w00.grownBy w (some g)) (hlo2 : lo = w00.heap.size) (hO : Own w lo (.slice (some ⟨gb, 0, none⟩) n c) xs) (hlo : g < lo) (hR : Rdr w g N) (hN : N ≤ 100000000) :
    Calls Try.prog 42 #[.pointer (some ⟨g, 0, none⟩), .agg #[.int .i64 W, .int .i64 H, .int .i64 P, .slice (some ⟨gb, 0, none⟩) n c]] w (DrawIm g (N + 3) w00) := by
  have hgl := hR.lt
  have hgb := hO.lt gb rfl
  have hnc : n ≤ c := by
    obtain ⟨_, _, h1, h2⟩ := hO.slice'
    injection h1 with _ h3 h4
    omega
  obtain ⟨u0, hu⟩ : ∃ u0, u0 = (w.alloc (.cells #[.int .i64 W, .int .i64 H, .int .i64 P, .slice (some ⟨gb, 0, none⟩) n c] 25)).alloc (.cells #[.int .i64 0, .int .i64 0, .int .i64 0, .slice none 0 0] 25) := ⟨_, rfl⟩
  have Hz : Hid (u0.heap.size = w.heap.size + 2) := Lib.hid (by rw [hu]; simp)
  have HM0 : Hid (Bx u0 w.heap.size 25 (imC W H P (.slice (some ⟨gb, 0, none⟩) n c))) := Lib.hid (by rw [hu]; exact (Bx.new w 25 _).alloc _)
  have HX0 : Hid (Bx u0 (w.heap.size + 1) 25 (imC 0 0 0 (.slice none 0 0))) := Lib.hid (by rw [hu]; have := Bx.new (w.alloc (.cells #[.int .i64 W, .int .i64 H, .int .i64 P, .slice (some ⟨gb, 0, none⟩) n c] 25)) 25 (imC 0 0 0 (.slice none 0 0)); simpa [imC] using this)
  have HO0 : Hid (Own u0 lo (.slice (some ⟨gb, 0, none⟩) n c) xs) := Lib.hid (by rw [hu]; exact (hO.alloc _).alloc _)
  have HR0 : Hid (Rdr u0 g N) := Lib.hid (by rw [hu]; exact (hR.alloc _).alloc _)
  have HG0 : Hid (w00.grownBy u0 (some g)) := Lib.hid (by rw [hu]; exact gtrans (gtrans hG00 (World.grownBy_alloc w _ _)) (World.grownBy_alloc _ _ _))
  have hz00 := hG00.size
  have HU := Lib.hid hu
  have Hn := Lib.hid hn
  clear hO hR hu hn hG00
  go_enter Try.func42, Try.ntmps42
  go_wp2_with fail
  rw [← HU.out]
  clear HU
  refine (pick_any 40 g N u0 HR0.out (by omega) (by omega)).mono ?_
  intro e u1 hp
  obtain ⟨kd, rfl, hkd, hR1, hG1, hs1⟩ := picked_nat hp (by omega)
  have HO := Lib.hid (HO0.out.off hG1 hlo)
  have HM := Lib.hid (bx_gr HM0.out hG1 (by omega))
  have HX := Lib.hid (bx_gr HX0.out hG1 (by omega))
  have HG := Lib.hid (gtrans HG0.out hG1)
  have HR := Lib.hid hR1
  have hz1 : w.heap.size + 2 ≤ u1.heap.size := by have := Hz.out; omega
  clear hp hR1 hG1 hs1 HO0 HM0 HX0 HG0 HR0 Hz
  have hk4 : (kd : Int) = 0 ∨ (kd : Int) = 1 ∨ (kd : Int) = 2 ∨ (kd : Int) = 3 ∨ 4 ≤ (kd : Int) := by omega
  clear hkd
  generalize (kd : Int) = K at hk4 ⊢
  obtain ⟨m0, m1, m2, m3⟩ := HM.out.im
  have f0 := HM.out.fz 0
  have f2 := HM.out.fz 2
  have f3 := HM.out.fz 3
  obtain ⟨r0, r1, r2, r3⟩ := HX.out.im
  have e0 := HX.out.fz 0
  have e1 := HX.out.fz 1
  have e2 := HX.out.fz 2
  have e3 := HX.out.fz 3
  have hne : gb ≠ w.heap.size + 1 := by omega
  have hne0 : gb ≠ w.heap.size := by omega
  rcases hk4 with rfl | rfl | rfl | rfl | hk4
  · have hw1 : IntKind.i64.wrap (W + 1) = W + 1 := IntWalk.i64_in _ (by omega)
    go_wp2_with fail
    refine (one_litB _ [0, 17, W + 1] 3 3 _ g (N + 1) u1 rfl HR.out (by omega) (by simp) (by simp) rfl rfl).mono ?_
    rintro e u2 ⟨q, rfl, hq, hR2, hG2⟩
    have hR2' := Lib.hid hR2
    have HM2 := Lib.hid (bx_gr HM.out hG2 (by omega))
    have HX2 := Lib.hid (bx_gr HX.out hG2 (by omega))
    have HO2 := Lib.hid (HO.out.off hG2 hlo)
    have HG2 := Lib.hid (gtrans HG.out hG2)
    clear hq hR2 hG2 m0 m1 m2 m3 f0 f2 f3 r0 r1 r2 r3 e0 e1 e2 e3
    obtain ⟨m0, m1, m2, m3⟩ := HM2.out.im
    have f0 := HM2.out.fz 0
    obtain ⟨r0, r1, r2, r3⟩ := HX2.out.im
    have e0 := HX2.out.fz 0
    have e1 := HX2.out.fz 1
    have e2 := HX2.out.fz 2
    have e3 := HX2.out.fz 3
    have HE : Hid (∀ v0 v1 v2 v3 : Value, DrawIm g (N + 3) w00 (.returned (.agg #[.int .i64 q, .int .i64 H, .int .i64 P, .slice (some ⟨gb, 0, none⟩) n c])) (((((u2.setCell ⟨w.heap.size, 0, none⟩ (.int .i64 q)).setCell ⟨w.heap.size + 1, 0, none⟩ v0).setCell ⟨w.heap.size + 1, 1, none⟩ v1).setCell ⟨w.heap.size + 1, 2, none⟩ v2).setCell ⟨w.heap.size + 1, 3, none⟩ v3)) := Lib.hid fun v0 v1 v2 v3 => by
      have hs := hset w.heap.size u2 0 (.int .i64 q)
      rw [Hn.out]
      refine spoil_fin (off := 0) ((Rds.setOff (HO2.out.length_eq rfl |>.rds' Hn.out) hne0 _).more (by simp [World.setCell])) (hR2'.out.grown hs (fun k hk => by injection hk with hk; omega)) (gmix HG2.out hs (fun k hk => by injection hk with hk; omega)) hne (by omega) (by omega) (by omega) (by omega) _ _ _ ⟨by rw [← Hn.out]; exact hn2, by omega⟩ (by rw [← Hn.out]; exact hnc) v0 v1 v2 v3
    clear HM2 HX2 HO2 HG2 hR2' HM HX HO HG HR
    go_wp2
    exact bodyPost_ret (v := .agg #[.int .i64 q, .int .i64 H, .int .i64 P, .slice (some ⟨gb, 0, none⟩) n c]) (by simp [results, Try.results42, go_sem, r0, r1, r2, r3, m0, m1, m2, m3]) rfl (HE.out _ _ _ _)
  · obtain ⟨x, xt, hxs⟩ : ∃ x xt, xs = x :: xt := by
      match xs, Hn.out with
      | [], h => simp at h; omega
      | x :: xt, _ => exact ⟨x, xt, rfl⟩
    have HXS := Lib.hid hxs
    have hrds : Rds .i64 u1 u1.heap.size (some ⟨gb, 0, none⟩) xs := HO.out.rds' Hn.out
    have HT : Hid (Rds .i64 u1 u1.heap.size (some ⟨gb, 1, none⟩) xt) := Lib.hid (by
      obtain ⟨b, off, hA, hb, hc⟩ := hrds.cells_ (j := 0) (by rw [← Hn.out]; exact hn1)
      injection hA with hA
      injection hA with h1 h2
      subst h1 h2
      rw [hxs] at hc
      exact Rds.tail (off := 0) hb hc)
    have hxl : n - 1 = xt.length := by have := Hn.out; rw [hxs] at this; simp at this; omega
    have HXL := Lib.hid hxl
    by_cases hc1 : c = 1
    · have hxt : xt = [] := List.eq_nil_of_length_eq_zero (by omega)
      have hn11 : n = 1 := by omega
      have HXT := Lib.hid hxt
      clear hrds hxs hxl hxt HXL Hn HT
      subst hn11
      subst hc1
      have HE : Hid (∀ v0 v1 v2 v3 : Value, DrawIm g (N + 3) w00 (.returned (.agg #[.int .i64 W, .int .i64 H, .int .i64 P, .slice (some ⟨gb, 0, none⟩) 0 0])) (((((u1.setCell ⟨w.heap.size, 3, none⟩ (.slice (some ⟨gb, 0, none⟩) 0 0)).setCell ⟨w.heap.size + 1, 0, none⟩ v0).setCell ⟨w.heap.size + 1, 1, none⟩ v1).setCell ⟨w.heap.size + 1, 2, none⟩ v2).setCell ⟨w.heap.size + 1, 3, none⟩ v3)) := Lib.hid fun v0 v1 v2 v3 => by
        have hs := hset w.heap.size u1 3 (.slice (some ⟨gb, 0, none⟩) 0 0)
        exact spoil_fin (off := 0) (xs := []) (c := 0) (.inl rfl) (HR.out.grown hs (fun k hk => by injection hk with hk; omega)) (gmix HG.out hs (fun k hk => by injection hk with hk; omega)) hne (by omega) (by omega) (by omega) (by omega) _ _ _ ⟨by simp, by omega⟩ (by simp) v0 v1 v2 v3
      clear HM HX HO HG HR
      go_wp2
      exact bodyPost_ret (v := .agg #[.int .i64 W, .int .i64 H, .int .i64 P, .slice (some ⟨gb, 0, none⟩) 0 0]) (by simp [results, Try.results42, go_sem, r0, r1, r2, r3, m0, m1, m2, m3]) rfl (HE.out _ _ _ _)
    · have HE : Hid (∀ v0 v1 v2 v3 : Value, DrawIm g (N + 3) w00 (.returned (.agg #[.int .i64 W, .int .i64 H, .int .i64 P, .slice (some ⟨gb, 1, none⟩) (n - 1) (c - 1)])) (((((u1.setCell ⟨w.heap.size, 3, none⟩ (.slice (some ⟨gb, 1, none⟩) (n - 1) (c - 1))).setCell ⟨w.heap.size + 1, 0, none⟩ v0).setCell ⟨w.heap.size + 1, 1, none⟩ v1).setCell ⟨w.heap.size + 1, 2, none⟩ v2).setCell ⟨w.heap.size + 1, 3, none⟩ v3)) := Lib.hid fun v0 v1 v2 v3 => by
        have hs := hset w.heap.size u1 3 (.slice (some ⟨gb, 1, none⟩) (n - 1) (c - 1))
        rw [hxl]
        exact spoil_fin (off := 1) (xs := xt) ((HT.out.setOff hne0 _).more (by simp [World.setCell])) (HR.out.grown (hset w.heap.size u1 3 _) (fun k hk => by injection hk with hk; omega)) (gmix HG.out (hset w.heap.size u1 3 _) (fun k hk => by injection hk with hk; omega)) hne (by omega) (by omega) (by omega) (by omega) _ _ _ (by omega) (by omega) v0 v1 v2 v3
      have hc2 : 1 < c := by omega
      clear HM HX HO HG HR hrds hxs hxl HXL Hn HT HXS hc1
      go_wp2
      exact bodyPost_ret (v := .agg #[.int .i64 W, .int .i64 H, .int .i64 P, .slice (some ⟨gb, 1, none⟩) (n - 1) (c - 1)]) (by simp [results, Try.results42, go_sem, r0, r1, r2, r3, m0, m1, m2, m3]) rfl (HE.out _ _ _ _)
  · go_wp2
    have hml : w.heap.size < u1.heap.size := by omega
    go_region_held3 (fun w' => w'.cell? ⟨w.heap.size, 3, none⟩ = some (.slice (some ⟨gb, 0, none⟩) n c))
      (first | (with_reducible exact k3) | (with_reducible exact (World.cell?_setCell_other _ ⟨gb, 0, none⟩ ⟨w.heap.size, 3, none⟩ _ (fun e => by injection e with e1; exact hne0 e1)).trans k3) | exact m3 | go_keep)
      (first | (go_at_call 35; refine (one_litB _ [-1, 256] 2 2 _ g (N + 1) u1.drew rfl (by exact HR.out) (by omega) (by simp) (by simp) rfl rfl).mono ?_; rintro e u2 ⟨q, rfl, hq, hR2, hG2⟩; have HM2 := Lib.hid (bx_gr (w := u1.drew) HM.out hG2 (by omega)); obtain ⟨k0, k1, k2, k3⟩ := HM2.out.im; have HX2 := Lib.hid (bx_gr (w := u1.drew) HX.out hG2 (by omega)); have HO2 := Lib.hid (Own.off (w := u1.drew) HO.out hG2 hlo); have HG2 : Hid (w00.grownBy u2 (some g)) := Lib.hid (gtrans (b := u1.drew) ⟨HG.out.os, HG.out.tape, HG.out.output, HG.out.size, HG.out.block⟩ hG2); have HR2 := Lib.hid hR2; have hcw := HO2.out.cell Hn.out (j := 0) (by rw [← Hn.out]; exact hn1); have hfw := HO2.out.frozen Hn.out 0; clear hR2 hG2 hq))
    all_goals
      have HE : Hid (∀ v0 v1 v2 v3 : Value, DrawIm g (N + 3) w00 (.returned (.agg #[.int .i64 W, .int .i64 H, .int .i64 P, .slice (some ⟨gb, 0, none⟩) n c])) (((((u2.setCell ⟨gb, 0, none⟩ (.int .i64 q)).setCell ⟨w.heap.size + 1, 0, none⟩ v0).setCell ⟨w.heap.size + 1, 1, none⟩ v1).setCell ⟨w.heap.size + 1, 2, none⟩ v2).setCell ⟨w.heap.size + 1, 3, none⟩ v3)) := Lib.hid fun v0 v1 v2 v3 => by
        have hput := HO2.out.put Hn.out 0 q
        have hl : n = (xs.set 0 q).length := by rw [List.length_set]; exact Hn.out
        have hr := hput.1.rds' hl
        rw [hl]
        refine spoil_fin (off := 0) hr (HR2.out.grown hput.2 (fun k hk => by injection hk with hk; omega)) (gmix HG2.out hput.2 (fun k hk => by injection hk with hk; omega)) hne (by omega) (by omega) (by omega) (by omega) _ _ _ (by omega) (by omega) v0 v1 v2 v3
      have hz2 := HG2.out.size
      obtain ⟨r0, r1, r2, r3⟩ := HX2.out.im
      have e0 := HX2.out.fz 0
      have e1 := HX2.out.fz 1
      have e2 := HX2.out.fz 2
      have e3 := HX2.out.fz 3
      clear HM2 HX2 HO2 HG2 HR2 HM HX HO HG HR m0 m1 m2 m3 Hn
      go_wp2
      exact bodyPost_ret (v := .agg #[.int .i64 W, .int .i64 H, .int .i64 P, .slice (some ⟨gb, 0, none⟩) n c]) (by simp [results, Try.results42, go_sem, r0, r1, r2, r3, k0, k1, k2, k3]) rfl (HE.out _ _ _ _)
  · go_wp2_with fail
    refine (one_litB _ [0, 5] 2 2 _ g (N + 1) u1 rfl HR.out (by omega) (by simp) (by simp) rfl rfl).mono ?_
    rintro e u2 ⟨q, rfl, hq, hR2, hG2⟩
    have hR2' := Lib.hid hR2
    have HM2 := Lib.hid (bx_gr HM.out hG2 (by omega))
    have HX2 := Lib.hid (bx_gr HX.out hG2 (by omega))
    have HO2 := Lib.hid (HO.out.off hG2 hlo)
    have HG2 := Lib.hid (gtrans HG.out hG2)
    have hqb : q ≤ 99 ∧ 0 ≤ q := by simp at hq; omega
    clear hq hR2 hG2 m0 m1 m2 m3 f0 f2 f3 r0 r1 r2 r3 e0 e1 e2 e3
    obtain ⟨m0, m1, m2, m3⟩ := HM2.out.im
    have f2 := HM2.out.fz 2
    obtain ⟨r0, r1, r2, r3⟩ := HX2.out.im
    have e0 := HX2.out.fz 0
    have e1 := HX2.out.fz 1
    have e2 := HX2.out.fz 2
    have e3 := HX2.out.fz 3
    have HE : Hid (∀ v0 v1 v2 v3 : Value, DrawIm g (N + 3) w00 (.returned (.agg #[.int .i64 W, .int .i64 H, .int .i64 q, .slice (some ⟨gb, 0, none⟩) n c])) (((((u2.setCell ⟨w.heap.size, 2, none⟩ (.int .i64 q)).setCell ⟨w.heap.size + 1, 0, none⟩ v0).setCell ⟨w.heap.size + 1, 1, none⟩ v1).setCell ⟨w.heap.size + 1, 2, none⟩ v2).setCell ⟨w.heap.size + 1, 3, none⟩ v3)) := Lib.hid fun v0 v1 v2 v3 => by
      have hs := hset w.heap.size u2 2 (.int .i64 q)
      rw [Hn.out]
      refine spoil_fin (off := 0) ((Rds.setOff (HO2.out.length_eq rfl |>.rds' Hn.out) hne0 _).more (by simp [World.setCell])) (hR2'.out.grown hs (fun k hk => by injection hk with hk; omega)) (gmix HG2.out hs (fun k hk => by injection hk with hk; omega)) hne (by omega) (by omega) (by omega) (by omega) _ _ _ ⟨by rw [← Hn.out]; exact hn2, by omega⟩ (by rw [← Hn.out]; exact hnc) v0 v1 v2 v3
    clear HM2 HX2 HO2 HG2 hR2' HM HX HO HG HR
    go_wp2
    exact bodyPost_ret (v := .agg #[.int .i64 W, .int .i64 H, .int .i64 q, .slice (some ⟨gb, 0, none⟩) n c]) (by simp [results, Try.results42, go_sem, r0, r1, r2, r3, m0, m1, m2, m3]) rfl (HE.out _ _ _ _)
  · have b0 : (K == 0) = false := beq_eq_false_iff_ne.2 (by omega)
    have b1 : (K == 1) = false := beq_eq_false_iff_ne.2 (by omega)
    have b2 : (K == 2) = false := beq_eq_false_iff_ne.2 (by omega)
    have b3 : (K == 3) = false := beq_eq_false_iff_ne.2 (by omega)
    have HE : Hid (∀ v0 v1 v2 v3 : Value, DrawIm g (N + 3) w00 (.returned (.agg #[.int .i64 W, .int .i64 H, .int .i64 P, .slice (some ⟨gb, 0, none⟩) n c])) ((((u1.setCell ⟨w.heap.size + 1, 0, none⟩ v0).setCell ⟨w.heap.size + 1, 1, none⟩ v1).setCell ⟨w.heap.size + 1, 2, none⟩ v2).setCell ⟨w.heap.size + 1, 3, none⟩ v3)) := Lib.hid fun v0 v1 v2 v3 => by
      have hr := HO.out.rds' Hn.out
      rw [Hn.out]
      exact spoil_fin (off := 0) hr HR.out HG.out hne (by omega) (by omega) (by omega) (by omega) _ _ _ ⟨by rw [← Hn.out]; exact hn2, by omega⟩ (by rw [← Hn.out]; exact hnc) v0 v1 v2 v3
    clear HM HX HO HG HR Hn
    go_wp2
    exact bodyPost_ret (v := .agg #[.int .i64 W, .int .i64 H, .int .i64 P, .slice (some ⟨gb, 0, none⟩) n c]) (by simp [results, Try.results42, go_sem, r0, r1, r2, r3, m0, m1, m2, m3]) rfl (HE.out _ _ _ _)
set_option maxHeartbeats 2000000 in
theorem anyPlanes_any (g N : Nat) (w : World) (h : Rdr w g N) (hN : N ≤ 1000000000) :
    Calls Try.prog 44 #[.pointer (some ⟨g, 0, none⟩)] w (Drawn1 (fun d => 1 ≤ d ∧ d ≤ 4) g (N + 1) w) := by
  go_enter Try.func44, Try.ntmps44
  go_wp2_with fail
  refine (one_lit _ [1, 3, 1, 4, 2] _ _ g N w h hN (by simp) (by simp) rfl rfl).mono ?_
  rintro e w' ⟨k, rfl, hk, hr, hg⟩
  have hk' : 1 ≤ k ∧ k ≤ 4 := by simp at hk; omega
  clear hk h
  go_wp2
  go_ret
  exact ⟨k, rfl, hk', hr, hg⟩
/-- An image that was drawn, stored into the answer's box. -/
theorem draw_store {w wr : World} {g N r : Nat} {W H P : Int} {A : Option Addr} {c : Nat} {xs : List Int} (hx : xs.length ≤ 256 ∧ P ≤ 99 ∧ 0 ≤ P) (hc : xs.length ≤ c) (hr : Rds .i64 wr wr.heap.size A xs) (hA : ∀ a : Addr, A = some a → r < a.block) (hR : Rdr wr g N) (hG : w.grownBy wr (some g)) (hgr : g < r) (hwr : w.heap.size ≤ r) (u0 u1 u2 u3 : Value) :
    DrawIm g N w (.returned (.agg #[.int .i64 W, .int .i64 H, .int .i64 P, .slice A xs.length c])) ((((wr.setCell ⟨r, 0, none⟩ u0).setCell ⟨r, 1, none⟩ u1).setCell ⟨r, 2, none⟩ u2).setCell ⟨r, 3, none⟩ u3) := by
  have hG4 := gtrans (gtrans (gtrans (hset r wr 0 u0) (hset r _ 1 u1)) (hset r _ 2 u2)) (hset r _ 3 u3)
  refine ⟨W, H, P, A, c, xs, rfl, hx, hc, ?_, hR.grown hG4 (fun k hk => by injection hk with hk; omega), gmix hG hG4 (fun k hk => by injection hk with hk; omega), fun a ha => by have := hA a ha; omega⟩
  rcases hr with h | ⟨b, off, rfl, hb, hcl⟩
  · exact .inl h
  · have hne : b ≠ r := by have : r < b := hA _ rfl; omega
    exact (((((Rds.setOff (.inr ⟨b, off, rfl, hb, hcl⟩ : Rds .i64 wr wr.heap.size (some ⟨b, off, none⟩) xs) hne u0).setOff hne u1).setOff hne u2).setOff hne u3).more (by simp [World.setCell]))
set_option maxHeartbeats 4000000 in
theorem anyImage_any (g N : Nat) (w : World) (h : Rdr w g N) (hN : N ≤ 1000000) :
    Calls Try.prog 25 #[.pointer (some ⟨g, 0, none⟩)] w (DrawIm g (N + 304) w) := by
  have hgl := h.lt
  obtain ⟨u0, hu⟩ : ∃ u0, u0 = w.alloc (.cells #[.int .i64 0, .int .i64 0, .int .i64 0, .slice none 0 0] 25) := ⟨_, rfl⟩
  have Hz : Hid (u0.heap.size = w.heap.size + 1) := Lib.hid (by rw [hu]; simp)
  have HX0 : Hid (Bx u0 w.heap.size 25 (imC 0 0 0 (.slice none 0 0))) := Lib.hid (by rw [hu]; exact Bx.new w _ _)
  have HR0 : Hid (Rdr u0 g N) := Lib.hid (by rw [hu]; exact h.alloc _)
  have HG0 : Hid (w.grownBy u0 (some g)) := Lib.hid (by rw [hu]; exact World.grownBy_alloc w _ _)
  have HU := Lib.hid hu
  clear h hu
  go_enter Try.func25, Try.ntmps25
  go_wp2_with fail
  rw [← HU.out]
  clear HU
  refine (anyPlanes_any g N u0 HR0.out (by omega)).mono ?_
  rintro e u1 ⟨P', rfl, hP', hR1, hG1⟩
  obtain ⟨P, rfl⟩ := Int.eq_ofNat_of_zero_le (show 0 ≤ P' by omega)
  have hP1 : 1 ≤ P := by omega
  have hP4 : P ≤ 4 := by omega
  have HX1 := Lib.hid (bx_gr HX0.out hG1 (by omega))
  have HG1 := Lib.hid (gtrans HG0.out hG1)
  have Hz1 : Hid (w.heap.size + 1 ≤ u1.heap.size) := Lib.hid (by have := hG1.size; have := Hz.out; omega)
  clear hP' hG1 HX0 HG0 HR0 Hz
  go_wp2_with fail
  refine (randomImage_any P hP1 hP4 g (N + 1) u1 hR1 (by omega)).mono ?_
  rintro e u2 ⟨W, H, gb, c, xs, rfl, hW1, hW8, hH1, hH8, hl, hO, hR2, hG2⟩
  have hWH : W * H ≤ 64 := by have := Nat.mul_le_mul hW8 hH8; omega
  have hn256 : W * H * P ≤ 256 := by have := Nat.mul_le_mul hWH hP4; omega
  have hnpos : 0 < W * H * P := Nat.mul_pos (Nat.mul_pos (by omega) (by omega)) (by omega)
  have HX2 := Lib.hid (bx_gr HX1.out hG2 (by omega))
  have Hz2 := Lib.hid hG2.size
  have HG2 := Lib.hid hG2
  have HL := Lib.hid (show 0 < xs.length ∧ xs.length ≤ 256 by omega)
  clear HX1 hG2 hR1 hl hWH hn256 hnpos
  go_wp2_with fail
  refine (spoilImage_any W H P (by omega) (by omega) (by omega) gb c xs.length xs rfl HL.out.1 HL.out.2 u1.heap.size g (N + 301) u1 u2 HG2.out rfl hO (by have := Hz1.out; omega) (hR2.more (by omega)) (by omega)).mono ?_
  rintro e u3 ⟨W3, H3, P3, A3, c3, ys, rfl, hy, hyc, hr3, hR3, hG3, hA3⟩
  have HX3 : Hid (Bx u3 w.heap.size 25 (imC 0 0 0 (.slice none 0 0))) := Lib.hid ((hG3.block _ (by have := Hz1.out; omega) (by simp; omega)).trans ((HG2.out.block _ (by have := Hz1.out; omega) (by simp; omega)).symm.trans HX2.out))
  obtain ⟨r0, r1, r2, r3⟩ := HX3.out.im
  have f0 := HX3.out.fz 0
  have f1 := HX3.out.fz 1
  have f2 := HX3.out.fz 2
  have f3 := HX3.out.fz 3
  have HE : Hid (∀ v0 v1 v2 v3 : Value, DrawIm g (N + 304) w (.returned (.agg #[.int .i64 W3, .int .i64 H3, .int .i64 P3, .slice A3 ys.length c3])) ((((u3.setCell ⟨w.heap.size, 0, none⟩ v0).setCell ⟨w.heap.size, 1, none⟩ v1).setCell ⟨w.heap.size, 2, none⟩ v2).setCell ⟨w.heap.size, 3, none⟩ v3)) := Lib.hid fun v0 v1 v2 v3 =>
    draw_store hy hyc hr3 (fun a ha => by have := hA3 a ha; have := Hz1.out; omega) hR3 (gtrans HG1.out hG3) hgl (Nat.le_refl _) v0 v1 v2 v3
  clear HX2 HX3 HG1 HG2 HL Hz1 Hz2 hO hR2 hr3 hR3 hG3 hA3 hy hyc
  go_wp2
  exact bodyPost_ret (v := .agg #[.int .i64 W3, .int .i64 H3, .int .i64 P3, .slice A3 ys.length c3]) (by simp [results, Try.results25, go_sem, r0, r1, r2, r3]) rfl (HE.out _ _ _ _)
/-- Drawn from a code: an image of few numbers. -/
def DrawnIm (w : World) (e : Ending) (w' : World) : Prop :=
  ∃ (W H P : Int) (A : Option Addr) (c : Nat) (xs : List Int), e = .returned (.agg #[.int .i64 W, .int .i64 H, .int .i64 P, .slice A xs.length c]) ∧ xs.length ≤ 256 ∧ xs.length ≤ c ∧ Rds .i64 w' w'.heap.size A xs ∧ Below w.heap.size w w'
set_option maxHeartbeats 4000000 in
theorem drawFli_any (A : Option Addr) (c : Nat) (bs : List Int) (w : World) (hc : bs.length ≤ c) (h : Rdw .u8 w w.heap.size A bs) :
    Calls Try.prog 7 #[.slice A bs.length c] w (DrawnIm w) := by
  obtain ⟨u0, hu⟩ : ∃ u0, u0 = w.alloc (.cells #[.int .i64 0, .int .i64 0, .int .i64 0, .slice none 0 0] 25) := ⟨_, rfl⟩
  have Hz : Hid (u0.heap.size = w.heap.size + 1) := Lib.hid (by rw [hu]; simp)
  have HX0 : Hid (Bx u0 w.heap.size 25 (imC 0 0 0 (.slice none 0 0))) := Lib.hid (by rw [hu]; exact Bx.new w _ _)
  have HB0 : Hid (Below w.heap.size w u0) := Lib.hid (by rw [hu]; exact (Below.refl _ _).alloc (Nat.le_refl _) _)
  have Hh : Hid (Rdw .u8 u0 u0.heap.size A bs) := Lib.hid ⟨(h.1.below HB0.out).more HB0.out.size, h.2⟩
  have HU := Lib.hid hu
  clear h hu
  go_enter Try.func7, Try.ntmps7
  go_wp2_with fail
  rw [← HU.out]
  clear HU
  refine (newReader_any A c bs u0 hc Hh.out).mono ?_
  rintro e u1 ⟨rfl, hr1, hb1, hs1⟩
  have HX1 := Lib.hid (HX0.out.below hb1)
  have HB1 := Lib.hid (HB0.out.trans (hb1.mono HB0.out.size))
  have Hs := Lib.hid hs1
  clear hs1 hb1 HX0 HB0 Hh
  go_wp2_with fail
  refine (anyImage_any u0.heap.size 0 u1 hr1 (by omega)).mono ?_
  rintro e u3 ⟨W3, H3, P3, A3, c3, ys, rfl, hy, hyc, hr3, hR3, hG3, hA3⟩
  have HX3 : Hid (Bx u3 w.heap.size 25 (imC 0 0 0 (.slice none 0 0))) := Lib.hid (bx_gr HX1.out hG3 (by have := Hz.out; omega))
  obtain ⟨r0, r1, r2, r3⟩ := HX3.out.im
  have f0 := HX3.out.fz 0
  have f1 := HX3.out.fz 1
  have f2 := HX3.out.fz 2
  have f3 := HX3.out.fz 3
  have HE : Hid (∀ v0 v1 v2 v3 : Value, DrawnIm w (.returned (.agg #[.int .i64 W3, .int .i64 H3, .int .i64 P3, .slice A3 ys.length c3])) ((((u3.setCell ⟨w.heap.size, 0, none⟩ v0).setCell ⟨w.heap.size, 1, none⟩ v1).setCell ⟨w.heap.size, 2, none⟩ v2).setCell ⟨w.heap.size, 3, none⟩ v3)) := Lib.hid fun v0 v1 v2 v3 => by
    have hG4 : u1.grownBy u3 (some u0.heap.size) := hG3
    have hB3 : Below w.heap.size w u3 := HB1.out.grown hG4 HB1.out.size (fun k hk => by injection hk with hk; have := Hz.out; omega)
    refine ⟨W3, H3, P3, A3, c3, ys, rfl, hy.1, hyc, ?_, (((hB3.setCell (Nat.le_refl _) v0).setCell (Nat.le_refl _) v1).setCell (Nat.le_refl _) v2).setCell (Nat.le_refl _) v3⟩
    rcases hr3 with h | ⟨b, off, rfl, hb, hcl⟩
    · exact .inl h
    · have hne : b ≠ w.heap.size := by have : u1.heap.size ≤ b := hA3 _ rfl; have := Hz.out; have := Hs.out; omega
      exact (((((Rds.setOff (.inr ⟨b, off, rfl, hb, hcl⟩ : Rds .i64 u3 u3.heap.size (some ⟨b, off, none⟩) ys) hne v0).setOff hne v1).setOff hne v2).setOff hne v3).more (by simp [World.setCell]))
  clear HX1 HX3 HB1 hr1 hr3 hR3 hG3 hA3 hy hyc
  go_wp2
  exact bodyPost_ret (v := .agg #[.int .i64 W3, .int .i64 H3, .int .i64 P3, .slice A3 ys.length c3]) (by simp [results, Try.results7, go_sem, r0, r1, r2, r3]) rfl (HE.out _ _ _ _)
end Go.Proofs.Ytolifmgkkkclkaa
