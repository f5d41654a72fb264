/- Contract of the drawing of an image and a list of 256 numbers. -/
import Derived.Test.YtebfaomlljekiaaDrawImg3
import Derived.Deep.RegionHeld3
namespace Go.Proofs.Ytebfaomlljekiaa
open Go.RowKit
set_option linter.unusedSimpArgs false
set_option linter.unusedVariables false
set_option maxRecDepth 20000

/-- Drawn from a code: an image and a list. -/
def DrawnMap (w : World) (e : Ending) (w' : World) : Prop :=
  ∃ (W H P : Int) (A : Option Addr) (c : Nat) (xs : List Int) (A' : Option Addr) (c' : Nat) (q : List Int), e = .returned (.tuple #[.agg #[.int .i64 W, .int .i64 H, .int .i64 P, .slice A xs.length c], .slice A' q.length c']) ∧ xs.length ≤ 256 ∧ xs.length ≤ c ∧ Rds .i64 w' w'.heap.size A xs ∧ q.length ≤ 300 ∧ q.length ≤ c' ∧ Rds .i64 w' w'.heap.size A' q ∧ Below w.heap.size w w'
set_option maxHeartbeats 8000000 in
theorem drawMap_any (A : Option Addr) (c : Nat) (bs : List Int) (w : World) (hc : bs.length ≤ c) (h : Rdw .u8 w w.heap.size A bs) :
    Calls Try.prog 15 #[.slice A bs.length c] w (DrawnMap w) := by
  obtain ⟨u0, hu⟩ : ∃ u0, u0 = w.alloc (.cells #[.int .i64 0, .int .i64 0, .int .i64 0, .slice none 0 0] 25) := ⟨_, rfl⟩
  have hz : u0.heap.size = w.heap.size + 1 := by rw [hu]; simp
  have HX0 : Hid (Bx u0 w.heap.size 25 (imC 0 0 0 (.slice none 0 0))) := Lib.hid (by rw [hu]; exact Bx.new w _ _)
  have HB0 : Hid (Below w.heap.size w u0) := Lib.hid (by rw [hu]; exact (Below.refl _ _).alloc (Nat.le_refl _) _)
  have Hh : Hid (Rdw .u8 u0 u0.heap.size A bs) := Lib.hid ⟨(h.1.below HB0.out).more HB0.out.size, h.2⟩
  have HU := Lib.hid hu
  clear h hu
  go_enter Try.func15, Try.ntmps15
  go_wp2_with fail
  rw [← HU.out]
  clear HU
  refine (newReader_any A c bs u0 hc Hh.out).mono ?_
  rintro e u1 ⟨rfl, hr1, hb1, hs1⟩
  have HX1 := Lib.hid (HX0.out.below hb1)
  have HB1 := Lib.hid (HB0.out.trans (hb1.mono HB0.out.size))
  obtain ⟨g, hg⟩ : ∃ g, g = u0.heap.size := ⟨_, rfl⟩
  rw [← hg] at hr1 ⊢
  have hgw : g = w.heap.size + 1 := by omega
  have hsz1 : u1.heap.size = w.heap.size + 2 := by omega
  have Hg := Lib.hid hgw
  have Hs1 := Lib.hid hsz1
  clear hs1 hb1 HX0 HB0 Hh hg hgw hsz1 hz
  go_wp2_with fail
  refine (anyImage_any g 0 u1 hr1 (by omega)).mono ?_
  rintro e u3 ⟨W3, H3, P3, A3, c3, ys, rfl, hy, hyc, hr3, hR3, hG3, hA3⟩
  obtain ⟨u4, hu4⟩ : ∃ u4, u4 = u3.alloc (.cells #[.int .i64 W3, .int .i64 H3, .int .i64 P3, .slice A3 ys.length c3] 25) := ⟨_, rfl⟩
  obtain ⟨b3, hb3⟩ : ∃ b3, b3 = u3.heap.size := ⟨_, rfl⟩
  have hz3 : w.heap.size + 2 ≤ u3.heap.size := by have := hG3.size; have := Hs1.out; omega
  have HX4 : Hid (Bx u4 w.heap.size 25 (imC 0 0 0 (.slice none 0 0))) := Lib.hid (by rw [hu4]; exact (bx_gr HX1.out hG3 (by have := Hg.out; omega)).alloc _)
  have HT4 : Hid (Bx u4 b3 25 (imC W3 H3 P3 (.slice A3 ys.length c3))) := Lib.hid (by rw [hu4, hb3]; exact Bx.new u3 _ _)
  have HR4 : Hid (Rdr u4 g 304) := Lib.hid (by rw [hu4]; exact hR3.alloc _)
  have HY4 : Hid (Rds .i64 u4 u4.heap.size A3 ys) := Lib.hid (by rw [hu4]; exact (hr3.alloc (Nat.le_refl _) _).more (by simp))
  have HB4 : Hid (Below w.heap.size w u4) := Lib.hid (by rw [hu4]; exact (HB1.out.grown hG3 HB1.out.size (fun k hk => by injection hk with hk; have := Hg.out; omega)).alloc (by omega) _)
  have hA4 : ∀ a : Addr, A3 = some a → w.heap.size + 2 ≤ a.block := fun a ha => by have := hA3 a ha; have := Hs1.out; omega
  have HA := Lib.hid hA4
  have hb3g : g < b3 := by have := Hg.out; omega
  have hnb : b3 ≠ w.heap.size := by have := Hg.out; omega
  have hz4 : w.heap.size + 2 ≤ u4.heap.size := by rw [hu4]; simp; omega
  have HU4 := Lib.hid hu4
  have HU3 := Lib.hid hb3
  clear HX1 HB1 hr1 hr3 hR3 hG3 hA3 hA4 hu4 hb3 hz3
  go_wp2_with fail
  (try rw [← HU3.out])
  rw [← HU4.out]
  have hb4 : u4.heap.size = b3 + 1 := by rw [HU4.out, HU3.out]; simp
  clear HU4
  obtain ⟨base, hbase⟩ : ∃ b, b = b3 + 1 := ⟨_, rfl⟩
  have hO0 := own_none u4
  have hR0 := HR4.out.alloc (.cells #[] 3)
  have hG0 := World.grownBy_alloc u4 (.cells #[] 3) (some g)
  rw [hb4, ← hbase] at hO0
  rw [← hbase]
  have hgb : g < base := by omega
  have HBase := Lib.hid (hb4.trans hbase.symm)
  generalize u4.alloc (.cells #[] 3) = u5 at *
  have HO0 := Lib.hid hO0
  have HG0 := Lib.hid hG0
  clear hO0 hG0 hbase hb4
  refine (pick_any 7 g 304 u5 hR0 (by omega) (by omega)).mono ?_
  intro e u6 hp
  obtain ⟨K, rfl, hK, hR6, hG6, hz6⟩ := picked_nat hp (by omega)
  have HI0 : Hid (Own u6 base (.slice (some ⟨base, 0, none⟩) 0 0) [] ∧ Rdr u6 g (305 + 0) ∧ u4.grownBy u6 (some g)) := Lib.hid ⟨HO0.out.off hG6 hgb, hR6, gtrans HG0.out hG6⟩
  have hKw : IntKind.i64.wrap (1 + (K : Int)) = 1 + (K : Int) := IntWalk.i64_in _ (by omega)
  clear hp hR0 hR6 hG6 hz6 HO0 HG0 HR4
  go_wp2
  (try rw [← HU3.out])
  clear HU3
  go_loopw [6, 8] (fun v i wr => ∃ (k : Nat) (zs : List Int), k ≤ 256 ∧ i = .int .i64 (k : Int) ∧ zs.length = k ∧ Hid (Own wr base v zs ∧ Rdr wr g (305 + k) ∧ u4.grownBy wr (some g))) (fun _ i _ => 256 - (intOf i).toNat)
  case atStart => exact ⟨0, [], by omega, rfl, rfl, HI0⟩
  case round =>
    obtain ⟨k, zs, hk, rfl, hzl, hI⟩ := hrel
    obtain ⟨hO, hR, hG⟩ := hI.out
    obtain ⟨A1, c1, rfl, hc1⟩ := hO.slice
    have HZL := Lib.hid hzl
    have hzl2 : zs.length ≤ 256 := by omega
    have HO := Lib.hid hO
    have HR := Lib.hid hR
    have HG := Lib.hid hG
    clear hO hR hG hI hzl HI0
    by_cases hlt : k < 256
    · have hb0 : 0 ≤ (k : Int) * (1 + (K : Int)) := Int.mul_nonneg (by omega) (by omega)
      have hb1 : (k : Int) * (1 + (K : Int)) ≤ 256 * 8 := Int.mul_le_mul (by omega) (by omega) (by omega) (by omega)
      have hkw : IntKind.i64.wrap ((k : Int) * (1 + (K : Int))) = (k : Int) * (1 + (K : Int)) := IntWalk.i64_in _ (by omega)
      go_wp2_with fail
      refine (pick_any 3 g (305 + k) wr HR.out (by omega) (by omega)).mono ?_
      intro e w2 hp
      obtain ⟨x, rfl, hx, hR2, hG2, hs2⟩ := picked_nat hp (by omega)
      have hxw : IntKind.i64.wrap ((k : Int) * (1 + (K : Int)) + (x : Int)) = (k : Int) * (1 + (K : Int)) + (x : Int) := IntWalk.i64_in _ (by omega)
      generalize (k : Int) * (1 + (K : Int)) = kk at *
      have hxm : ((kk : Int) + (x : Int)).tmod 256 = (kk + (x : Int)) % 256 := Int.tmod_eq_emod_of_nonneg (by omega)
      have hxw2 : IntKind.i64.wrap ((kk + (x : Int)) % 256) = (kk + (x : Int)) % 256 := IntWalk.i64_in _ (by omega)
      obtain ⟨val, hval⟩ : ∃ val, val = (kk + (x : Int)) % 256 := ⟨_, rfl⟩
      have hv0 : 0 ≤ val ∧ val ≤ 255 := by omega
      rw [← hval] at hxm hxw2
      have HO2 := Lib.hid ((HO.out.off hG2 hgb).alloc (.cells #[.int .i64 val] 3))
      have HR2 := Lib.hid (hR2.alloc (.cells #[.int .i64 val] 3))
      have HG2 := Lib.hid (gtrans (gtrans HG.out hG2) (World.grownBy_alloc w2 (.cells #[.int .i64 val] 3) (some g)))
      have HQ := Lib.hid (rds_one w2 val)
      have hz2 : base ≤ w2.heap.size := by have h1 := HG.out.size; have h2 := hG2.size; have := HBase.out; omega
      clear hp hR2 hG2 hs2 HO HR HG hval
      go_wp2_with (at_builtin; refine wpList_app rfl (.tmp 21) (.tmp 29) rfl base (.slice A1 zs.length c1) zs rfl HO2.out (some ⟨w2.heap.size, 0, none⟩) 1 1 _ [val] rfl rfl HQ.out (by simp; omega) (by simp; omega) ?_; intro v3 w3 hO3 hG3)
      have HN : Hid (Own w3 base v3 (zs ++ [val]) ∧ Rdr w3 g (305 + (k + 1)) ∧ u4.grownBy w3 (some g)) := Lib.hid ⟨hO3, (HR2.out.grown hG3 (fun j hj => by have := (HO2.out.lt j hj).1; omega)).more (by omega), gmix HG2.out hG3 (fun j hj => by have h1 := (HO2.out.lt j hj).1; have h2 := HBase.out; omega)⟩
      clear hO3 hG3 HO2 HR2 HG2 HQ
      go_roundw
      case rel => exact ⟨k + 1, _, by omega, by go_num, by simp [HZL.out], HN⟩
      case measure => simp [intOf]; omega
    · have hk' : k = 256 := by omega
      have HT5 := Lib.hid (bx_gr HT4.out HG.out (by omega))
      have HX5 := Lib.hid (bx_gr HX4.out HG.out (by have := Hg.out; omega))
      have hge : u4.heap.size ≤ wr.heap.size := HG.out.size
      obtain ⟨m0, m1, m2, m3⟩ := HT5.out.im
      obtain ⟨r0, r1, r2, r3⟩ := HX5.out.im
      have hml := HT5.out.lt
      have hrl := HX5.out.lt
      go_wp2
      (try rw [← HU3.out])
      go_region_held3 (fun w' => w'.cell? ⟨b3, 0, none⟩ = some (.int .i64 W3) ∧ w'.cell? ⟨b3, 1, none⟩ = some (.int .i64 H3) ∧ w'.cell? ⟨b3, 2, none⟩ = some (.int .i64 P3) ∧ w'.cell? ⟨b3, 3, none⟩ = some (.slice A3 ys.length c3))
        (first | (with_reducible exact ⟨k0, k1, k2, k3⟩) | (with_reducible exact ⟨(sc4 hnb _ _ _ _).trans k0, (sc4 hnb _ _ _ _).trans k1, (sc4 hnb _ _ _ _).trans k2, (sc4 hnb _ _ _ _).trans k3⟩) | exact ⟨m0, m1, m2, m3⟩ | go_keep)
        (first | (go_at_call 73; refine (spoil_any A1 c1 zs 256 g (305 + k) wr.drew (by exact HR.out) (by omega) (by exact HO.out.rds.2) (by omega)).mono ?_; rintro e u7 ⟨A7, c7, q, rfl, hqc, hql, hq7, hR7, hG7, hA7⟩; have HT7 := Lib.hid (bx_gr (w := wr.drew) HT5.out hG7 (by omega)); obtain ⟨k0, k1, k2, k3⟩ := HT7.out.im; have HX7 := Lib.hid (bx_gr (w := wr.drew) HX5.out hG7 (by have := Hg.out; omega)); have HG7 : Hid (u4.grownBy u7 (some g)) := Lib.hid (gtrans (b := wr.drew) ⟨HG.out.os, HG.out.tape, HG.out.output, HG.out.size, HG.out.block⟩ hG7); have Hq7 := Lib.hid hq7; have HA7 : Hid (∀ b : Addr, A7 = some b → wr.heap.size ≤ b.block) := Lib.hid hA7; obtain ⟨r0, r1, r2, r3⟩ := HX7.out.im; have f0 := HX7.out.fz 0; have f1 := HX7.out.fz 1; have f2 := HX7.out.fz 2; have f3 := HX7.out.fz 3; clear hR7 hG7 hq7 hA7))
      all_goals
        have HE : Hid (∀ v0 v1 v2 v3 : Value, DrawnMap w (.returned (.tuple #[.agg #[.int .i64 W3, .int .i64 H3, .int .i64 P3, .slice A3 ys.length c3], .slice A7 q.length c7])) ((((u7.setCell ⟨w.heap.size, 0, none⟩ v0).setCell ⟨w.heap.size, 1, none⟩ v1).setCell ⟨w.heap.size, 2, none⟩ v2).setCell ⟨w.heap.size, 3, none⟩ v3)) := Lib.hid fun v0 v1 v2 v3 => by
          have hG : u4.grownBy u7 (some g) := HG7.out
          have hB : Below w.heap.size w u7 := HB4.out.grown hG HB4.out.size (fun k hk => by injection hk with hk; have := Hg.out; omega)
          have hr : Rds .i64 u7 u7.heap.size A3 ys := (Rds.offG HY4.out (Nat.le_refl _) (lo := w.heap.size + 2) (fun a ha => HA.out a ha) hG (by have := Hg.out; omega)).more hG.size
          exact ⟨W3, H3, P3, A3, c3, ys, A7, c7, q, rfl, hy.1, hyc, rds_sets4 hr (fun a ha => by have := HA.out a ha; omega) v0 v1 v2 v3, by omega, hqc, rds_sets4 Hq7.out (fun a ha => by have := HA7.out a ha; omega) v0 v1 v2 v3, bel_sets4 hB (Nat.le_refl _) v0 v1 v2 v3⟩
        clear HX5 HT5 HX7 HT7 HG7 HR HG HO HY4 HB4 Hq7 HA7 m0 m1 m2 m3 k0 k1 k2 k3
        go_wp2
        exact bodyPost_ret (v := .tuple #[.agg #[.int .i64 W3, .int .i64 H3, .int .i64 P3, .slice A3 ys.length c3], .slice A7 q.length c7]) (by simp [results, Try.results15, go_sem, r0, r1, r2, r3]) rfl (HE.out _ _ _ _)
end Go.Proofs.Ytebfaomlljekiaa
