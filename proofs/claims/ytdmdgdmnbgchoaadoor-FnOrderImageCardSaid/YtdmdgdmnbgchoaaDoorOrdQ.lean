/- OrdL, DrawDif: one text of several. -/
import Derived.Test.YtdmdgdmnbgchoaaDoorOrdM
import Derived.Test.YtdmdgdmnbgchoaaDoorGridF
import Derived.Test.YtdmdgdmnbgchoaaDoorDrawImg2
import Derived.Test.YtdmdgdmnbgchoaaDoorDrawHis
import Derived.Test.YtdmdgdmnbgchoaaDoorDrawLevel
import Derived.Deep.RegionHeld3
import Derived.Deep.CutRange
import Derived.Deep.Cut
namespace Go.Proofs.YtdmdgdmnbgchoaaDoor
set_option linter.unusedSimpArgs false
set_option linter.unusedVariables false

/-- The level of a level's value is the level. -/
theorem lev_lval {L k : Int} (hL : 2 ≤ L ∧ L ≤ 16) (hk : 0 ≤ k ∧ k ≤ L - 1) : lev (lval k L) L = k := by
  have h : ∀ a b : Fin 17, 2 ≤ a.val → b.val < a.val → lev (lval (b.val : Int) (a.val : Int)) (a.val : Int) = (b.val : Int) := by decide +kernel
  obtain ⟨a, rfl⟩ := Int.eq_ofNat_of_zero_le (show 0 ≤ L by omega)
  obtain ⟨b, rfl⟩ := Int.eq_ofNat_of_zero_le hk.1
  exact h ⟨a, by omega⟩ ⟨b, by omega⟩ (by show 2 ≤ a; omega) (by show b < a; omega)
theorem lval_mon {k k' L : Int} (h : k ≤ k') (hL : 2 ≤ L) : lval k L ≤ lval k' L := by
  unfold lval
  exact Int.ediv_le_ediv (by omega) (by omega)
theorem od_mono {n n' L b : Int} (h : n ≤ n') (hL : 2 ≤ L) : odV n L b ≤ odV n' L b := by
  unfold odV
  refine lval_mon (Int.ediv_le_ediv (by omega) ?_) hL
  have h1 : n * (L - 1) ≤ n' * (L - 1) := Int.mul_le_mul_of_nonneg_right h (by omega)
  unfold odN
  rw [Int.mul_assoc, Int.mul_assoc]
  omega
theorem od_zero {L b : Int} (hL : 2 ≤ L) (hb : 0 ≤ b ∧ b ≤ 15) : odV 0 L b = 0 := by
  have e : odN 0 L b / 4080 = 0 := by
    unfold odN
    rw [Int.mul_zero, Int.zero_mul]
    omega
  unfold odV
  rw [e]
  unfold lval
  simp
theorem od_full {L b : Int} (hL : 2 ≤ L) (hb : 0 ≤ b ∧ b ≤ 15) : odV 255 L b = 255 := by
  have e : odN 255 L b / 4080 = L - 1 := by
    unfold odN
    omega
  unfold odV
  rw [e]
  unfold lval
  exact Int.mul_ediv_cancel _ (by omega)
/-- The value of a level is that of its own level. -/
theorem od_level {n L b : Int} (hn : 0 ≤ n ∧ n ≤ 255) (hL : 2 ≤ L ∧ L ≤ 16) (hb : 0 ≤ b ∧ b ≤ 15) : lval (lev (odV n L b) L) L = odV n L b ∧ 0 ≤ lev (odV n L b) L ∧ lev (odV n L b) L ≤ L - 1 := by
  obtain ⟨_, _, _, _, h1, h2⟩ := od_bd hn hL hb
  unfold odV
  rw [lev_lval hL ⟨h1, h2⟩]
  exact ⟨rfl, h1, h2⟩
/-- A number of the ordered image. -/
theorem odL_get {W H : Nat} {xs : List Int} {L : Int} (hl : xs.length = W * H) {j : Nat} (hj : j < xs.length) : (odL W H xs L).getD j 0 = odV (xs.getD j 0) L (bay (j % W) (j / W)) := by
  have hW : 0 < W := by
    rcases Nat.eq_zero_or_pos W with h | h
    · subst h; rw [Nat.zero_mul] at hl; omega
    · exact h
  have h := img_at (W := W) (H := H) (P := 1) (fun x y _ => odV (px W 1 xs x y 0) L (bay x y)) (k := j) (p := 0) (by omega) (by omega)
  rw [Nat.mul_one, Nat.add_zero] at h
  unfold odL
  rw [h]
  unfold px pix
  have e : (j / W * W + j % W) * 1 + 0 = j := by rw [Nat.mul_one, Nat.add_zero, Nat.mul_comm]; exact Nat.div_add_mod j W
  rw [e]
/-- The first k numbers made greater by 20, but not above 255. -/
def moL (xs : List Int) (k : Nat) : List Int := (List.range xs.length).map fun j => if j < k then min 255 (xs.getD j 0 + 20) else xs.getD j 0
theorem mo_len (xs : List Int) (k : Nat) : (moL xs k).length = xs.length := by simp [moL]
theorem mo_get {xs : List Int} {k j : Nat} (hj : j < xs.length) : (moL xs k).getD j 0 = if j < k then min 255 (xs.getD j 0 + 20) else xs.getD j 0 := by
  unfold moL
  rw [List.getD_eq_getElem?_getD, List.getElem?_map, List.getElem?_range hj]
  rfl
theorem mo_zero (xs : List Int) : moL xs 0 = xs := by
  refine List.ext_getElem (mo_len _ _) fun j h1 h2 => ?_
  simp [moL, h2]
theorem mo_set {xs : List Int} {k : Nat} (hk : k < xs.length) : (moL xs k).set k (min 255 (xs.getD k 0 + 20)) = moL xs (k + 1) := by
  refine List.ext_getElem (by simp [mo_len]) fun j h1 h2 => ?_
  rw [mo_len] at h2
  rw [List.getElem_set]
  by_cases e : k = j
  · subst e; simp [moL]
  · rw [if_neg e]
    simp only [moL, List.getElem_map, List.getElem_range]
    by_cases e2 : j < k
    · rw [if_pos e2, if_pos (by omega)]
    · rw [if_neg e2, if_neg (by omega)]
/-- What the law says of an ordered image. -/
theorem ord_law {W H P q : Int} {xs : List Int} (h : odB W H P xs q = true) : ∃ w hh : Nat, W = w ∧ H = hh ∧ P = 1 ∧ (2 ≤ q ∧ q ≤ 16) ∧ (0 < xs.length ∧ xs.length ≤ 256) ∧ (odL w hh xs q).length = xs.length ∧ (odL w hh (moL xs xs.length) q).length = xs.length ∧ odB w hh 1 (moL xs xs.length) q = true ∧
    ∀ j, j < xs.length → (0 ≤ xs.getD j 0 ∧ xs.getD j 0 ≤ 255) ∧ (0 ≤ lev ((odL w hh xs q).getD j 0) q ∧ lev ((odL w hh xs q).getD j 0) q ≤ 15 ∧ Int.tdiv (255 * lev ((odL w hh xs q).getD j 0) q) (q - 1) = (odL w hh xs q).getD j 0) ∧ (xs.getD j 0 = 0 → (odL w hh xs q).getD j 0 = 0) ∧ (xs.getD j 0 = 255 → (odL w hh xs q).getD j 0 = 255) ∧ ¬ (odL w hh (moL xs xs.length) q).getD j 0 < (odL w hh xs q).getD j 0 := by
  have h' : ((vim W H P xs && decide (P = 1)) && decide (2 ≤ q ∧ q ≤ 16)) = true := h
  simp only [Bool.and_eq_true, decide_eq_true_eq] at h'
  obtain ⟨⟨hv, hP⟩, hq⟩ := h'
  obtain ⟨w, hh, p, rfl, rfl, rfl, a1, a2, a3, a4, a5, a6, hl, hb⟩ := vim_nat hv
  obtain rfl : p = 1 := by omega
  rw [Nat.mul_one] at hl
  have hpos : 0 < w * hh := Nat.mul_pos a1 a3
  have hle : w * hh ≤ 16 * 16 := Nat.mul_le_mul a2 a4
  have l1 : ∀ ys : List Int, (odL w hh ys q).length = w * hh := fun ys => by unfold odL; rw [img_len, Nat.mul_one]
  have hm : ∀ j, j < xs.length → 0 ≤ (moL xs xs.length).getD j 0 ∧ (moL xs xs.length).getD j 0 ≤ 255 ∧ xs.getD j 0 ≤ (moL xs xs.length).getD j 0 := fun j hj => by
    rw [mo_get hj, if_pos hj]
    have := hb j hj
    omega
  have hv' : (vsh (w : Int) hh (1 : Nat) && (decide ((xs.length : Int) = (w : Int) * hh * (1 : Nat)) && allB 0 255 xs)) = true := hv
  simp only [Bool.and_eq_true, decide_eq_true_eq] at hv'
  have hvm : (vsh (w : Int) hh (1 : Nat) && (decide (((moL xs xs.length).length : Int) = (w : Int) * hh * (1 : Nat)) && allB 0 255 (moL xs xs.length))) = true := by
    simp only [Bool.and_eq_true, decide_eq_true_eq]
    refine ⟨hv'.1, by rw [mo_len]; exact hv'.2.1, allB_yes fun j hj => ?_⟩
    rw [mo_len] at hj
    exact ⟨(hm j hj).1, (hm j hj).2.1⟩
  refine ⟨w, hh, rfl, rfl, rfl, hq, ⟨by omega, by omega⟩, by rw [l1, hl], by rw [l1, hl], ?_, fun j hj => ?_⟩
  · show ((vim (w : Int) hh (1 : Nat) (moL xs xs.length) && decide (((1 : Nat) : Int) = 1)) && decide (2 ≤ q ∧ q ≤ 16)) = true
    rw [show vim (w : Int) hh (1 : Nat) (moL xs xs.length) = true from hvm, decide_eq_true hq]
    rfl
  · have hbj := hb j hj
    have hB := bay_bd (j % w) (j / w)
    have e1 := odL_get (L := q) hl hj
    have e2 := odL_get (W := w) (H := hh) (L := q) (xs := moL xs xs.length) (j := j) (by rw [mo_len]; exact hl) (by rw [mo_len]; exact hj)
    obtain ⟨k1, k2, k3⟩ := od_level hbj hq hB
    rw [e1, e2]
    refine ⟨hbj, ⟨k2, by omega, ?_⟩, fun e => by rw [e]; exact od_zero hq.1 hB, fun e => by rw [e]; exact od_full hq.1 hB, ?_⟩
    · rw [Int.tdiv_eq_ediv_of_nonneg (by omega)]
      exact k1
    · have := od_mono (b := bay (j % w) (j / w)) (hm j hj).2.2 hq.1
      omega
end Go.Proofs.YtdmdgdmnbgchoaaDoor
namespace Go.Proofs.YtdmdgdmnbgchoaaDoor
open Go.RowKit Go.Shelf
set_option linter.unusedSimpArgs false
set_option linter.unusedVariables false
set_option maxRecDepth 20000

theorem dif_sc4 {w : World} {r b : Nat} (h : b ≠ r) (v0 v1 v2 v3 : Value) {i : Nat} : ((((w.setCell ⟨r, 0, none⟩ v0).setCell ⟨r, 1, none⟩ v1).setCell ⟨r, 2, none⟩ v2).setCell ⟨r, 3, none⟩ v3).cell? ⟨b, i, none⟩ = w.cell? ⟨b, i, none⟩ := by
  rw [World.cell?_setCell_other _ ⟨r, 3, none⟩ ⟨b, i, none⟩ _ (fun e => by injection e with e1; exact h e1.symm), World.cell?_setCell_other _ ⟨r, 2, none⟩ ⟨b, i, none⟩ _ (fun e => by injection e with e1; exact h e1.symm), World.cell?_setCell_other _ ⟨r, 1, none⟩ ⟨b, i, none⟩ _ (fun e => by injection e with e1; exact h e1.symm), World.cell?_setCell_other _ ⟨r, 0, none⟩ ⟨b, i, none⟩ _ (fun e => by injection e with e1; exact h e1.symm)]
theorem dif_gr (u : World) (r : Nat) (v0 v1 v2 v3 : Value) : u.grownBy ((((u.setCell ⟨r, 0, none⟩ v0).setCell ⟨r, 1, none⟩ v1).setCell ⟨r, 2, none⟩ v2).setCell ⟨r, 3, none⟩ v3) (some r) :=
  gtrans (gtrans (gtrans (hset r u 0 v0) (hset r _ 1 v1)) (hset r _ 2 v2)) (hset r _ 3 v3)
/-- Drawn from a code: an image and a number. -/
def DrawnDif (w : World) (e : Ending) (w' : World) : Prop :=
  ∃ (W H P : Int) (A : Option Addr) (c : Nat) (xs : List Int) (q : Int), e = .returned (.tuple #[.agg #[.int .i64 W, .int .i64 H, .int .i64 P, .slice A xs.length c], .int .i64 q]) ∧ (xs.length ≤ 256 ∧ 0 ≤ q ∧ q ≤ 100) ∧ xs.length ≤ c ∧ Rds .i64 w' w'.heap.size A xs ∧ Below w.heap.size w w' ∧ ∀ a : Addr, A = some a → w.heap.size ≤ a.block
set_option maxHeartbeats 8000000 in
theorem drawDif_any (A : Option Addr) (c : Nat) (bs : List Int) (w : World) (hc : bs.length ≤ c) (h : Rdw .u8 w w.heap.size A bs) :
    Calls Tryd.prog 15 #[.slice A bs.length c] w (DrawnDif w) := by
  obtain ⟨u0, hu⟩ : ∃ u0, u0 = w.alloc (.cells #[.int .i64 0, .int .i64 0, .int .i64 0, .slice none 0 0] 25) := ⟨_, rfl⟩
  have hz : u0.heap.size = w.heap.size + 1 := by rw [hu]; simp
  have HX0 : Hid (Bx u0 w.heap.size 25 (imC 0 0 0 (.slice none 0 0))) := Lib.hid (by rw [hu]; exact Bx.new w _ _)
  have HB0 : Hid (Below w.heap.size w u0) := Lib.hid (by rw [hu]; exact (Below.refl _ _).alloc (Nat.le_refl _) _)
  have Hh : Hid (Rdw .u8 u0 u0.heap.size A bs) := Lib.hid ⟨(h.1.below HB0.out).more HB0.out.size, h.2⟩
  have HU := Lib.hid hu
  clear h hu
  go_enter Tryd.func15, Tryd.ntmps15
  go_wp2_with fail
  rw [← HU.out]
  clear HU
  refine (newReader_any A c bs u0 hc Hh.out).mono ?_
  rintro e u1 ⟨rfl, hr1, hb1, hs1⟩
  have HX1 := Lib.hid (HX0.out.below hb1)
  have HB1 := Lib.hid (HB0.out.trans (hb1.mono HB0.out.size))
  obtain ⟨g, hg⟩ : ∃ g, g = u0.heap.size := ⟨_, rfl⟩
  rw [← hg] at hr1 ⊢
  have hgw : g = w.heap.size + 1 := by omega
  have hsz1 : u1.heap.size = w.heap.size + 2 := by omega
  have Hg := Lib.hid hgw
  have Hs1 := Lib.hid hsz1
  clear hs1 hb1 HX0 HB0 Hh hg hgw hsz1 hz
  go_wp2_with fail
  refine (grayImage_any g 0 u1 hr1 (by omega)).mono ?_
  rintro e u3 ⟨W3, H3, P3, A3, c3, ys, rfl, hy, hyc, hr3, hR3, hG3, hA3⟩
  obtain ⟨u4, hu4⟩ : ∃ u4, u4 = u3.alloc (.cells #[.int .i64 W3, .int .i64 H3, .int .i64 P3, .slice A3 ys.length c3] 25) := ⟨_, rfl⟩
  obtain ⟨b3, hb3⟩ : ∃ b3, b3 = u3.heap.size := ⟨_, rfl⟩
  have hz3 : w.heap.size + 2 ≤ u3.heap.size := by have := hG3.size; have := Hs1.out; omega
  have HX4 : Hid (Bx u4 w.heap.size 25 (imC 0 0 0 (.slice none 0 0))) := Lib.hid (by rw [hu4]; exact (bx_gr HX1.out hG3 (by have := Hg.out; omega)).alloc _)
  have HT4 : Hid (Bx u4 b3 25 (imC W3 H3 P3 (.slice A3 ys.length c3))) := Lib.hid (by rw [hu4, hb3]; exact Bx.new u3 _ _)
  have HR4 : Hid (Rdr u4 g 305) := Lib.hid (by rw [hu4]; exact hR3.alloc _)
  have Hr4 : Hid (Rds .i64 u4 u4.heap.size A3 ys) := Lib.hid (by rw [hu4]; exact (hr3.alloc (Nat.le_refl _) _).more (by simp))
  have HB4 : Hid (Below w.heap.size w u4) := Lib.hid (by rw [hu4]; exact (HB1.out.grown hG3 HB1.out.size (fun k hk => by injection hk with hk; have := Hg.out; omega)).alloc (by omega) _)
  have HA := Lib.hid (show ∀ a : Addr, A3 = some a → w.heap.size + 2 ≤ a.block from fun a ha => by have := hA3 a ha; have := Hs1.out; omega)
  have hb3g : g < b3 := by have := Hg.out; omega
  have hnb : b3 ≠ w.heap.size := by have := Hg.out; omega
  have HU4 := Lib.hid hu4
  have HU3 := Lib.hid hb3
  clear HX1 HB1 hr1 hr3 hR3 hG3 hA3 hu4 hb3 hz3
  obtain ⟨t0, t1, t2, t3⟩ := HT4.out.im
  have htl := HT4.out.lt
  go_wp2
  (try rw [← HU3.out])
  rw [← HU4.out]
  clear HU4 HU3
  go_region_held3 (fun w' => w'.cell? ⟨b3, 0, none⟩ = some (.int .i64 W3) ∧ w'.cell? ⟨b3, 1, none⟩ = some (.int .i64 H3) ∧ w'.cell? ⟨b3, 2, none⟩ = some (.int .i64 P3) ∧ w'.cell? ⟨b3, 3, none⟩ = some (.slice A3 ys.length c3))
    (first | (with_reducible exact ⟨k0, k1, k2, k3⟩) | (with_reducible exact ⟨(dif_sc4 hnb _ _ _ _).trans k0, (dif_sc4 hnb _ _ _ _).trans k1, (dif_sc4 hnb _ _ _ _).trans k2, (dif_sc4 hnb _ _ _ _).trans k3⟩) | exact ⟨t0, t1, t2, t3⟩ | go_keep)
    (first | (go_at_call 39; refine (anyLevels_any g 305 u4.drew (by exact HR4.out) (by omega)).mono ?_; rintro e u5 ⟨q, rfl, hq, hR5, hG5⟩; have HT5 := Lib.hid (bx_gr (w := u4.drew) HT4.out hG5 (by omega)); obtain ⟨k0, k1, k2, k3⟩ := HT5.out.im; have HX5 := Lib.hid (bx_gr (w := u4.drew) HX4.out hG5 (by have := Hg.out; omega)); have HG5 := Lib.hid hG5; obtain ⟨r0, r1, r2, r3⟩ := HX5.out.im; have f0 := HX5.out.fz 0; have f1 := HX5.out.fz 1; have f2 := HX5.out.fz 2; have f3 := HX5.out.fz 3; clear hR5 hG5))
  all_goals
    have hG : u4.grownBy u5 (some g) := ⟨HG5.out.os, HG5.out.tape, HG5.out.output, HG5.out.size, HG5.out.block⟩
    have hB : Below w.heap.size w u5 := HB4.out.grown hG HB4.out.size (fun k hk => by injection hk with hk; have := Hg.out; omega)
    have hr : Rds .i64 u5 u5.heap.size A3 ys := (Rds.offG Hr4.out (Nat.le_refl _) (lo := w.heap.size + 2) (fun a ha => HA.out a ha) hG (by have := Hg.out; omega)).more hG.size
    have HE : Hid (∀ v0 v1 v2 v3 : Value, DrawnDif w (.returned (.tuple #[.agg #[.int .i64 W3, .int .i64 H3, .int .i64 P3, .slice A3 ys.length c3], .int .i64 q])) ((((u5.setCell ⟨w.heap.size, 0, none⟩ v0).setCell ⟨w.heap.size, 1, none⟩ v1).setCell ⟨w.heap.size, 2, none⟩ v2).setCell ⟨w.heap.size, 3, none⟩ v3)) := Lib.hid (fun v0 v1 v2 v3 =>
      ⟨W3, H3, P3, A3, c3, ys, q, rfl, ⟨hy.1, hq.1, hq.2⟩, hyc, (Rds.offG hr (Nat.le_refl _) (lo := w.heap.size + 2) (fun a ha => HA.out a ha) (dif_gr u5 w.heap.size v0 v1 v2 v3) (by omega)).more (by simp), hB.grown (dif_gr u5 w.heap.size v0 v1 v2 v3) hB.size (fun k hk => by injection hk with hk; omega), fun a ha => by have := HA.out a ha; omega⟩)
    clear HT4 HX4 HR4 Hr4 HB4 HT5 HG5 t0 t1 t2 t3 k0 k1 k2 k3 hG hB hr
    go_wp2
    exact bodyPost_ret (v := .tuple #[.agg #[.int .i64 W3, .int .i64 H3, .int .i64 P3, .slice A3 ys.length c3], .int .i64 q]) (by simp [results, Tryd.results15, go_sem, r0, r1, r2, r3]) rfl (HE.out _ _ _ _)
set_option maxHeartbeats 4000000 in
theorem dOrd_any (A : Option Addr) (c : Nat) (bs : List Int) (w : World) (hc : bs.length ≤ c) (h : Rdw .u8 w w.heap.size A bs) :
    Calls Tryd.prog 5 #[.slice A bs.length c] w (DrawnDif w) := by
  obtain ⟨u0, hu⟩ : ∃ u0, u0 = w.alloc (.cells #[.int .i64 0, .int .i64 0, .int .i64 0, .slice none 0 0] 25) := ⟨_, rfl⟩
  have Hz : Hid (u0.heap.size = w.heap.size + 1) := Lib.hid (by rw [hu]; simp)
  have HX0 : Hid (Bx u0 w.heap.size 25 (imC 0 0 0 (.slice none 0 0))) := Lib.hid (by rw [hu]; exact Bx.new w _ _)
  have HB0 : Hid (Below w.heap.size w u0) := Lib.hid (by rw [hu]; exact (Below.refl _ _).alloc (Nat.le_refl _) _)
  have Hh : Hid (Rdw .u8 u0 u0.heap.size A bs) := Lib.hid ⟨(h.1.below HB0.out).more HB0.out.size, h.2⟩
  have HU := Lib.hid hu
  clear h hu
  go_enter Tryd.func5, Tryd.ntmps5
  go_wp2_with fail
  rw [← HU.out]
  clear HU
  refine (drawDif_any A c bs u0 hc Hh.out).mono ?_
  rintro e u1 ⟨W, H, P, A1, c1, xs, q, rfl, hx, hxc, hr, hbel, hA⟩
  have HX1 := HX0.out.below hbel
  obtain ⟨r0, r1, r2, r3⟩ := HX1.im
  have f0 := HX1.fz 0
  have f1 := HX1.fz 1
  have f2 := HX1.fz 2
  have f3 := HX1.fz 3
  have HE : Hid (∀ v0 v1 v2 v3 : Value, DrawnDif w (.returned (.tuple #[.agg #[.int .i64 W, .int .i64 H, .int .i64 P, .slice A1 xs.length c1], .int .i64 q])) ((((u1.setCell ⟨w.heap.size, 0, none⟩ v0).setCell ⟨w.heap.size, 1, none⟩ v1).setCell ⟨w.heap.size, 2, none⟩ v2).setCell ⟨w.heap.size, 3, none⟩ v3)) := Lib.hid fun v0 v1 v2 v3 =>
    ⟨W, H, P, A1, c1, xs, q, rfl, hx, hxc, (Rds.offG hr (Nat.le_refl _) (lo := w.heap.size + 1) (fun d hd => by have := hA d hd; have := Hz.out; omega) (dif_gr u1 w.heap.size v0 v1 v2 v3) (by omega)).more (by simp), (HB0.out.trans (hbel.mono HB0.out.size)).grown (dif_gr u1 w.heap.size v0 v1 v2 v3) (HB0.out.trans (hbel.mono HB0.out.size)).size (fun k hk => by injection hk with hk; omega), fun d hd => by have := hA d hd; have := Hz.out; omega⟩
  clear HX1 HX0 HB0 Hh hr hbel hA
  go_wp2
  exact bodyPost_ret (v := .tuple #[.agg #[.int .i64 W, .int .i64 H, .int .i64 P, .slice A1 xs.length c1], .int .i64 q]) (by simp [results, Tryd.results5, go_sem, r0, r1, r2, r3]) rfl (HE.out _ _ _ _)
end Go.Proofs.YtdmdgdmnbgchoaaDoor
