/- The program's shelves: a sprite is put. -/
import Derived.Test.YtgieijogopcjnaaPckJ
namespace Go.Proofs.Ytgieijogopcjnaa
open Go.RowKit
set_option linter.unusedSimpArgs false
set_option linter.unusedVariables false
set_option maxRecDepth 20000

/-- The three boxes of a call of put. -/
structure Kp (u : World) (p pa : Nat) (a b : Int) : Prop where
  k0 : u.heap[p]? = some (.cells #[.pointer (some ⟨pa, 0, none⟩)] 71 (0, 0))
  k1 : u.heap[p + 1]? = some (.cells #[.int .i64 a, .int .i64 b] 44 (0, 0))
  k2 : u.heap[p + 2]? = some (.cells #[.int .i64 0, .int .i64 0, .int .i64 0, .int .i64 0] 29 (0, 0))
theorem Kp.below {u u' : World} {p pa : Nat} {a b : Int} (h : Kp u p pa a b) (hb : Below u.heap.size u u') : Kp u' p pa a b :=
  ⟨(hb.block _ (heap_lt h.k0)).trans h.k0, (hb.block _ (heap_lt h.k1)).trans h.k1, (hb.block _ (heap_lt h.k2)).trans h.k2⟩
theorem Kp.grown {u u' : World} {p pa : Nat} {a b : Int} {r : Option Nat} (h : Kp u p pa a b) (hG : u.grownBy u' r) (hr : ∀ g, r = some g → g ≠ p ∧ g ≠ p + 1 ∧ g ≠ p + 2) : Kp u' p pa a b :=
  ⟨(hG.block _ (heap_lt h.k0) (fun e => (hr _ e.symm).1 rfl)).trans h.k0, (hG.block _ (heap_lt h.k1) (fun e => (hr _ e.symm).2.1 rfl)).trans h.k1, (hG.block _ (heap_lt h.k2) (fun e => (hr _ e.symm).2.2 rfl)).trans h.k2⟩
theorem Kp.set {u : World} {p pa g j : Nat} {a b : Int} {x : Value} (h : Kp u p pa a b) (hg : g ≠ p ∧ g ≠ p + 1 ∧ g ≠ p + 2) : Kp (u.setCell ⟨g, j, none⟩ x) p pa a b := h.grown (grw_set u g j x) (fun k e => by injection e with e; subst e; exact hg)
/-- A sprite has been put. -/
def Put (w : World) (go pa n : Nat) (vr : Value) (W : Int) (xs : List Int) (s : Pk) (q : Nat) (a b : Int) (ord : List Int) (e : Ending) (w' : World) : Prop :=
  ∃ (x y : Int) (vs' : Value) (s' : Pk), e = .returned (.agg #[.int .i64 x, .int .i64 y, .int .i64 a, .int .i64 b]) ∧ (pkStep W xs s q = ⟨s'.tops, s'.ends, s'.h, box4 s.out q x y a b⟩) ∧ PaSt w w' go pa n vs' vr s'.ends.length W s'.h s.out (inter s'.tops s'.ends) ord
theorem PaSt.appC {w wr w' : World} {go pa n L : Nat} {vs vr : Value} {W H : Int} {out ss ord : List Int} (h : PaSt w wr go pa n vs vr L W H out ss ord) (hG : wr.grownBy w' vs.ownBlock) : w'.cell? ⟨pa, 2, none⟩ = some vs ∧ w'.frozen? ⟨pa, 2, none⟩ = false := by
  have e := (hG.block pa (heap_lt h.P) (fun e => h.sp e.symm)).trans h.P
  exact ⟨by rw [cell_of_row _ _ _ _ _ _ e]; rfl, frozen_of_row _ _ _ _ _ e⟩
theorem PaSt.four {w wr : World} {go pa n L g : Nat} {vs vr : Value} {W H : Int} {out ss ord : List Int} (h : PaSt w wr go pa n vs vr L W H out ss ord) (x y z t : Value) (hg : w.heap.size ≤ g) (h1 : g ≠ go) (h2 : g ≠ pa) (h3 : vs.ownBlock ≠ some g) (h4 : vr.ownBlock ≠ some g) : PaSt w ((((wr.setCell ⟨g, 0, none⟩ x).setCell ⟨g, 1, none⟩ y).setCell ⟨g, 2, none⟩ z).setCell ⟨g, 3, none⟩ t) go pa n vs vr L W H out ss ord :=
  (((h.other hg h1 h2 h3 h4).other hg h1 h2 h3 h4).other hg h1 h2 h3 h4).other hg h1 h2 h3 h4
set_option maxHeartbeats 16000000 in
theorem put_any (w wr : World) (go pa n L : Nat) (vs vr : Value) (W a b : Int) (xs ord : List Int) (s : Pk) (q : Nat) (h : PaSt w wr go pa n vs vr L W s.h s.out (inter s.tops s.ends) ord) (hL : s.ends.length = L) (hT : s.tops.length = L) (hL1 : L ≤ 1000)
    (ha : wid xs q = a) (hb : hgt xs q = b) (hab : (0 ≤ a ∧ a ≤ 1000) ∧ 0 ≤ b ∧ b ≤ 1000) (hh : 0 ≤ s.h ∧ s.h ≤ 100000) (hen : ∀ j, j < L → 0 ≤ s.ends.getD j 0 ∧ s.ends.getD j 0 ≤ 1000) :
    Calls Try.prog 39 #[.pointer (some ⟨pa, 0, none⟩), .agg #[.int .i64 a, .int .i64 b]] wr (Put w go pa n vr W xs s q a b ord) := by
  obtain ⟨H, hH⟩ : ∃ H, H = s.h := ⟨_, rfl⟩
  rw [← hH] at h hh
  have HH := Lib.hid hH.symm
  have HL := Lib.hid hL
  have HT := Lib.hid hT
  have HA := Lib.hid ha
  have HB := Lib.hid hb
  have HEn := Lib.hid hen
  have Hlt : Hid (∀ g, vs.ownBlock = some g → g < wr.heap.size) := Lib.hid (fun g e => (h.S.lt g e).2)
  have HVr : Hid (∀ g, vr.ownBlock = some g → g < wr.heap.size) := Lib.hid (fun g e => (h.R.lt g e).2)
  have HLo := Lib.hid h.B.size
  have hpa := heap_lt h.P
  have hgo := (ownT_gt h.O).1
  have HQ : Hid (PaSt w (((wr.alloc (.cells #[.pointer (some ⟨pa, 0, none⟩)] 71)).alloc (.cells #[.int .i64 a, .int .i64 b] 44)).alloc (.cells #[.int .i64 0, .int .i64 0, .int .i64 0, .int .i64 0] 29)) go pa n vs vr L W H s.out (inter s.tops s.ends) ord) := Lib.hid (((h.alloc _).alloc _).alloc _)
  have HK : Hid (Kp (((wr.alloc (.cells #[.pointer (some ⟨pa, 0, none⟩)] 71)).alloc (.cells #[.int .i64 a, .int .i64 b] 44)).alloc (.cells #[.int .i64 0, .int .i64 0, .int .i64 0, .int .i64 0] 29)) wr.heap.size pa a b) := Lib.hid (by
    have e0 := heap_alloc_new wr (.cells #[.pointer (some ⟨pa, 0, none⟩)] 71)
    have e1 := heap_alloc_new (wr.alloc (.cells #[.pointer (some ⟨pa, 0, none⟩)] 71)) (.cells #[.int .i64 a, .int .i64 b] 44)
    have e2 := heap_alloc_new ((wr.alloc (.cells #[.pointer (some ⟨pa, 0, none⟩)] 71)).alloc (.cells #[.int .i64 a, .int .i64 b] 44)) (.cells #[.int .i64 0, .int .i64 0, .int .i64 0, .int .i64 0] 29)
    simp only [World.size_alloc] at e1 e2
    exact ⟨(heap_old _ _ (by simp; omega)).trans ((heap_old _ _ (by simp)).trans e0), (heap_old _ _ (by simp)).trans e1, e2⟩)
  obtain ⟨A, c, hvs, _⟩ := h.S.slice
  subst hvs
  clear h hL hT ha hb hen hH
  go_enter Try.func39, Try.ntmps39
  go_upto_region 1 with fail
  generalize ((wr.alloc (.cells #[.pointer (some ⟨pa, 0, none⟩)] 71)).alloc (.cells #[.int .i64 a, .int .i64 b] 44)).alloc (.cells #[.int .i64 0, .int .i64 0, .int .i64 0, .int .i64 0] 29) = u0 at *
  generalize wr.heap.size = p at *
  have s0 : u0.cell? ⟨p, 0, none⟩ = some (.pointer (some ⟨pa, 0, none⟩)) := by rw [cell_of_row _ _ _ _ _ _ HK.out.k0]; rfl
  have s1 : u0.cell? ⟨p + 1, 0, none⟩ = some (.int .i64 a) := by rw [cell_of_row _ _ _ _ _ _ HK.out.k1]; rfl
  have s2 : u0.cell? ⟨pa, 2, none⟩ = some (.slice A L c) := by rw [cell_of_row _ _ _ _ _ _ HQ.out.P]; rfl
  have s3 : u0.cell? ⟨pa, 0, none⟩ = some (.int .i64 W) := by rw [cell_of_row _ _ _ _ _ _ HQ.out.P]; rfl
  have HI := Lib.hid (idxS_any A L c (p + 1) p pa a W (inter s.tops s.ends) s.ends u0 s1 s0 s3 HQ.out.S.rds (by rw [inter_len (by rw [HL.out, HT.out]), HL.out]) HL.out (fun j hj => (inter_get j (by rw [HL.out, HT.out]) (by rw [HL.out]; exact hj)).2) HEn.out hab.1 hL1)
  clear s1 s3
  go_wp2_with fail
  refine HI.out.mono ?_
  rintro e u1 ⟨rfl, hB1⟩
  have HQ1 := Lib.hid (HQ.out.below hB1)
  have HK1 := Lib.hid (HK.out.below hB1)
  clear hB1 HQ HK HI s0 s2
  have hjle : shF W a s.ends ≤ L := by rw [← HL.out]; exact shF_le _ _ _
  obtain ⟨j, hj⟩ : ∃ j, j = shF W a s.ends := ⟨_, rfl⟩
  rw [← hj] at hjle ⊢
  have HJ := Lib.hid hj.symm
  clear hj
  by_cases hjL : j < L
  · rw [if_pos hjL]
    have hj0 : ¬ (j : Int) < 0 := by omega
    have hgs : ∃ gs, A = some ⟨gs, 0, none⟩ ∧ gs < p := by
      obtain ⟨g, cap, e, _⟩ := HQ1.out.S.form (by omega)
      simp only [Value.slice.injEq] at e
      exact ⟨g, e.1, Hlt.out g (by rw [e.1]; rfl)⟩
    obtain ⟨gs, rfl, hgsp⟩ := hgs
    have HGS : Hid ((gs ≠ p ∧ gs ≠ p + 1 ∧ gs ≠ p + 2) ∧ gs ≠ u1.heap.size) := Lib.hid ⟨by omega, by have := heap_lt HK1.out.k2; omega⟩
    have HTE : Hid (s.tops.length = s.ends.length ∧ s.ends.length = L) := Lib.hid ⟨by rw [HL.out, HT.out], HL.out⟩
    have HBx := Lib.hid (HEn.out j hjL)
    clear hgsp
    go_upto_region 6 with fail
    have hgl := HGS.out.1
    have hgps := HGS.out.2
    have hjI : (j : Int) < ((L : Nat) : Int) := by omega
    have hjI2 : (j : Int) < (j : Int) + 1 := by omega
    have s0 : u1.cell? ⟨p, 0, none⟩ = some (.pointer (some ⟨pa, 0, none⟩)) := by rw [cell_of_row _ _ _ _ _ _ HK1.out.k0]; rfl
    have s2 : u1.cell? ⟨pa, 2, none⟩ = some (.slice (some ⟨gs, 0, none⟩) L c) := by rw [cell_of_row _ _ _ _ _ _ HQ1.out.P]; rfl
    have hlen : (inter s.tops s.ends).length = L * 2 := by rw [inter_len HTE.out.1, HTE.out.2]
    have c0 := HQ1.out.S.cell (j := j * 2) (by rw [hlen]; omega)
    have c1 := HQ1.out.S.cell (j := j * 2 + 1) (by rw [hlen]; omega)
    have hg2 := inter_get (ts := s.tops) (es := s.ends) j HTE.out.1 (by rw [HTE.out.2]; omega)
    rw [hg2.1] at c0
    rw [hg2.2] at c1
    obtain ⟨y, hy⟩ : ∃ y, y = (s.tops).getD j 0 := ⟨_, rfl⟩
    obtain ⟨x, hx⟩ : ∃ x, x = (s.ends).getD j 0 := ⟨_, rfl⟩
    rw [← hy] at c0
    rw [← hx] at c1
    have HXY : Hid ((s.tops).getD j 0 = y ∧ (s.ends).getD j 0 = x) := Lib.hid ⟨hy.symm, hx.symm⟩
    have hxb : 0 ≤ x ∧ x ≤ 1000 := by rw [hx]; exact HBx.out
    have HQs := Lib.hid (HQ1.out.alloc (.cells #[.int .i64 y, .int .i64 x] 74))
    have HKs := Lib.hid (HK1.out.below ((Below.refl _ _).alloc (Nat.le_refl _) (.cells #[.int .i64 y, .int .i64 x] 74)))
    have HN := Lib.hid (heap_alloc_new u1 (.cells #[.int .i64 y, .int .i64 x] 74))
    have HNs : Hid (gs ≠ u1.heap.size) := Lib.hid hgps
    clear hlen hg2 hy hx hgps
    go_upto_region 7 with fail
    clear s0 s2 c0 c1
    generalize u1.alloc (.cells #[.int .i64 y, .int .i64 x] 74) = us at *
    generalize u1.heap.size = ps at *
    have s0 : us.cell? ⟨p, 0, none⟩ = some (.pointer (some ⟨pa, 0, none⟩)) := by rw [cell_of_row _ _ _ _ _ _ HKs.out.k0]; rfl
    have s1 : us.cell? ⟨p + 1, 0, none⟩ = some (.int .i64 a) := by rw [cell_of_row _ _ _ _ _ _ HKs.out.k1]; rfl
    have s2 : us.cell? ⟨pa, 2, none⟩ = some (.slice (some ⟨gs, 0, none⟩) L c) := by rw [cell_of_row _ _ _ _ _ _ HQs.out.P]; rfl
    have hlen : (inter s.tops s.ends).length = L * 2 := by rw [inter_len HTE.out.1, HTE.out.2]
    have c1 := HQs.out.S.cell (j := j * 2 + 1) (by rw [hlen]; omega)
    have f1 := HQs.out.S.frozen (j * 2 + 1)
    rw [(inter_get (ts := s.tops) (es := s.ends) j HTE.out.1 (by rw [HTE.out.2]; omega)).2, HXY.out.2] at c1
    have hw1 : IntKind.i64.wrap (x + a) = x + a := IntWalk.i64_in _ (by omega)
    have HQt := Lib.hid (HQs.out.putS (j * 2 + 1) (x + a)).drew
    have HKt := Lib.hid ((HKs.out.set (j := j * 2 + 1) (x := .int .i64 (x + a)) hgl).below (Below.refl _ _).drew)
    have HNt : Hid (((us.setCell ⟨gs, j * 2 + 1, none⟩ (.int .i64 (x + a))).drew).heap[ps]? = some (.cells #[.int .i64 y, .int .i64 x] 74 (0, 0))) := Lib.hid (((grw_set us gs (j * 2 + 1) (.int .i64 (x + a))).block ps (heap_lt HN.out) (fun e => HNs.out (by injection e with e; exact e.symm))).trans HN.out)
    clear hlen HQs HKs HN
    go_still_tail 13, (by kernel_rfl)
    change wpList _ _ _ _ _ us.drew
    go_upto_region 8 with fail
    clear s0 s1 s2 c1 f1 hw1
    generalize (us.setCell ⟨gs, j * 2 + 1, none⟩ (.int .i64 (x + a))).drew = ut at *
    have s1 : ut.cell? ⟨p + 1, 0, none⟩ = some (.int .i64 a) := by rw [cell_of_row _ _ _ _ _ _ HKt.out.k1]; rfl
    have s2 : ut.cell? ⟨p + 1, 1, none⟩ = some (.int .i64 b) := by rw [cell_of_row _ _ _ _ _ _ HKt.out.k1]; rfl
    have s3 : ut.cell? ⟨ps, 0, none⟩ = some (.int .i64 y) := by rw [cell_of_row _ _ _ _ _ _ HNt.out]; rfl
    have s4 : ut.cell? ⟨ps, 1, none⟩ = some (.int .i64 x) := by rw [cell_of_row _ _ _ _ _ _ HNt.out]; rfl
    have k0 : ut.cell? ⟨p + 1 + 1, 0, none⟩ = some (.int .i64 0) := by rw [cell_of_row _ _ _ _ _ _ (show ut.heap[p + 1 + 1]? = _ from HKt.out.k2)]; rfl
    have k1 : ut.cell? ⟨p + 1 + 1, 1, none⟩ = some (.int .i64 0) := by rw [cell_of_row _ _ _ _ _ _ (show ut.heap[p + 1 + 1]? = _ from HKt.out.k2)]; rfl
    have k2 : ut.cell? ⟨p + 1 + 1, 2, none⟩ = some (.int .i64 0) := by rw [cell_of_row _ _ _ _ _ _ (show ut.heap[p + 1 + 1]? = _ from HKt.out.k2)]; rfl
    have k3 : ut.cell? ⟨p + 1 + 1, 3, none⟩ = some (.int .i64 0) := by rw [cell_of_row _ _ _ _ _ _ (show ut.heap[p + 1 + 1]? = _ from HKt.out.k2)]; rfl
    have f0 := frozen_of_row ut (p + 1 + 1) 0 _ _ (show ut.heap[p + 1 + 1]? = _ from HKt.out.k2)
    have f1 := frozen_of_row ut (p + 1 + 1) 1 _ _ (show ut.heap[p + 1 + 1]? = _ from HKt.out.k2)
    have f2 := frozen_of_row ut (p + 1 + 1) 2 _ _ (show ut.heap[p + 1 + 1]? = _ from HKt.out.k2)
    have f3 := frozen_of_row ut (p + 1 + 1) 3 _ _ (show ut.heap[p + 1 + 1]? = _ from HKt.out.k2)
    have HF := Lib.hid (HQt.out.four (g := p + 1 + 1) (.int .i64 x) (.int .i64 y) (.int .i64 a) (.int .i64 b) (by have := HLo.out; omega) (by omega) (by omega) (fun e => HGS.out.1.2.2 (by injection e)) (fun e => by have := HVr.out _ e; omega))
    rw [inter_set j (x + a) HTE.out.1] at HF
    have HE : Hid (Put w go pa n vr W xs s q a b ord (.returned (.agg #[.int .i64 x, .int .i64 y, .int .i64 a, .int .i64 b])) ((((ut.setCell ⟨p + 1 + 1, 0, none⟩ (.int .i64 x)).setCell ⟨p + 1 + 1, 1, none⟩ (.int .i64 y)).setCell ⟨p + 1 + 1, 2, none⟩ (.int .i64 a)).setCell ⟨p + 1 + 1, 3, none⟩ (.int .i64 b))) := Lib.hid ⟨x, y, _, ⟨s.tops, s.ends.set j (x + a), H, []⟩, rfl, by
      unfold pkStep
      rw [HA.out, HB.out, HJ.out, if_pos (by rw [HL.out]; exact hjL), HXY.out.1, HXY.out.2, HH.out], by
      have h := HF.out
      have e : (⟨s.tops, s.ends.set j (x + a), H, []⟩ : Pk).ends.length = L := by simp; exact HL.out
      rw [e]
      exact h⟩
    have hz := blk_set (blk_set (blk_set (blk_set (show ut.heap[p + 1 + 1]? = _ from HKt.out.k2) 0 (.int .i64 x)) 1 (.int .i64 y)) 2 (.int .i64 a)) 3 (.int .i64 b)
    have HZ := Lib.hid hz
    clear HF HQt HKt HNt hz
    go_wp2
    generalize ((((ut.setCell ⟨p + 1 + 1, 0, none⟩ (.int .i64 x)).setCell ⟨p + 1 + 1, 1, none⟩ (.int .i64 y)).setCell ⟨p + 1 + 1, 2, none⟩ (.int .i64 a)).setCell ⟨p + 1 + 1, 3, none⟩ (.int .i64 b)) = uf at *
    clear k0 k1 k2 k3 f0 f1 f2 f3 s1 s2 s3 s4
    have k0 : uf.cell? ⟨p + 1 + 1, 0, none⟩ = some (.int .i64 x) := by rw [cell_of_row _ _ _ _ _ _ HZ.out]; rfl
    have k1 : uf.cell? ⟨p + 1 + 1, 1, none⟩ = some (.int .i64 y) := by rw [cell_of_row _ _ _ _ _ _ HZ.out]; rfl
    have k2 : uf.cell? ⟨p + 1 + 1, 2, none⟩ = some (.int .i64 a) := by rw [cell_of_row _ _ _ _ _ _ HZ.out]; rfl
    have k3 : uf.cell? ⟨p + 1 + 1, 3, none⟩ = some (.int .i64 b) := by rw [cell_of_row _ _ _ _ _ _ HZ.out]; rfl
    exact bodyPost_ret (v := .agg #[.int .i64 x, .int .i64 y, .int .i64 a, .int .i64 b]) (by simp [results, Try.results39, go_sem, k0, k1, k2, k3]) rfl HE.out
  · obtain rfl : j = L := by omega
    rw [if_neg hjL]
    have hj0 : (-1 : Int) < 0 := by omega
    have s0 : u1.cell? ⟨p, 0, none⟩ = some (.pointer (some ⟨pa, 0, none⟩)) := by rw [cell_of_row _ _ _ _ _ _ HK1.out.k0]; rfl
    have s2 : u1.cell? ⟨pa, 2, none⟩ = some (.slice A j c) := by rw [cell_of_row _ _ _ _ _ _ HQ1.out.P]; rfl
    have s3 : u1.cell? ⟨pa, 1, none⟩ = some (.int .i64 H) := by rw [cell_of_row _ _ _ _ _ _ HQ1.out.P]; rfl
    have HQa0 := Lib.hid ((HQ1.out.alloc (.cells #[.int .i64 H, .int .i64 0] 74)).drew)
    have HKa0 := Lib.hid (HK1.out.below (((Below.refl _ _).alloc (Nat.le_refl _) (.cells #[.int .i64 H, .int .i64 0] 74)).drew))
    have HNa0 : Hid (((u1.alloc (.cells #[.int .i64 H, .int .i64 0] 74)).drew).heap[u1.heap.size]? = some (.cells #[.int .i64 H, .int .i64 0] 74 (0, 0)) ∧ ((u1.alloc (.cells #[.int .i64 H, .int .i64 0] 74)).drew).heap.size = u1.heap.size + 1) := Lib.hid ⟨heap_alloc_new u1 _, by show (u1.alloc _).heap.size = _; simp⟩
    have hpu := heap_lt HK1.out.k2
    have HPu := Lib.hid hpu
    clear hpu
    go_upto_region 4 with fail
    refine wp_region_held_drew (S := (fun w' => w'.cell? ⟨p, 0, none⟩ = some (.pointer (some ⟨pa, 0, none⟩)) ∧ w'.cell? ⟨pa, 1, none⟩ = some (.int .i64 H))) (by kernel_rfl) (by exact ⟨s0, s3⟩) (fun hHeld => ?_)
    refine' wpAnyH_take (i := 0) (oi := _) (v := _) ?hi701 (by kernel_rfl) (by kernel_rfl) (by kernel_rfl) ?hq701 (Or.inl ⟨?hw701, ?hy701⟩) (by assumption) ?rest701
    case hi701 => (simp only [List.getElem?_toArray, List.getElem?_cons_succ, List.getElem?_cons_zero]; rfl)
    case hq701 => exact fun _ _ _ h => h
    case hw701 => rfl
    case hy701 => (intro wq hSw; (try dsimp only at hSw); go_simp; (try with_reducible rfl))
    (try simp only [Act.put, List.setIfInBounds_toArray, List.set_cons_zero, List.set_cons_succ])
    refine' wpAnyH_take (i := 1) (oi := _) (v := _) ?hi702 (by kernel_rfl) (by kernel_rfl) (by kernel_rfl) ?hq702 (Or.inl ⟨?hw702, ?hy702⟩) (by assumption) ?rest702
    case hi702 => (simp only [List.getElem?_toArray, List.getElem?_cons_succ, List.getElem?_cons_zero]; rfl)
    case hq702 => exact fun _ _ _ h => h
    case hw702 => rfl
    case hy702 => (intro wq hSw; (try dsimp only at hSw); go_simp; (try with_reducible rfl))
    (try simp only [Act.put, List.setIfInBounds_toArray, List.set_cons_zero, List.set_cons_succ])
    refine' wpAnyH_take (i := 2) (oi := _) (v := _) ?hi703 (by kernel_rfl) (by kernel_rfl) (by kernel_rfl) ?hq703 (Or.inl ⟨?hw703, ?hy703⟩) (by assumption) ?rest703
    case hi703 => (simp only [List.getElem?_toArray, List.getElem?_cons_succ, List.getElem?_cons_zero]; rfl)
    case hq703 => exact fun _ _ _ h => h
    case hw703 => rfl
    case hy703 => (intro wq hSw; (try dsimp only at hSw); go_simp; (try with_reducible rfl))
    (try simp only [Act.put, List.setIfInBounds_toArray, List.set_cons_zero, List.set_cons_succ])
    refine' wpAnyH_take (i := 3) (oi := _) (v := _) ?hi704 (by kernel_rfl) (by kernel_rfl) (by kernel_rfl) ?hq704 (Or.inl ⟨?hw704, ?hy704⟩) (by assumption) ?rest704
    case hi704 => (simp only [List.getElem?_toArray, List.getElem?_cons_succ, List.getElem?_cons_zero]; rfl)
    case hq704 => exact fun _ _ _ h => h
    case hw704 => rfl
    case hy704 => (intro wq hSw; (try dsimp only at hSw); go_simp; (try with_reducible rfl))
    (try simp only [Act.put, List.setIfInBounds_toArray, List.set_cons_zero, List.set_cons_succ])
    refine' wpAnyH_take (i := 5) (oi := _) (v := _) ?hi705 (by kernel_rfl) (by kernel_rfl) (by kernel_rfl) ?hq705 (Or.inl ⟨?hw705, ?hy705⟩) (by assumption) ?rest705
    case hi705 => (simp only [List.getElem?_toArray, List.getElem?_cons_succ, List.getElem?_cons_zero]; rfl)
    case hq705 => exact fun _ _ _ h => h
    case hw705 => rfl
    case hy705 => (intro wq hSw; (try dsimp only at hSw); go_simp; (try with_reducible rfl))
    (try simp only [Act.put, List.setIfInBounds_toArray, List.set_cons_zero, List.set_cons_succ])
    refine' wpAnyH_take (i := 6) (oi := _) (v := _) ?hi706 (by kernel_rfl) (by kernel_rfl) (by kernel_rfl) ?hq706 (Or.inl ⟨?hw706, ?hy706⟩) (by assumption) ?rest706
    case hi706 => (simp only [List.getElem?_toArray, List.getElem?_cons_succ, List.getElem?_cons_zero]; rfl)
    case hq706 => exact fun _ _ _ h => h
    case hw706 => rfl
    case hy706 => (intro wq hSw; (try dsimp only at hSw); go_simp; (try with_reducible rfl))
    (try simp only [Act.put, List.setIfInBounds_toArray, List.set_cons_zero, List.set_cons_succ])
    refine' wpAnyH_take (i := 7) (oi := _) (v := _) ?hi707 (by kernel_rfl) (by kernel_rfl) (by kernel_rfl) ?hq707 (Or.inl ⟨?hw707, ?hy707⟩) (by assumption) ?rest707
    case hi707 => (simp only [List.getElem?_toArray, List.getElem?_cons_succ, List.getElem?_cons_zero]; rfl)
    case hq707 => exact fun _ _ _ h => h
    case hw707 => rfl
    case hy707 => (intro wq hSw; (try dsimp only at hSw); go_simp; (try with_reducible rfl))
    (try simp only [Act.put, List.setIfInBounds_toArray, List.set_cons_zero, List.set_cons_succ])
    refine' wpAnyH_take (i := 8) (oi := _) (v := _) ?hi708 (by kernel_rfl) (by kernel_rfl) (by kernel_rfl) ?hq708 (Or.inl ⟨?hw708, ?hy708⟩) (by assumption) ?rest708
    case hi708 => (simp only [List.getElem?_toArray, List.getElem?_cons_succ, List.getElem?_cons_zero]; rfl)
    case hq708 => exact fun _ _ _ h => h
    case hw708 => rfl
    case hy708 => (intro wq hSw; (try dsimp only at hSw); go_simp; (try with_reducible rfl))
    (try simp only [Act.put, List.setIfInBounds_toArray, List.set_cons_zero, List.set_cons_succ])
    refine' wpAnyH_take (i := 9) (oi := _) (v := _) ?hi709 (by kernel_rfl) (by kernel_rfl) (by kernel_rfl) ?hq709 (Or.inl ⟨?hw709, ?hy709⟩) (by assumption) ?rest709
    case hi709 => (simp only [List.getElem?_toArray, List.getElem?_cons_succ, List.getElem?_cons_zero]; rfl)
    case hq709 => exact fun _ _ _ h => h
    case hw709 => rfl
    case hy709 => (intro wq hSw; (try dsimp only at hSw); go_simp; (try with_reducible rfl))
    (try simp only [Act.put, List.setIfInBounds_toArray, List.set_cons_zero, List.set_cons_succ])
    refine wpAnyH_ready (rs := [4, 10]) (by kernel_rfl) (by simp) ?_
    refine' AllReadyH.cons (o := _) ?hi710 (fun K hK => ?rest710) (AllReadyH.cons (o := _) ?hj710 (fun K hK => ?rist710) AllReadyH.nil)
    case hi710 => (simp only [List.getElem?_toArray, List.getElem?_cons_succ, List.getElem?_cons_zero]; rfl)
    case hj710 => (simp only [List.getElem?_toArray, List.getElem?_cons_succ, List.getElem?_cons_zero]; rfl)
    case rest710 =>
      go_simp
      refine hK.out _ _ (by (try dsimp only); exact ⟨s0, s3⟩) (fun hHeld => ?_)
      clear hK K
      (try simp only [Act.put, List.setIfInBounds_toArray, List.set_cons_zero, List.set_cons_succ])
      refine wpAnyH_ready (rs := [10]) (by kernel_rfl) (by simp) ?_
      refine' AllReadyH.cons (o := _) ?hi711 (fun K hK => ?rest711) AllReadyH.nil
      case hi711 => (simp only [List.getElem?_toArray, List.getElem?_cons_succ, List.getElem?_cons_zero]; rfl)
      go_simp
      have HQa := HQa0
      have HKa := HKa0
      have HNa := HNa0
      generalize (u1.alloc (.cells #[.int .i64 H, .int .i64 0] 74)).drew = ua at *
      refine hK.out _ _ (by (try dsimp only); exact ⟨by rw [cell_of_row _ _ _ _ _ _ HKa.out.k0]; rfl, by rw [cell_of_row _ _ _ _ _ _ HQa.out.P]; rfl⟩) (fun hHeld => ?_)
      clear hK K
      (try simp only [Act.put, List.setIfInBounds_toArray, List.set_cons_zero, List.set_cons_succ])
      refine wpAnyH_ready (rs := [11]) (by kernel_rfl) (by simp) ?_
      refine' AllReadyH.cons (o := _) ?hi712 (fun K hK => ?rest712) AllReadyH.nil
      case hi712 => (simp only [List.getElem?_toArray, List.getElem?_cons_succ, List.getElem?_cons_zero]; rfl)
      refine wp_appSh (.tmp 24) (.tmp 30) ?_ w.heap.size (.slice A j c) j (inter s.tops s.ends) ?_ HQa.out.S u1.heap.size H 0 ?_ HNa.out.1 (by omega) HQa.out.B.size ?_
      · rfl
      · rfl
      · rfl
      intro v6 w6 hO6 hG6 hD6
      obtain ⟨cpa, fpa⟩ := HQa.out.appC hG6
      obtain ⟨g6, c6, rfl, hg6a, hg6b⟩ := OwnT.form hO6 (by omega)
      have HO6 := Lib.hid hO6
      have HG6 := Lib.hid hG6
      have HD6 := Lib.hid hD6
      have HK6 := Lib.hid (HKa.out.grown hG6 (fun g e => by have := Hlt.out g e; omega))
      clear hO6 hG6 hD6
      refine hK.out _ _ (by (try dsimp only); exact ⟨by rw [cell_of_row _ _ _ _ _ _ HK6.out.k0]; rfl, by rw [cell_of_row _ _ _ _ _ _ ((HG6.out.block pa (heap_lt HQa.out.P) (fun e => HQa.out.sp e.symm)).trans HQa.out.P)]; rfl⟩) (fun hHeld => ?_)
      clear hK K
      (try simp only [Act.put, List.setIfInBounds_toArray, List.set_cons_zero, List.set_cons_succ])
      refine' wpAnyH_take (i := 12) (oi := _) (v := _) ?hi713 (by kernel_rfl) (by kernel_rfl) (by kernel_rfl) ?hq713 (Or.inl ⟨?hw713, ?hy713⟩) (by assumption) ?rest713
      case hi713 => (simp only [List.getElem?_toArray, List.getElem?_cons_succ, List.getElem?_cons_zero]; rfl)
      case hq713 => exact fun _ _ _ h => h
      case hw713 => rfl
      case hy713 => (intro wq hSw; (try dsimp only at hSw); go_simp; (try with_reducible rfl))
      (try simp only [Act.put, List.setIfInBounds_toArray, List.set_cons_zero, List.set_cons_succ])
      refine' wpAnyH_take (i := 13) (oi := _) (v := _) ?hi714 (by kernel_rfl) (by kernel_rfl) (by kernel_rfl) ?hq714 (Or.inl ⟨?hw714, ?hy714⟩) (by assumption) ?rest714
      case hi714 => (simp only [List.getElem?_toArray, List.getElem?_cons_succ, List.getElem?_cons_zero]; rfl)
      case hq714 => exact fun _ _ _ h => h
      case hw714 => rfl
      case hy714 => (intro wq hSw; (try dsimp only at hSw); go_simp; (try with_reducible rfl))
      (try simp only [Act.put, List.setIfInBounds_toArray, List.set_cons_zero, List.set_cons_succ])
      refine wpAnyH_ready (rs := [14]) (by kernel_rfl) (by simp) ?_
      refine' AllReadyH.cons (o := _) ?hi715 (fun K hK => ?rest715) AllReadyH.nil
      case hi715 => (simp only [List.getElem?_toArray, List.getElem?_cons_succ, List.getElem?_cons_zero]; rfl)
      go_simp
      refine hK.out _ _ (by (try dsimp only); exact ⟨by rw [cell_of_row _ _ _ _ _ _ (HK6.out.set (g := pa) (j := 2) (x := .slice (some ⟨g6, 0, none⟩) (j + 1) c6) (by omega)).k0]; rfl, by rw [cell_of_row _ _ _ _ _ _ (HQa.out.app HO6.out HG6.out HD6.out).P]; rfl⟩) (fun hHeld => ?_)
      clear hK K
      (try simp only [Act.put, List.setIfInBounds_toArray, List.set_cons_zero, List.set_cons_succ])
      refine wpAnyH_done (by kernel_rfl) ?_ _
      have HQb := Lib.hid (HQa.out.app HO6.out HG6.out HD6.out)
      have HKb := Lib.hid ((HKa.out.grown HG6.out (fun g e => by have := Hlt.out g e; omega)).set (g := pa) (j := 2) (x := .slice (some ⟨g6, 0, none⟩) (j + 1) c6) (by omega))
      have HGb : Hid (g6 < p ∨ u1.heap.size < g6) := Lib.hid (by
        rcases HD6.out with h | h
        · exact .inl (Hlt.out g6 h.symm)
        · injection h with h
          right
          have h : g6 = ua.heap.size := h
          have := HNa.out.2
          omega)
      clear s0 s2 s3 cpa fpa HQa HKa HNa HO6 HG6 HD6 hg6a hg6b hHeld
      generalize w6.setCell ⟨pa, 2, none⟩ (.slice (some ⟨g6, 0, none⟩) (j + 1) c6) = u7 at *
      have s0 : u7.cell? ⟨p, 0, none⟩ = some (.pointer (some ⟨pa, 0, none⟩)) := by rw [cell_of_row _ _ _ _ _ _ HKb.out.k0]; rfl
      have s1 : u7.cell? ⟨p + 1, 1, none⟩ = some (.int .i64 b) := by rw [cell_of_row _ _ _ _ _ _ HKb.out.k1]; rfl
      have s3 : u7.cell? ⟨pa, 1, none⟩ = some (.int .i64 H) := by rw [cell_of_row _ _ _ _ _ _ HQb.out.P]; rfl
      have f3 := frozen_of_row u7 pa 1 _ _ HQb.out.P
      have hw3 : IntKind.i64.wrap (H + b) = H + b := IntWalk.i64_in _ (by omega)
      have HQc := Lib.hid (HQb.out.high (H + b)).drew
      have HKc := Lib.hid ((HKb.out.set (g := pa) (j := 1) (x := .int .i64 (H + b)) (by omega)).below (Below.refl _ _).drew)
      clear HQb HKb
      go_upto_region 5 with fail
      go_still_tail 9, (by kernel_rfl)
      change wpList _ _ _ _ _ u7.drew
      go_upto_region 6 with fail
      clear s0 s1 s3 f3 hw3
      generalize (u7.setCell ⟨pa, 1, none⟩ (.int .i64 (H + b))).drew = u8 at *
      have HQd := HQc.out
      rw [← inter_app H 0 (by rw [HL.out, HT.out])] at HQd
      have HQd := Lib.hid HQd
      have HGS : Hid ((g6 ≠ p ∧ g6 ≠ p + 1 ∧ g6 ≠ p + 2) ∧ g6 ≠ u8.heap.size) := Lib.hid ⟨by have := HGb.out; have := HPu.out; omega, by have := (HQd.out.S.lt g6 rfl).2; omega⟩
      have HTE : Hid ((s.tops ++ [H]).length = (s.ends ++ [0]).length ∧ (s.ends ++ [0]).length = j + 1) := Lib.hid ⟨by simp; rw [HL.out, HT.out], by simp; exact HL.out⟩
      have HE0 : Hid ((s.ends ++ [0]).getD j 0 = 0 ∧ (s.tops ++ [H]).getD j 0 = H) := Lib.hid ⟨by rw [getD_app _ _ _ (by rw [HL.out]; omega), if_pos HL.out.symm], by rw [getD_app _ _ _ (by rw [HT.out]; omega), if_pos HT.out.symm]⟩
      have HBx : Hid (0 ≤ (s.ends ++ [0]).getD j 0 ∧ (s.ends ++ [0]).getD j 0 ≤ 1000) := Lib.hid (by rw [HE0.out.1]; omega)
      clear HQc
      have hgl := HGS.out.1
      have hgps := HGS.out.2
      have hjI : (j : Int) < (((j + 1) : Nat) : Int) := by omega
      have hjI2 : (j : Int) < (j : Int) + 1 := by omega
      have s0 : u8.cell? ⟨p, 0, none⟩ = some (.pointer (some ⟨pa, 0, none⟩)) := by rw [cell_of_row _ _ _ _ _ _ HKc.out.k0]; rfl
      have s2 : u8.cell? ⟨pa, 2, none⟩ = some (.slice (some ⟨g6, 0, none⟩) (j + 1) c6) := by rw [cell_of_row _ _ _ _ _ _ HQd.out.P]; rfl
      have hlen : (inter (s.tops ++ [H]) (s.ends ++ [0])).length = (j + 1) * 2 := by rw [inter_len HTE.out.1, HTE.out.2]
      have c0 := HQd.out.S.cell (j := j * 2) (by rw [hlen]; omega)
      have c1 := HQd.out.S.cell (j := j * 2 + 1) (by rw [hlen]; omega)
      have hg2 := inter_get (ts := (s.tops ++ [H])) (es := (s.ends ++ [0])) j HTE.out.1 (by rw [HTE.out.2]; omega)
      rw [hg2.1] at c0
      rw [hg2.2] at c1
      obtain ⟨y, hy⟩ : ∃ y, y = ((s.tops ++ [H])).getD j 0 := ⟨_, rfl⟩
      obtain ⟨x, hx⟩ : ∃ x, x = ((s.ends ++ [0])).getD j 0 := ⟨_, rfl⟩
      rw [← hy] at c0
      rw [← hx] at c1
      have HXY : Hid (((s.tops ++ [H])).getD j 0 = y ∧ ((s.ends ++ [0])).getD j 0 = x) := Lib.hid ⟨hy.symm, hx.symm⟩
      have hxb : 0 ≤ x ∧ x ≤ 1000 := by rw [hx]; exact HBx.out
      have HQs := Lib.hid (HQd.out.alloc (.cells #[.int .i64 y, .int .i64 x] 74))
      have HKs := Lib.hid (HKc.out.below ((Below.refl _ _).alloc (Nat.le_refl _) (.cells #[.int .i64 y, .int .i64 x] 74)))
      have HN := Lib.hid (heap_alloc_new u8 (.cells #[.int .i64 y, .int .i64 x] 74))
      have HNs : Hid (g6 ≠ u8.heap.size) := Lib.hid hgps
      clear hlen hg2 hy hx hgps
      go_upto_region 7 with fail
      clear s0 s2 c0 c1
      generalize u8.alloc (.cells #[.int .i64 y, .int .i64 x] 74) = us at *
      generalize u8.heap.size = ps at *
      have s0 : us.cell? ⟨p, 0, none⟩ = some (.pointer (some ⟨pa, 0, none⟩)) := by rw [cell_of_row _ _ _ _ _ _ HKs.out.k0]; rfl
      have s1 : us.cell? ⟨p + 1, 0, none⟩ = some (.int .i64 a) := by rw [cell_of_row _ _ _ _ _ _ HKs.out.k1]; rfl
      have s2 : us.cell? ⟨pa, 2, none⟩ = some (.slice (some ⟨g6, 0, none⟩) (j + 1) c6) := by rw [cell_of_row _ _ _ _ _ _ HQs.out.P]; rfl
      have hlen : (inter (s.tops ++ [H]) (s.ends ++ [0])).length = (j + 1) * 2 := by rw [inter_len HTE.out.1, HTE.out.2]
      have c1 := HQs.out.S.cell (j := j * 2 + 1) (by rw [hlen]; omega)
      have f1 := HQs.out.S.frozen (j * 2 + 1)
      rw [(inter_get (ts := (s.tops ++ [H])) (es := (s.ends ++ [0])) j HTE.out.1 (by rw [HTE.out.2]; omega)).2, HXY.out.2] at c1
      have hw1 : IntKind.i64.wrap (x + a) = x + a := IntWalk.i64_in _ (by omega)
      have HQt := Lib.hid (HQs.out.putS (j * 2 + 1) (x + a)).drew
      have HKt := Lib.hid ((HKs.out.set (j := j * 2 + 1) (x := .int .i64 (x + a)) hgl).below (Below.refl _ _).drew)
      have HNt : Hid (((us.setCell ⟨g6, j * 2 + 1, none⟩ (.int .i64 (x + a))).drew).heap[ps]? = some (.cells #[.int .i64 y, .int .i64 x] 74 (0, 0))) := Lib.hid (((grw_set us g6 (j * 2 + 1) (.int .i64 (x + a))).block ps (heap_lt HN.out) (fun e => HNs.out (by injection e with e; exact e.symm))).trans HN.out)
      clear hlen HQs HKs HN
      go_still_tail 13, (by kernel_rfl)
      change wpList _ _ _ _ _ us.drew
      go_upto_region 8 with fail
      clear s0 s1 s2 c1 f1 hw1
      generalize (us.setCell ⟨g6, j * 2 + 1, none⟩ (.int .i64 (x + a))).drew = ut at *
      have s1 : ut.cell? ⟨p + 1, 0, none⟩ = some (.int .i64 a) := by rw [cell_of_row _ _ _ _ _ _ HKt.out.k1]; rfl
      have s2 : ut.cell? ⟨p + 1, 1, none⟩ = some (.int .i64 b) := by rw [cell_of_row _ _ _ _ _ _ HKt.out.k1]; rfl
      have s3 : ut.cell? ⟨ps, 0, none⟩ = some (.int .i64 y) := by rw [cell_of_row _ _ _ _ _ _ HNt.out]; rfl
      have s4 : ut.cell? ⟨ps, 1, none⟩ = some (.int .i64 x) := by rw [cell_of_row _ _ _ _ _ _ HNt.out]; rfl
      have k0 : ut.cell? ⟨p + 1 + 1, 0, none⟩ = some (.int .i64 0) := by rw [cell_of_row _ _ _ _ _ _ (show ut.heap[p + 1 + 1]? = _ from HKt.out.k2)]; rfl
      have k1 : ut.cell? ⟨p + 1 + 1, 1, none⟩ = some (.int .i64 0) := by rw [cell_of_row _ _ _ _ _ _ (show ut.heap[p + 1 + 1]? = _ from HKt.out.k2)]; rfl
      have k2 : ut.cell? ⟨p + 1 + 1, 2, none⟩ = some (.int .i64 0) := by rw [cell_of_row _ _ _ _ _ _ (show ut.heap[p + 1 + 1]? = _ from HKt.out.k2)]; rfl
      have k3 : ut.cell? ⟨p + 1 + 1, 3, none⟩ = some (.int .i64 0) := by rw [cell_of_row _ _ _ _ _ _ (show ut.heap[p + 1 + 1]? = _ from HKt.out.k2)]; rfl
      have f0 := frozen_of_row ut (p + 1 + 1) 0 _ _ (show ut.heap[p + 1 + 1]? = _ from HKt.out.k2)
      have f1 := frozen_of_row ut (p + 1 + 1) 1 _ _ (show ut.heap[p + 1 + 1]? = _ from HKt.out.k2)
      have f2 := frozen_of_row ut (p + 1 + 1) 2 _ _ (show ut.heap[p + 1 + 1]? = _ from HKt.out.k2)
      have f3 := frozen_of_row ut (p + 1 + 1) 3 _ _ (show ut.heap[p + 1 + 1]? = _ from HKt.out.k2)
      have HF := Lib.hid (HQt.out.four (g := p + 1 + 1) (.int .i64 x) (.int .i64 y) (.int .i64 a) (.int .i64 b) (by have := HLo.out; omega) (by omega) (by omega) (fun e => HGS.out.1.2.2 (by injection e)) (fun e => by have := HVr.out _ e; omega))
      rw [inter_set j (x + a) HTE.out.1] at HF
      have HE : Hid (Put w go pa n vr W xs s q a b ord (.returned (.agg #[.int .i64 x, .int .i64 y, .int .i64 a, .int .i64 b])) ((((ut.setCell ⟨p + 1 + 1, 0, none⟩ (.int .i64 x)).setCell ⟨p + 1 + 1, 1, none⟩ (.int .i64 y)).setCell ⟨p + 1 + 1, 2, none⟩ (.int .i64 a)).setCell ⟨p + 1 + 1, 3, none⟩ (.int .i64 b))) := Lib.hid ⟨x, y, _, ⟨s.tops ++ [H], (s.ends ++ [0]).set j (x + a), H + b, []⟩, rfl, by
        have ex : x = 0 := HXY.out.2.symm.trans HE0.out.1
        have ey : y = H := HXY.out.1.symm.trans HE0.out.2
        have es : (s.ends ++ [0]).set j (x + a) = s.ends ++ [a] := by
          rw [ex, List.set_append_right _ _ (by rw [HL.out]; omega), HL.out, Nat.sub_self, Int.zero_add]; rfl
        unfold pkStep
        rw [HA.out, HB.out, HJ.out, if_neg (by rw [HL.out]; omega), es, ex, ey, HH.out], by
        have h := HF.out
        have e : (⟨s.tops ++ [H], (s.ends ++ [0]).set j (x + a), H + b, []⟩ : Pk).ends.length = (j + 1) := by simp; exact HL.out
        rw [e]
        exact h⟩
      have hz := blk_set (blk_set (blk_set (blk_set (show ut.heap[p + 1 + 1]? = _ from HKt.out.k2) 0 (.int .i64 x)) 1 (.int .i64 y)) 2 (.int .i64 a)) 3 (.int .i64 b)
      have HZ := Lib.hid hz
      clear HF HQt HKt HNt hz
      go_wp2
      generalize ((((ut.setCell ⟨p + 1 + 1, 0, none⟩ (.int .i64 x)).setCell ⟨p + 1 + 1, 1, none⟩ (.int .i64 y)).setCell ⟨p + 1 + 1, 2, none⟩ (.int .i64 a)).setCell ⟨p + 1 + 1, 3, none⟩ (.int .i64 b)) = uf at *
      clear k0 k1 k2 k3 f0 f1 f2 f3 s1 s2 s3 s4
      have k0 : uf.cell? ⟨p + 1 + 1, 0, none⟩ = some (.int .i64 x) := by rw [cell_of_row _ _ _ _ _ _ HZ.out]; rfl
      have k1 : uf.cell? ⟨p + 1 + 1, 1, none⟩ = some (.int .i64 y) := by rw [cell_of_row _ _ _ _ _ _ HZ.out]; rfl
      have k2 : uf.cell? ⟨p + 1 + 1, 2, none⟩ = some (.int .i64 a) := by rw [cell_of_row _ _ _ _ _ _ HZ.out]; rfl
      have k3 : uf.cell? ⟨p + 1 + 1, 3, none⟩ = some (.int .i64 b) := by rw [cell_of_row _ _ _ _ _ _ HZ.out]; rfl
      exact bodyPost_ret (v := .agg #[.int .i64 x, .int .i64 y, .int .i64 a, .int .i64 b]) (by simp [results, Try.results39, go_sem, k0, k1, k2, k3]) rfl HE.out
    case rist710 =>
      go_simp
      have HQa := HQa0
      have HKa := HKa0
      have HNa := HNa0
      generalize (u1.alloc (.cells #[.int .i64 H, .int .i64 0] 74)).drew = ua at *
      have sl : ua.cell? ⟨pa, 2, none⟩ = some (.slice A j c) := by rw [cell_of_row _ _ _ _ _ _ HQa.out.P]; rfl
      refine hK.out _ _ (by (try dsimp only); exact ⟨by rw [cell_of_row _ _ _ _ _ _ HKa.out.k0]; rfl, by rw [cell_of_row _ _ _ _ _ _ HQa.out.P]; rfl⟩) (fun hHeld => ?_)
      clear hK K
      (try simp only [Act.put, List.setIfInBounds_toArray, List.set_cons_zero, List.set_cons_succ])
      refine wpAnyH_ready (rs := [4]) (by kernel_rfl) (by simp) ?_
      refine' AllReadyH.cons (o := _) ?hi716 (fun K hK => ?rest716) AllReadyH.nil
      case hi716 => (simp only [List.getElem?_toArray, List.getElem?_cons_succ, List.getElem?_cons_zero]; rfl)
      go_simp
      refine hK.out _ _ (by (try dsimp only); exact ⟨by rw [cell_of_row _ _ _ _ _ _ HKa.out.k0]; rfl, by rw [cell_of_row _ _ _ _ _ _ HQa.out.P]; rfl⟩) (fun hHeld => ?_)
      clear hK K
      (try simp only [Act.put, List.setIfInBounds_toArray, List.set_cons_zero, List.set_cons_succ])
      clear sl
      refine wpAnyH_ready (rs := [11]) (by kernel_rfl) (by simp) ?_
      refine' AllReadyH.cons (o := _) ?hi717 (fun K hK => ?rest717) AllReadyH.nil
      case hi717 => (simp only [List.getElem?_toArray, List.getElem?_cons_succ, List.getElem?_cons_zero]; rfl)
      refine wp_appSh (.tmp 24) (.tmp 30) ?_ w.heap.size (.slice A j c) j (inter s.tops s.ends) ?_ HQa.out.S u1.heap.size H 0 ?_ HNa.out.1 (by omega) HQa.out.B.size ?_
      · rfl
      · rfl
      · rfl
      intro v6 w6 hO6 hG6 hD6
      obtain ⟨cpa, fpa⟩ := HQa.out.appC hG6
      obtain ⟨g6, c6, rfl, hg6a, hg6b⟩ := OwnT.form hO6 (by omega)
      have HO6 := Lib.hid hO6
      have HG6 := Lib.hid hG6
      have HD6 := Lib.hid hD6
      have HK6 := Lib.hid (HKa.out.grown hG6 (fun g e => by have := Hlt.out g e; omega))
      clear hO6 hG6 hD6
      refine hK.out _ _ (by (try dsimp only); exact ⟨by rw [cell_of_row _ _ _ _ _ _ HK6.out.k0]; rfl, by rw [cell_of_row _ _ _ _ _ _ ((HG6.out.block pa (heap_lt HQa.out.P) (fun e => HQa.out.sp e.symm)).trans HQa.out.P)]; rfl⟩) (fun hHeld => ?_)
      clear hK K
      (try simp only [Act.put, List.setIfInBounds_toArray, List.set_cons_zero, List.set_cons_succ])
      refine' wpAnyH_take (i := 12) (oi := _) (v := _) ?hi718 (by kernel_rfl) (by kernel_rfl) (by kernel_rfl) ?hq718 (Or.inl ⟨?hw718, ?hy718⟩) (by assumption) ?rest718
      case hi718 => (simp only [List.getElem?_toArray, List.getElem?_cons_succ, List.getElem?_cons_zero]; rfl)
      case hq718 => exact fun _ _ _ h => h
      case hw718 => rfl
      case hy718 => (intro wq hSw; (try dsimp only at hSw); go_simp; (try with_reducible rfl))
      (try simp only [Act.put, List.setIfInBounds_toArray, List.set_cons_zero, List.set_cons_succ])
      refine' wpAnyH_take (i := 13) (oi := _) (v := _) ?hi719 (by kernel_rfl) (by kernel_rfl) (by kernel_rfl) ?hq719 (Or.inl ⟨?hw719, ?hy719⟩) (by assumption) ?rest719
      case hi719 => (simp only [List.getElem?_toArray, List.getElem?_cons_succ, List.getElem?_cons_zero]; rfl)
      case hq719 => exact fun _ _ _ h => h
      case hw719 => rfl
      case hy719 => (intro wq hSw; (try dsimp only at hSw); go_simp; (try with_reducible rfl))
      (try simp only [Act.put, List.setIfInBounds_toArray, List.set_cons_zero, List.set_cons_succ])
      refine wpAnyH_ready (rs := [14]) (by kernel_rfl) (by simp) ?_
      refine' AllReadyH.cons (o := _) ?hi720 (fun K hK => ?rest720) AllReadyH.nil
      case hi720 => (simp only [List.getElem?_toArray, List.getElem?_cons_succ, List.getElem?_cons_zero]; rfl)
      go_simp
      refine hK.out _ _ (by (try dsimp only); exact ⟨by rw [cell_of_row _ _ _ _ _ _ (HK6.out.set (g := pa) (j := 2) (x := .slice (some ⟨g6, 0, none⟩) (j + 1) c6) (by omega)).k0]; rfl, by rw [cell_of_row _ _ _ _ _ _ (HQa.out.app HO6.out HG6.out HD6.out).P]; rfl⟩) (fun hHeld => ?_)
      clear hK K
      (try simp only [Act.put, List.setIfInBounds_toArray, List.set_cons_zero, List.set_cons_succ])
      refine wpAnyH_done (by kernel_rfl) ?_ _
      have HQb := Lib.hid (HQa.out.app HO6.out HG6.out HD6.out)
      have HKb := Lib.hid ((HKa.out.grown HG6.out (fun g e => by have := Hlt.out g e; omega)).set (g := pa) (j := 2) (x := .slice (some ⟨g6, 0, none⟩) (j + 1) c6) (by omega))
      have HGb : Hid (g6 < p ∨ u1.heap.size < g6) := Lib.hid (by
        rcases HD6.out with h | h
        · exact .inl (Hlt.out g6 h.symm)
        · injection h with h
          right
          have h : g6 = ua.heap.size := h
          have := HNa.out.2
          omega)
      clear s0 s2 s3 cpa fpa HQa HKa HNa HO6 HG6 HD6 hg6a hg6b hHeld
      generalize w6.setCell ⟨pa, 2, none⟩ (.slice (some ⟨g6, 0, none⟩) (j + 1) c6) = u7 at *
      have s0 : u7.cell? ⟨p, 0, none⟩ = some (.pointer (some ⟨pa, 0, none⟩)) := by rw [cell_of_row _ _ _ _ _ _ HKb.out.k0]; rfl
      have s1 : u7.cell? ⟨p + 1, 1, none⟩ = some (.int .i64 b) := by rw [cell_of_row _ _ _ _ _ _ HKb.out.k1]; rfl
      have s3 : u7.cell? ⟨pa, 1, none⟩ = some (.int .i64 H) := by rw [cell_of_row _ _ _ _ _ _ HQb.out.P]; rfl
      have f3 := frozen_of_row u7 pa 1 _ _ HQb.out.P
      have hw3 : IntKind.i64.wrap (H + b) = H + b := IntWalk.i64_in _ (by omega)
      have HQc := Lib.hid (HQb.out.high (H + b)).drew
      have HKc := Lib.hid ((HKb.out.set (g := pa) (j := 1) (x := .int .i64 (H + b)) (by omega)).below (Below.refl _ _).drew)
      clear HQb HKb
      go_upto_region 5 with fail
      go_still_tail 9, (by kernel_rfl)
      change wpList _ _ _ _ _ u7.drew
      go_upto_region 6 with fail
      clear s0 s1 s3 f3 hw3
      generalize (u7.setCell ⟨pa, 1, none⟩ (.int .i64 (H + b))).drew = u8 at *
      have HQd := HQc.out
      rw [← inter_app H 0 (by rw [HL.out, HT.out])] at HQd
      have HQd := Lib.hid HQd
      have HGS : Hid ((g6 ≠ p ∧ g6 ≠ p + 1 ∧ g6 ≠ p + 2) ∧ g6 ≠ u8.heap.size) := Lib.hid ⟨by have := HGb.out; have := HPu.out; omega, by have := (HQd.out.S.lt g6 rfl).2; omega⟩
      have HTE : Hid ((s.tops ++ [H]).length = (s.ends ++ [0]).length ∧ (s.ends ++ [0]).length = j + 1) := Lib.hid ⟨by simp; rw [HL.out, HT.out], by simp; exact HL.out⟩
      have HE0 : Hid ((s.ends ++ [0]).getD j 0 = 0 ∧ (s.tops ++ [H]).getD j 0 = H) := Lib.hid ⟨by rw [getD_app _ _ _ (by rw [HL.out]; omega), if_pos HL.out.symm], by rw [getD_app _ _ _ (by rw [HT.out]; omega), if_pos HT.out.symm]⟩
      have HBx : Hid (0 ≤ (s.ends ++ [0]).getD j 0 ∧ (s.ends ++ [0]).getD j 0 ≤ 1000) := Lib.hid (by rw [HE0.out.1]; omega)
      clear HQc
      have hgl := HGS.out.1
      have hgps := HGS.out.2
      have hjI : (j : Int) < (((j + 1) : Nat) : Int) := by omega
      have hjI2 : (j : Int) < (j : Int) + 1 := by omega
      have s0 : u8.cell? ⟨p, 0, none⟩ = some (.pointer (some ⟨pa, 0, none⟩)) := by rw [cell_of_row _ _ _ _ _ _ HKc.out.k0]; rfl
      have s2 : u8.cell? ⟨pa, 2, none⟩ = some (.slice (some ⟨g6, 0, none⟩) (j + 1) c6) := by rw [cell_of_row _ _ _ _ _ _ HQd.out.P]; rfl
      have hlen : (inter (s.tops ++ [H]) (s.ends ++ [0])).length = (j + 1) * 2 := by rw [inter_len HTE.out.1, HTE.out.2]
      have c0 := HQd.out.S.cell (j := j * 2) (by rw [hlen]; omega)
      have c1 := HQd.out.S.cell (j := j * 2 + 1) (by rw [hlen]; omega)
      have hg2 := inter_get (ts := (s.tops ++ [H])) (es := (s.ends ++ [0])) j HTE.out.1 (by rw [HTE.out.2]; omega)
      rw [hg2.1] at c0
      rw [hg2.2] at c1
      obtain ⟨y, hy⟩ : ∃ y, y = ((s.tops ++ [H])).getD j 0 := ⟨_, rfl⟩
      obtain ⟨x, hx⟩ : ∃ x, x = ((s.ends ++ [0])).getD j 0 := ⟨_, rfl⟩
      rw [← hy] at c0
      rw [← hx] at c1
      have HXY : Hid (((s.tops ++ [H])).getD j 0 = y ∧ ((s.ends ++ [0])).getD j 0 = x) := Lib.hid ⟨hy.symm, hx.symm⟩
      have hxb : 0 ≤ x ∧ x ≤ 1000 := by rw [hx]; exact HBx.out
      have HQs := Lib.hid (HQd.out.alloc (.cells #[.int .i64 y, .int .i64 x] 74))
      have HKs := Lib.hid (HKc.out.below ((Below.refl _ _).alloc (Nat.le_refl _) (.cells #[.int .i64 y, .int .i64 x] 74)))
      have HN := Lib.hid (heap_alloc_new u8 (.cells #[.int .i64 y, .int .i64 x] 74))
      have HNs : Hid (g6 ≠ u8.heap.size) := Lib.hid hgps
      clear hlen hg2 hy hx hgps
      go_upto_region 7 with fail
      clear s0 s2 c0 c1
      generalize u8.alloc (.cells #[.int .i64 y, .int .i64 x] 74) = us at *
      generalize u8.heap.size = ps at *
      have s0 : us.cell? ⟨p, 0, none⟩ = some (.pointer (some ⟨pa, 0, none⟩)) := by rw [cell_of_row _ _ _ _ _ _ HKs.out.k0]; rfl
      have s1 : us.cell? ⟨p + 1, 0, none⟩ = some (.int .i64 a) := by rw [cell_of_row _ _ _ _ _ _ HKs.out.k1]; rfl
      have s2 : us.cell? ⟨pa, 2, none⟩ = some (.slice (some ⟨g6, 0, none⟩) (j + 1) c6) := by rw [cell_of_row _ _ _ _ _ _ HQs.out.P]; rfl
      have hlen : (inter (s.tops ++ [H]) (s.ends ++ [0])).length = (j + 1) * 2 := by rw [inter_len HTE.out.1, HTE.out.2]
      have c1 := HQs.out.S.cell (j := j * 2 + 1) (by rw [hlen]; omega)
      have f1 := HQs.out.S.frozen (j * 2 + 1)
      rw [(inter_get (ts := (s.tops ++ [H])) (es := (s.ends ++ [0])) j HTE.out.1 (by rw [HTE.out.2]; omega)).2, HXY.out.2] at c1
      have hw1 : IntKind.i64.wrap (x + a) = x + a := IntWalk.i64_in _ (by omega)
      have HQt := Lib.hid (HQs.out.putS (j * 2 + 1) (x + a)).drew
      have HKt := Lib.hid ((HKs.out.set (j := j * 2 + 1) (x := .int .i64 (x + a)) hgl).below (Below.refl _ _).drew)
      have HNt : Hid (((us.setCell ⟨g6, j * 2 + 1, none⟩ (.int .i64 (x + a))).drew).heap[ps]? = some (.cells #[.int .i64 y, .int .i64 x] 74 (0, 0))) := Lib.hid (((grw_set us g6 (j * 2 + 1) (.int .i64 (x + a))).block ps (heap_lt HN.out) (fun e => HNs.out (by injection e with e; exact e.symm))).trans HN.out)
      clear hlen HQs HKs HN
      go_still_tail 13, (by kernel_rfl)
      change wpList _ _ _ _ _ us.drew
      go_upto_region 8 with fail
      clear s0 s1 s2 c1 f1 hw1
      generalize (us.setCell ⟨g6, j * 2 + 1, none⟩ (.int .i64 (x + a))).drew = ut at *
      have s1 : ut.cell? ⟨p + 1, 0, none⟩ = some (.int .i64 a) := by rw [cell_of_row _ _ _ _ _ _ HKt.out.k1]; rfl
      have s2 : ut.cell? ⟨p + 1, 1, none⟩ = some (.int .i64 b) := by rw [cell_of_row _ _ _ _ _ _ HKt.out.k1]; rfl
      have s3 : ut.cell? ⟨ps, 0, none⟩ = some (.int .i64 y) := by rw [cell_of_row _ _ _ _ _ _ HNt.out]; rfl
      have s4 : ut.cell? ⟨ps, 1, none⟩ = some (.int .i64 x) := by rw [cell_of_row _ _ _ _ _ _ HNt.out]; rfl
      have k0 : ut.cell? ⟨p + 1 + 1, 0, none⟩ = some (.int .i64 0) := by rw [cell_of_row _ _ _ _ _ _ (show ut.heap[p + 1 + 1]? = _ from HKt.out.k2)]; rfl
      have k1 : ut.cell? ⟨p + 1 + 1, 1, none⟩ = some (.int .i64 0) := by rw [cell_of_row _ _ _ _ _ _ (show ut.heap[p + 1 + 1]? = _ from HKt.out.k2)]; rfl
      have k2 : ut.cell? ⟨p + 1 + 1, 2, none⟩ = some (.int .i64 0) := by rw [cell_of_row _ _ _ _ _ _ (show ut.heap[p + 1 + 1]? = _ from HKt.out.k2)]; rfl
      have k3 : ut.cell? ⟨p + 1 + 1, 3, none⟩ = some (.int .i64 0) := by rw [cell_of_row _ _ _ _ _ _ (show ut.heap[p + 1 + 1]? = _ from HKt.out.k2)]; rfl
      have f0 := frozen_of_row ut (p + 1 + 1) 0 _ _ (show ut.heap[p + 1 + 1]? = _ from HKt.out.k2)
      have f1 := frozen_of_row ut (p + 1 + 1) 1 _ _ (show ut.heap[p + 1 + 1]? = _ from HKt.out.k2)
      have f2 := frozen_of_row ut (p + 1 + 1) 2 _ _ (show ut.heap[p + 1 + 1]? = _ from HKt.out.k2)
      have f3 := frozen_of_row ut (p + 1 + 1) 3 _ _ (show ut.heap[p + 1 + 1]? = _ from HKt.out.k2)
      have HF := Lib.hid (HQt.out.four (g := p + 1 + 1) (.int .i64 x) (.int .i64 y) (.int .i64 a) (.int .i64 b) (by have := HLo.out; omega) (by omega) (by omega) (fun e => HGS.out.1.2.2 (by injection e)) (fun e => by have := HVr.out _ e; omega))
      rw [inter_set j (x + a) HTE.out.1] at HF
      have HE : Hid (Put w go pa n vr W xs s q a b ord (.returned (.agg #[.int .i64 x, .int .i64 y, .int .i64 a, .int .i64 b])) ((((ut.setCell ⟨p + 1 + 1, 0, none⟩ (.int .i64 x)).setCell ⟨p + 1 + 1, 1, none⟩ (.int .i64 y)).setCell ⟨p + 1 + 1, 2, none⟩ (.int .i64 a)).setCell ⟨p + 1 + 1, 3, none⟩ (.int .i64 b))) := Lib.hid ⟨x, y, _, ⟨s.tops ++ [H], (s.ends ++ [0]).set j (x + a), H + b, []⟩, rfl, by
        have ex : x = 0 := HXY.out.2.symm.trans HE0.out.1
        have ey : y = H := HXY.out.1.symm.trans HE0.out.2
        have es : (s.ends ++ [0]).set j (x + a) = s.ends ++ [a] := by
          rw [ex, List.set_append_right _ _ (by rw [HL.out]; omega), HL.out, Nat.sub_self, Int.zero_add]; rfl
        unfold pkStep
        rw [HA.out, HB.out, HJ.out, if_neg (by rw [HL.out]; omega), es, ex, ey, HH.out], by
        have h := HF.out
        have e : (⟨s.tops ++ [H], (s.ends ++ [0]).set j (x + a), H + b, []⟩ : Pk).ends.length = (j + 1) := by simp; exact HL.out
        rw [e]
        exact h⟩
      have hz := blk_set (blk_set (blk_set (blk_set (show ut.heap[p + 1 + 1]? = _ from HKt.out.k2) 0 (.int .i64 x)) 1 (.int .i64 y)) 2 (.int .i64 a)) 3 (.int .i64 b)
      have HZ := Lib.hid hz
      clear HF HQt HKt HNt hz
      go_wp2
      generalize ((((ut.setCell ⟨p + 1 + 1, 0, none⟩ (.int .i64 x)).setCell ⟨p + 1 + 1, 1, none⟩ (.int .i64 y)).setCell ⟨p + 1 + 1, 2, none⟩ (.int .i64 a)).setCell ⟨p + 1 + 1, 3, none⟩ (.int .i64 b)) = uf at *
      clear k0 k1 k2 k3 f0 f1 f2 f3 s1 s2 s3 s4
      have k0 : uf.cell? ⟨p + 1 + 1, 0, none⟩ = some (.int .i64 x) := by rw [cell_of_row _ _ _ _ _ _ HZ.out]; rfl
      have k1 : uf.cell? ⟨p + 1 + 1, 1, none⟩ = some (.int .i64 y) := by rw [cell_of_row _ _ _ _ _ _ HZ.out]; rfl
      have k2 : uf.cell? ⟨p + 1 + 1, 2, none⟩ = some (.int .i64 a) := by rw [cell_of_row _ _ _ _ _ _ HZ.out]; rfl
      have k3 : uf.cell? ⟨p + 1 + 1, 3, none⟩ = some (.int .i64 b) := by rw [cell_of_row _ _ _ _ _ _ HZ.out]; rfl
      exact bodyPost_ret (v := .agg #[.int .i64 x, .int .i64 y, .int .i64 a, .int .i64 b]) (by simp [results, Try.results39, go_sem, k0, k1, k2, k3]) rfl HE.out
end Go.Proofs.Ytgieijogopcjnaa
