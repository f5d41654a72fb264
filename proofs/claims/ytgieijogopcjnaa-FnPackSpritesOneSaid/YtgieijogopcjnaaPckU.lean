/- The program's PackSprites. -/
import Derived.Test.YtgieijogopcjnaaPckK
namespace Go.Proofs.Ytgieijogopcjnaa
open Go.RowKit
set_option linter.unusedSimpArgs false
set_option linter.unusedVariables false
set_option maxRecDepth 20000

set_option maxHeartbeats 8000000 in
theorem i_PackSprites (A : Option Addr) (n c : Nat) (W : Int) (xs : List Int) (w : World) (hx : xs.length = 2 * n) (h : Rds .i64 w w.heap.size A xs) (hl : n ≤ 2000000) :
    Calls Try.prog 15 #[.slice A n c, .int .i64 W] w (Packed W n xs w) := by
  have Hh := Lib.hid h
  have HX := Lib.hid hx
  have HV := Lib.hid (iSpr_any A n c w.heap.size W xs w hx h (Nat.le_refl _) hl)
  clear h hx
  cases hok : spOk W n xs
  · have HOk := Lib.hid hok
    clear hok
    go_enter Try.func15, Try.ntmps15
    go_wp2_with fail
    refine HV.out.mono ?_
    rintro e w1 ⟨rfl, hB⟩
    rw [HOk.out]
    have HP := Lib.hid (packed_no HOk.out hB)
    clear hB
    go_wp2
    exact bodyPost_ret (v := .tuple #[.slice none 0 0, .int .i64 (-1)]) (by simp [results, Try.results15, go_sem]) rfl HP.out
  · have HOk := Lib.hid hok
    obtain ⟨hW, hn, hks⟩ := spOk_of hok
    have HKs := Lib.hid hks
    clear hok hks
    go_enter Try.func15, Try.ntmps15
    go_wp2_with fail
    refine HV.out.mono ?_
    rintro e w1 ⟨rfl, hB⟩
    rw [HOk.out]
    have Hr1 := Lib.hid ((Hh.out.below hB).more hB.size)
    have HB1 := Lib.hid hB
    clear hB HV
    have hmk := fun U => makeB4 n (by omega) U
    have HQ : Hid (PaSt w1 ((w1.alloc (.cells #[.int .i64 W, .int .i64 0, .slice none 0 0] 61)).alloc (.cells (row (zeros (n * 4))) 29)) (w1.heap.size + 1) w1.heap.size n (.slice none 0 0) (.slice none 0 0) 0 W 0 (zeros (n * 4)) [] []) := Lib.hid (by
      have h1 := ownB4 (w1.alloc (.cells #[.int .i64 W, .int .i64 0, .slice none 0 0] 61)) n (by omega)
      simp only [World.size_alloc] at h1
      refine ⟨h1.base_le (by omega), (heap_old _ _ (by simp)).trans (heap_alloc_new w1 _), OwnT.nil _ _ _ _, World.ownsRow_nil _ _ _ _, ((Below.refl _ _).alloc (Nat.le_refl _) _).alloc (by simp) _, Nat.le_refl _, by omega, (fun e => by cases e), (fun e => by cases e), (fun e => by cases e), (fun e => by cases e), fun g e => by cases e⟩)
    go_wp2_with fail
    clear hmk
    generalize (w1.alloc (.cells #[.int .i64 W, .int .i64 0, .slice none 0 0] 61)).alloc (.cells (row (zeros (n * 4))) 29) = u0 at *
    have Hru := Lib.hid ((Hr1.out.below HQ.out.B).more HQ.out.B.size)
    refine (highest_any A n c xs u0 HX.out Hru.out (by omega)).mono ?_
    rintro e u1 ⟨vr, rfl, hOr, hB2⟩
    obtain ⟨Ar, cr, rfl, hcr⟩ := hOr.slice
    rw [tfO_len] at hOr hcr ⊢
    have HS : Hid (PaSt w1 u1 (w1.heap.size + 1) w1.heap.size n (.slice none 0 0) (.slice Ar n cr) (pkAt W xs n 0).ends.length W (pkAt W xs n 0).h (pkAt W xs n 0).out (inter (pkAt W xs n 0).tops (pkAt W xs n 0).ends) (tfO xs n)) := Lib.hid (by
      have Q := HQ.out
      have hlo : ∀ g, (Value.slice Ar n cr).ownBlock = some g → u0.heap.size ≤ g := fun g hg => (hOr.lt g hg).1
      have q1 := heap_lt Q.P
      have q3 := (ownT_gt Q.O).1
      exact ⟨Q.O.below hB2 (Nat.le_refl _), (hB2.block _ q1).trans Q.P, OwnT.nil _ _ _ _, hOr.base_le Q.B.size, Q.B.trans (hB2.mono Q.B.size), Q.lo, Q.op, Q.os, Q.sp, fun e => by have := hlo _ e; omega, fun e => by have := hlo _ e; omega, fun g e => by cases e⟩)
    clear hOr hB2 HQ Hru
    go_wp2_with fail
    go_loopw [22] (fun i wr => ∃ (k : Nat) (vs : Value), k ≤ n ∧ i = .int .i64 (k : Int) ∧ Hid (PaSt w1 wr (w1.heap.size + 1) w1.heap.size n vs (.slice Ar n cr) (pkAt W xs n k).ends.length W (pkAt W xs n k).h (pkAt W xs n k).out (inter (pkAt W xs n k).tops (pkAt W xs n k).ends) (tfO xs n))) (fun i _ => n - (intOf i).toNat)
    case atStart => exact ⟨0, _, Nat.zero_le _, rfl, HS⟩
    case round =>
      clear HS
      obtain ⟨k, vs, hk, rfl, hS⟩ := hrel
      rename World => wr
      by_cases hlt : k < n
      · have hkI : (k : Int) < (n : Int) := by omega
        obtain ⟨gr, hAr⟩ : ∃ gr, Ar = some ⟨gr, 0, none⟩ := by
          obtain ⟨g, cap, e, _⟩ := hS.out.R.form (by rw [tfO_len]; omega)
          simp only [Value.slice.injEq] at e
          exact ⟨g, e.1⟩
        subst hAr
        obtain ⟨hq, ho⟩ := ordN_lt xs hlt
        have HBd := Lib.hid (pk_bd HKs.out (k := k) hk)
        have HLen := Lib.hid (pkAt_len W xs n k)
        have HStep : Hid (pkAt W xs n (k + 1) = pkStep W xs (pkAt W xs n k) (ordN xs n k)) := Lib.hid rfl
        obtain ⟨s, hs⟩ : ∃ s, s = pkAt W xs n k := ⟨_, rfl⟩
        obtain ⟨q, hqe⟩ : ∃ q, q = ordN xs n k := ⟨_, rfl⟩
        rw [← hs] at HBd HLen HStep hS
        rw [← hqe] at hq ho HStep
        have hwh := okSs_wh HKs.out hq
        obtain ⟨a, ha⟩ : ∃ a, a = wid xs q := ⟨_, rfl⟩
        obtain ⟨b, hb⟩ : ∃ b, b = hgt xs q := ⟨_, rfl⟩
        rw [← ha, ← hb] at hwh
        obtain ⟨b0, off, rfl, hb0, hc⟩ := Hr1.out.cells_ (show q * 2 + 1 < xs.length by have := HX.out; omega)
        have c0 : wr.cell? ⟨b0, off + q * 2, none⟩ = some (.int .i64 a) := (hS.out.B.cell (p := ⟨b0, off + q * 2, none⟩) hb0).trans (by have := hc (q * 2) (by have := HX.out; omega); rw [this, ha]; rfl)
        have c1 : wr.cell? ⟨b0, off + q * 2 + 1, none⟩ = some (.int .i64 b) := (hS.out.B.cell (p := ⟨b0, off + q * 2 + 1, none⟩) hb0).trans (by have := hc (q * 2 + 1) (by have := HX.out; omega); rw [← Nat.add_assoc] at this; rw [this, hb]; rfl)
        have o1 := hS.out.R.cell (j := k) (tfO_len xs n).symm (by rw [tfO_len]; omega)
        rw [ho] at o1
        have hqI : (q : Int) < (n : Int) := by omega
        have HP := Lib.hid (put_any w1 wr (w1.heap.size + 1) w1.heap.size n s.ends.length vs (.slice (some ⟨gr, 0, none⟩) n cr) W a b xs (tfO xs n) s q hS.out rfl HLen.out.2.1 (by have := HLen.out.2.2; omega) ha.symm hb.symm ⟨by omega, by omega⟩ (by have := HBd.out.1; omega) (fun j hj => by have := HBd.out.2 j hj; omega))
        have HLo := Lib.hid HLen.out.1
        clear hs hqe ha hb ho hc hS HBd HLen
        go_wp2_with fail
        clear c0 c1 o1
        refine HP.out.mono ?_
        rintro e w2 ⟨x, y, vs', s', rfl, hst, hQ2⟩
        have HQ2 := Lib.hid hQ2
        have HSt := Lib.hid (HStep.out.trans hst)
        have hO := hQ2.O
        have k0 := hO.cell (j := q * 4) (by have := HLo.out; omega)
        have k1 := hO.cell (j := q * 4 + 1) (by have := HLo.out; omega)
        have k2 := hO.cell (j := q * 4 + 2) (by have := HLo.out; omega)
        have k3 := hO.cell (j := q * 4 + 3) (by have := HLo.out; omega)
        have f0 := hO.frozen (q * 4)
        have f1 := hO.frozen (q * 4 + 1)
        have f2 := hO.frozen (q * 4 + 2)
        have f3 := hO.frozen (q * 4 + 3)
        generalize s.out.getD (q * 4) 0 = y0 at *
        generalize s.out.getD (q * 4 + 1) 0 = y1 at *
        generalize s.out.getD (q * 4 + 2) 0 = y2 at *
        generalize s.out.getD (q * 4 + 3) 0 = y3 at *
        have HN : Hid (PaSt w1 ((((w2.setCell ⟨w1.heap.size + 1, q * 4, none⟩ (.int .i64 x)).setCell ⟨w1.heap.size + 1, q * 4 + 1, none⟩ (.int .i64 y)).setCell ⟨w1.heap.size + 1, q * 4 + 2, none⟩ (.int .i64 a)).setCell ⟨w1.heap.size + 1, q * 4 + 3, none⟩ (.int .i64 b)) (w1.heap.size + 1) w1.heap.size n vs' (.slice (some ⟨gr, 0, none⟩) n cr) (pkAt W xs n (k + 1)).ends.length W (pkAt W xs n (k + 1)).h (pkAt W xs n (k + 1)).out (inter (pkAt W xs n (k + 1)).tops (pkAt W xs n (k + 1)).ends) (tfO xs n)) := Lib.hid (by
          rw [HSt.out]
          exact ((((HQ2.out.putO (q * 4) x).putO (q * 4 + 1) y).putO (q * 4 + 2) a).putO (q * 4 + 3) b))
        clear hO hst hQ2 HQ2 HSt HStep HP
        go_wp2
        go_roundw
        case rel => exact ⟨k + 1, vs', by omega, by go_num, HN⟩
        case measure => simp [intOf]; omega
      · obtain rfl : k = n := by omega
        have hkI : ¬ (k : Int) < (k : Int) := by omega
        obtain ⟨H, hH⟩ : ∃ H, H = (pkAt W xs k k).h := ⟨_, rfl⟩
        have p1 : wr.cell? ⟨w1.heap.size, 1, none⟩ = some (.int .i64 H) := by rw [cell_of_row _ _ _ _ _ _ hS.out.P, hH]; rfl
        have HPk : Hid (∀ m, Packed W k xs w (.returned (.tuple #[.slice (some ⟨w1.heap.size + 1, 0, none⟩) k k, .int .i64 H])) (wr.drewN m)) := Lib.hid (fun m => packed_yes HOk.out hH.symm ((hS.out.drewN m).O.base_le HB1.out.size) (HB1.out.trans ((hS.out.drewN m).B.mono HB1.out.size)))
        clear hS hH
        go_upto_region 10 with fail
        go_quiet (fail)
        go_wp2
        exact bodyPost_ret (v := .tuple #[.slice (some ⟨w1.heap.size + 1, 0, none⟩) k k, .int .i64 H]) (by simp [results, Try.results15, go_sem]) rfl (HPk.out _)
end Go.Proofs.Ytgieijogopcjnaa
