/- The model's PackSprites. -/
import Derived.Test.YtgieijogopcjnaaPckP
import Derived.Test.YtgieijogopcjnaaPckS
import Derived.Test.YtgieijogopcjnaaDrawRows
import Derived.BigRegion
import Derived.BigQuiet
import Derived.Deep.QuietTactic
namespace Go.Proofs.Ytgieijogopcjnaa
open Go.RowKit
set_option linter.unusedSimpArgs false
set_option linter.unusedVariables false
set_option maxRecDepth 20000

theorem heap_old (w : World) (o : Obj) {p : Nat} (h : p < w.heap.size) : (w.alloc o).heap[p]? = w.heap[p]? := by
  have e : (w.alloc o).heap = w.heap.push o := rfl
  rw [e]
  simp [Array.getElem?_push, Nat.ne_of_lt h]
theorem infoB4 : (Try.prog.info? 29).map (fun i => (i.zero, i.size, i.bytes)) = some (some (.agg #[.int .i64 0, .int .i64 0, .int .i64 0, .int .i64 0]), 4, 32) := by kernel_rfl
theorem madeB4 (n : Nat) : madeCells #[Value.int .i64 0, Value.int .i64 0, Value.int .i64 0, Value.int .i64 0] n = row (zeros n) := by
  apply Array.ext
  · simp [size_madeCells, row, zeros]
  · intro i h1 h2
    have hm : i % 4 < 4 := Nat.mod_lt _ (by decide)
    simp only [madeCells, row, zeros, Array.getElem_map, Array.getElem_range, List.getElem_toArray, List.getElem_map, List.getElem_replicate]
    have : ∀ j, j < 4 → (#[Value.int .i64 0, Value.int .i64 0, Value.int .i64 0, Value.int .i64 0] : Array Value)[j]! = Value.int .i64 0 := by
      intro j hj
      match j, hj with
      | 0, _ => rfl
      | 1, _ => rfl
      | 2, _ => rfl
      | 3, _ => rfl
    exact this _ hm
theorem makeB4 (n : Nat) (hn : n ≤ 10000000) (W : World) : (Instr.makeSlice 23 (.int .i64 (n : Int)) (.int .i64 (n : Int))).run Try.prog W = .ok (.slice (some ⟨W.heap.size, 0, none⟩) n n) (W.alloc (.cells (row (zeros (n * 4))) 29)) := by
  obtain ⟨i, hi, hz, hs, hb⟩ := info_parts infoB4
  have h := run_make (P := Try.prog) W 23 29 i _ Try.underlying23 hi hz .i64 .i64 n n (by omega) (Int.le_refl _) (by rw [hb]; omega) (by omega)
  simp only [Int.toNat_natCast, hs] at h
  rw [h]
  have e : madeCells (Value.agg #[.int .i64 0, .int .i64 0, .int .i64 0, .int .i64 0]).cells (n * 4) = row (zeros (n * 4)) := madeB4 (n * 4)
  rw [e]
theorem ownB4 (w : World) (n : Nat) (hn : n ≤ 1000000) : OwnT 29 4 (w.alloc (.cells (row (zeros (n * 4))) 29)) w.heap.size (.slice (some ⟨w.heap.size, 0, none⟩) n n) n (zeros (n * 4)) := by
  have h := BlkT.new 29 w (zeros (n * 4))
  exact ⟨by simp [zeros], .inr ⟨w.heap.size, n, row (zeros (n * 4)), rfl, Nat.le_refl _, h, Nat.le_refl _, by unfold maxLen; omega, by simp [row, zeros], by simp [row, zeros]⟩⟩
/-- The rows of the packing, none in another's block. -/
structure PkSt (w wr : World) (go n : Nat) (vt ve vr : Value) (out tops ends ord : List Int) : Prop where
  O : OwnT 29 4 wr w.heap.size (.slice (some ⟨go, 0, none⟩) n n) n out
  T : Own wr w.heap.size vt tops
  E : Own wr w.heap.size ve ends
  R : Own wr w.heap.size vr ord
  B : Below w.heap.size w wr
  ot : vt.ownBlock ≠ some go
  oe : ve.ownBlock ≠ some go
  or : vr.ownBlock ≠ some go
  te : Dj vt ve
  tr : Dj vt vr
  er : Dj ve vr
section
variable {w wr w' : World} {go n : Nat} {vt ve vr vt' ve' : Value} {out tops ends ord zs : List Int}
theorem Own.kept {base : Nat} {v : Value} {xs : List Int} {row : Option Nat} (h : Own w base v xs) (hg : w.grownBy w' row) (hne : v.ownBlock ≠ row) : Own w' base v xs := World.ownsRow.kept h hg (.inr hne)
theorem PkSt.drewN (h : PkSt w wr go n vt ve vr out tops ends ord) (m : Nat) : PkSt w (wr.drewN m) go n vt ve vr out tops ends ord := ⟨h.O, h.T, h.E, h.R, dnP h.B m, h.ot, h.oe, h.or, h.te, h.tr, h.er⟩
theorem PkSt.drew (h : PkSt w wr go n vt ve vr out tops ends ord) : PkSt w wr.drew go n vt ve vr out tops ends ord := ⟨h.O, h.T, h.E, h.R, h.B.drew, h.ot, h.oe, h.or, h.te, h.tr, h.er⟩
theorem PkSt.alloc (h : PkSt w wr go n vt ve vr out tops ends ord) (o : Obj) : PkSt w (wr.alloc o) go n vt ve vr out tops ends ord := ⟨h.O.alloc o, h.T.alloc o, h.E.alloc o, h.R.alloc o, h.B.alloc h.B.size o, h.ot, h.oe, h.or, h.te, h.tr, h.er⟩
theorem dj_ne {u v : Value} {g : Nat} (h : Dj u v) (hg : u.ownBlock = some g) : v.ownBlock ≠ u.ownBlock := fun e => h g hg (e.trans hg)
theorem ownT_gt {base g c : Nat} (h : OwnT 29 4 w base (.slice (some ⟨g, 0, none⟩) n c) n out) : g < w.heap.size ∧ base ≤ g := ⟨(h.lt g rfl).2, (h.lt g rfl).1⟩
theorem PkSt.appT (h : PkSt w wr go n vt ve vr out tops ends ord) {gt : Nat} (hb : vt.ownBlock = some gt) (hO : Own w' w.heap.size vt' zs) (hG : wr.grownBy w' vt.ownBlock) (hd : vt'.ownBlock = vt.ownBlock ∨ vt'.ownBlock = some wr.heap.size) : PkSt w w' go n vt' ve vr out zs ends ord := by
  have k1 := ownT_gt h.O
  refine ⟨OwnT.kept h.O hG (.inr (fun e => h.ot e.symm)), hO, h.E.kept hG (dj_ne h.te hb), h.R.kept hG (dj_ne h.tr hb), h.B.grown hG h.B.size (fun j hj => (h.T.lt j hj).1), ?_, h.oe, h.or, ?_, ?_, h.er⟩
  · rcases hd with e | e
    · rw [e]; exact h.ot
    · rw [e]; intro e2; injection e2 with e2; omega
  · rcases hd with e | e
    · intro g h1; rw [e] at h1; exact h.te g h1
    · intro g h1 h2; rw [e] at h1; injection h1 with h1; have := (h.E.lt g h2).2; omega
  · rcases hd with e | e
    · intro g h1; rw [e] at h1; exact h.tr g h1
    · intro g h1 h2; rw [e] at h1; injection h1 with h1; have := (h.R.lt g h2).2; omega
theorem PkSt.appE (h : PkSt w wr go n vt ve vr out tops ends ord) {ge : Nat} (hb : ve.ownBlock = some ge) (hO : Own w' w.heap.size ve' zs) (hG : wr.grownBy w' ve.ownBlock) (hd : ve'.ownBlock = ve.ownBlock ∨ ve'.ownBlock = some wr.heap.size) : PkSt w w' go n vt ve' vr out tops zs ord := by
  have k1 := ownT_gt h.O
  refine ⟨OwnT.kept h.O hG (.inr (fun e => h.oe e.symm)), h.T.kept hG (dj_ne h.te.symm hb), hO, h.R.kept hG (dj_ne h.er hb), h.B.grown hG h.B.size (fun j hj => (h.E.lt j hj).1), h.ot, ?_, h.or, ?_, h.tr, ?_⟩
  · rcases hd with e | e
    · rw [e]; exact h.oe
    · rw [e]; intro e2; injection e2 with e2; omega
  · rcases hd with e | e
    · intro g h1 h2; rw [e] at h2; exact h.te g h1 h2
    · intro g h1 h2; rw [e] at h2; injection h2 with h2; have := (h.T.lt g h1).2; omega
  · rcases hd with e | e
    · intro g h1; rw [e] at h1; exact h.er g h1
    · intro g h1 h2; rw [e] at h1; injection h1 with h1; have := (h.R.lt g h2).2; omega
theorem PkSt.putO (h : PkSt w wr go n vt ve vr out tops ends ord) (j : Nat) (y : Int) : PkSt w (wr.setCell ⟨go, j, none⟩ (.int .i64 y)) go n vt ve vr (out.set j y) tops ends ord := by
  have hp := h.O.put j y
  exact ⟨hp.1, h.T.kept hp.2 h.ot, h.E.kept hp.2 h.oe, h.R.kept hp.2 h.or, h.B.setCell (ownT_gt h.O).2 _, h.ot, h.oe, h.or, h.te, h.tr, h.er⟩
theorem PkSt.putE {ge L c : Nat} (h : PkSt w wr go n vt (.slice (some ⟨ge, 0, none⟩) L c) vr out tops ends ord) (hL : L = ends.length) (j : Nat) (y : Int) : PkSt w (wr.setCell ⟨ge, j, none⟩ (.int .i64 y)) go n vt (.slice (some ⟨ge, 0, none⟩) L c) vr out tops (ends.set j y) ord := by
  have hp := h.E.put hL j y
  exact ⟨OwnT.kept h.O hp.2 (.inr (fun e => h.oe e.symm)), h.T.kept hp.2 (dj_ne h.te.symm rfl), hp.1, h.R.kept hp.2 (dj_ne h.er rfl), h.B.setCell (h.E.lt ge rfl).1 _, h.ot, h.oe, h.or, h.te, h.tr, h.er⟩
end
theorem pk_bd {W : Int} {xs : List Int} {n : Nat} (hok : okSs W xs n = true) {k : Nat} (hk : k ≤ n) : (0 ≤ (pkAt W xs n k).h ∧ (pkAt W xs n k).h ≤ 16 * k) ∧ ∀ j, j < (pkAt W xs n k).ends.length → 0 ≤ (pkAt W xs n k).ends.getD j 0 ∧ (pkAt W xs n k).ends.getD j 0 ≤ W := by
  obtain ⟨hs, I⟩ := pk_inv hok k hk
  have h0 : ∀ m, 0 ≤ sumK hs m := fun m => by
    induction m with
    | zero => exact Int.le_refl _
    | succ m ih => have := I.hs0 m; show 0 ≤ sumK hs m + hs m; omega
  have h16 : ∀ m, m ≤ k → sumK (fun i => hgt xs (ordN xs n i)) m ≤ 16 * m := fun m => by
    induction m with
    | zero => intro _; exact Int.le_refl _
    | succ m ih => intro hm; have := ih (by omega); have := (okSs_wh hok (ordN_lt xs (n := n) (k := m) (by omega)).1).2; show sumK _ m + hgt xs (ordN xs n m) ≤ _; omega
  have := I.sm
  have := h16 k (Nat.le_refl _)
  exact ⟨⟨by rw [I.hh]; exact h0 _, by omega⟩, I.en⟩
/-- Packed: the boxes and the height. -/
def Packed (W : Int) (n : Nat) (xs : List Int) (w : World) (e : Ending) (w' : World) : Prop :=
  ∃ v, e = .returned (.tuple #[v, .int .i64 (pkH W n xs)]) ∧ OwnT 29 4 w' w.heap.size v (pkN W n xs) (pkL W n xs) ∧ Below w.heap.size w w'
theorem packed_no {W : Int} {n : Nat} {xs : List Int} {w w' : World} (h : spOk W n xs = false) (hb : Below w.heap.size w w') : Packed W n xs w (.returned (.tuple #[.slice none 0 0, .int .i64 (-1)])) w' :=
  ⟨.slice none 0 0, by unfold pkH; rw [h]; rfl, by unfold pkN pkL; rw [h]; exact OwnT.nil _ _ _ _, hb⟩
theorem packed_yes {W : Int} {n : Nat} {xs : List Int} {w w' : World} {v : Value} {H : Int} (h : spOk W n xs = true) (hH : (pkAt W xs n n).h = H) (hO : OwnT 29 4 w' w.heap.size v n (pkAt W xs n n).out) (hb : Below w.heap.size w w') : Packed W n xs w (.returned (.tuple #[v, .int .i64 H])) w' :=
  ⟨v, by unfold pkH; rw [h, ← hH]; rfl, by unfold pkN pkL; rw [h]; exact hO, hb⟩
set_option maxHeartbeats 8000000 in
theorem s_PackSprites (A : Option Addr) (n c : Nat) (W : Int) (xs : List Int) (w : World) (hx : xs.length = 2 * n) (h : Rds .i64 w w.heap.size A xs) (hl : n ≤ 2000000) :
    Calls Try.prog 13 #[.slice A n c, .int .i64 W] w (Packed W n xs w) := by
  have Hh := Lib.hid h
  have HX := Lib.hid hx
  have HV := Lib.hid (sSpr_any A n c w.heap.size W xs w hx h (Nat.le_refl _) hl)
  clear h hx
  cases hok : spOk W n xs
  · have HOk := Lib.hid hok
    clear hok
    go_enter Try.func13, Try.ntmps13
    go_wp2_with fail
    refine HV.out.mono ?_
    rintro e w1 ⟨rfl, hB⟩
    rw [HOk.out]
    have HP := Lib.hid (packed_no HOk.out hB)
    clear hB
    go_wp2
    exact bodyPost_ret (v := .tuple #[.slice none 0 0, .int .i64 (-1)]) (by simp [results, Try.results13, go_sem]) rfl HP.out
  · have HOk := Lib.hid hok
    obtain ⟨hW, hn, hks⟩ := spOk_of hok
    have HKs := Lib.hid hks
    clear hok hks
    go_enter Try.func13, Try.ntmps13
    go_wp2_with fail
    refine HV.out.mono ?_
    rintro e w1 ⟨rfl, hB⟩
    rw [HOk.out]
    have Hr1 := Lib.hid ((Hh.out.below hB).more hB.size)
    have HB1 := Lib.hid hB
    clear hB HV
    have hmk := fun U => makeB4 n (by omega) U
    have HQ : Hid (PkSt w1 (((w1.alloc (.cells (row (zeros (n * 4))) 29)).alloc (.cells #[] 3)).alloc (.cells #[] 3)) w1.heap.size n (.slice (some ⟨w1.heap.size + 1, 0, none⟩) 0 0) (.slice (some ⟨w1.heap.size + 2, 0, none⟩) 0 0) (.slice none 0 0) (zeros (n * 4)) [] [] []) := Lib.hid (by
      have h1 := ownB4 w1 n (by omega)
      have h2 := own_none (w1.alloc (.cells (row (zeros (n * 4))) 29))
      have h3 := own_none ((w1.alloc (.cells (row (zeros (n * 4))) 29)).alloc (.cells #[] 3))
      simp only [World.size_alloc] at h2 h3
      refine ⟨(h1.alloc _).alloc _, (h2.base_le (by omega)).alloc _, h3.base_le (by omega), World.ownsRow_nil _ _ _ _, (((Below.refl _ _).alloc (Nat.le_refl _) _).alloc (by simp) _).alloc (by simp; omega) _, by simp [Value.ownBlock], by simp [Value.ownBlock], by simp [Value.ownBlock], ?_, ?_, ?_⟩
      · intro g e1 e2; simp [Value.ownBlock] at e1 e2; omega
      · intro g e1 e2; simp [Value.ownBlock] at e2
      · intro g e1 e2; simp [Value.ownBlock] at e2)
    go_wp2_with fail
    clear hmk
    generalize ((w1.alloc (.cells (row (zeros (n * 4))) 29)).alloc (.cells #[] 3)).alloc (.cells #[] 3) = u0 at *
    have Hru := Lib.hid ((Hr1.out.below HQ.out.B).more HQ.out.B.size)
    refine (s_tallFirst A n c xs u0 HX.out Hru.out (by omega)).mono ?_
    rintro e u1 ⟨vr, rfl, hOr, hB2⟩
    obtain ⟨Ar, cr, rfl, hcr⟩ := hOr.slice
    rw [tfO_len] at hOr hcr ⊢
    have HS : Hid (PkSt w1 u1 w1.heap.size n (.slice (some ⟨w1.heap.size + 1, 0, none⟩) 0 0) (.slice (some ⟨w1.heap.size + 2, 0, none⟩) 0 0) (.slice Ar n cr) (pkAt W xs n 0).out (pkAt W xs n 0).tops (pkAt W xs n 0).ends (tfO xs n)) := Lib.hid (by
      have Q := HQ.out
      have hlo : ∀ g, (Value.slice Ar n cr).ownBlock = some g → u0.heap.size ≤ g := fun g hg => (hOr.lt g hg).1
      have q1 := (Q.T.lt _ rfl).2
      have q2 := (Q.E.lt _ rfl).2
      have q3 := (ownT_gt Q.O).1
      exact ⟨Q.O.below hB2 (Nat.le_refl _), Q.T.below hB2 (Nat.le_refl _), Q.E.below hB2 (Nat.le_refl _), hOr.base_le Q.B.size, Q.B.trans (hB2.mono Q.B.size), Q.ot, Q.oe, fun e => by have := hlo _ e; omega, Q.te, fun g e1 e2 => by have := hlo _ e2; have := (Q.T.lt g e1).2; omega, fun g e1 e2 => by have := hlo _ e2; have := (Q.E.lt g e1).2; omega⟩)
    clear HQ hOr hB2 Hru
    have HS0 := Lib.hid HS.out
    go_wp2_with fail
    go_loopw [7, 8, 9, 11] (fun vt ve h i wr => ∃ (k L gt ct ge ce : Nat) (H : Int), (k ≤ n ∧ L ≤ k) ∧ i = .int .i64 (k : Int) ∧ h = .int .i64 H ∧ vt = .slice (some ⟨gt, 0, none⟩) L ct ∧ ve = .slice (some ⟨ge, 0, none⟩) L ce ∧ Hid ((pkAt W xs n k).ends.length = L ∧ (pkAt W xs n k).h = H) ∧ Hid (PkSt w1 wr w1.heap.size n (.slice (some ⟨gt, 0, none⟩) L ct) (.slice (some ⟨ge, 0, none⟩) L ce) (.slice Ar n cr) (pkAt W xs n k).out (pkAt W xs n k).tops (pkAt W xs n k).ends (tfO xs n))) (fun _ _ _ i _ => n - (intOf i).toNat)
    case atStart => exact ⟨0, 0, _, _, _, _, 0, by omega, rfl, rfl, rfl, rfl, Lib.hid ⟨rfl, rfl⟩, HS⟩
    case round =>
      clear HS HS0
      obtain ⟨k, L, gt, ct, ge, ce, H, ⟨hk, hLk⟩, rfl, rfl, rfl, rfl, hLH, hS⟩ := hrel
      rename World => wr
      by_cases hlt : k < n
      · have hkI : (k : Int) < (n : Int) := by omega
        obtain ⟨gr, hAr⟩ : ∃ gr, Ar = some ⟨gr, 0, none⟩ := by
          obtain ⟨g, cap, e, _⟩ := hS.out.R.form (by rw [tfO_len]; omega)
          simp only [Value.slice.injEq] at e
          exact ⟨g, e.1⟩
        subst hAr
        obtain ⟨hq, ho⟩ := ordN_lt xs hlt
        have hbd := pk_bd HKs.out (k := k) hk
        have hlen := pkAt_len W xs n k
        have HStep : Hid (pkAt W xs n (k + 1) = pkStep W xs (pkAt W xs n k) (ordN xs n k)) := Lib.hid rfl
        obtain ⟨s, hs⟩ : ∃ s, s = pkAt W xs n k := ⟨_, rfl⟩
        obtain ⟨q, hqe⟩ : ∃ q, q = ordN xs n k := ⟨_, rfl⟩
        rw [← hs] at hbd hlen HStep hLH hS
        rw [← hqe] at hq ho HStep
        have hwh := okSs_wh HKs.out hq
        obtain ⟨a, ha⟩ : ∃ a, a = wid xs q := ⟨_, rfl⟩
        obtain ⟨b, hb⟩ : ∃ b, b = hgt xs q := ⟨_, rfl⟩
        have HAB : Hid (wid xs q = a ∧ hgt xs q = b) := Lib.hid ⟨ha.symm, hb.symm⟩
        rw [← ha, ← hb] at hwh
        have hL := hLH.out.1
        have hH := hLH.out.2
        rw [hH] at hbd
        have HBd := Lib.hid hbd.2
        have hHb := hbd.1
        have HLe : Hid (L = s.ends.length ∧ L = s.tops.length ∧ s.out.length = n * 4) := Lib.hid ⟨hL.symm, by rw [hlen.2.1]; exact hL.symm, hlen.1⟩
        have HHs : Hid (s.h = H) := Lib.hid hH
        have HOrd := Lib.hid ho
        obtain ⟨b0, off, rfl, hb0, hc⟩ := Hr1.out.cells_ (show q * 2 + 1 < xs.length by have := HX.out; omega)
        have c0 : wr.cell? ⟨b0, off + q * 2, none⟩ = some (.int .i64 a) := (hS.out.B.cell (p := ⟨b0, off + q * 2, none⟩) hb0).trans (by have := hc (q * 2) (by have := HX.out; omega); rw [this, ha]; rfl)
        have c1 : wr.cell? ⟨b0, off + q * 2 + 1, none⟩ = some (.int .i64 b) := (hS.out.B.cell (p := ⟨b0, off + q * 2 + 1, none⟩) hb0).trans (by have := hc (q * 2 + 1) (by have := HX.out; omega); rw [← Nat.add_assoc] at this; rw [this, hb]; rfl)
        have o1 := hS.out.R.cell (j := k) (tfO_len xs n).symm (by rw [tfO_len]; omega)
        rw [ho] at o1
        have hqI : (q : Int) < (n : Int) := by omega
        clear hs hqe ha hb hL hH hbd hlen ho hc hLH
        obtain ⟨u, hu⟩ : ∃ u, u = wr.alloc (.cells #[.int .i64 a, .int .i64 b] 44) := ⟨_, rfl⟩
        obtain ⟨p, hp⟩ : ∃ p, p = wr.heap.size := ⟨_, rfl⟩
        have hg : u.heap[p]? = some (.cells #[.int .i64 a, .int .i64 b] 44 (0, 0)) := by rw [hu, hp]; exact heap_alloc_new wr _
        have HQ : Hid (PkSt w1 u w1.heap.size n (.slice (some ⟨gt, 0, none⟩) L ct) (.slice (some ⟨ge, 0, none⟩) L ce) (.slice (some ⟨gr, 0, none⟩) n cr) s.out s.tops s.ends (tfO xs n)) := Lib.hid (by rw [hu]; exact hS.out.alloc _)
        have HP : Hid (u.heap[p]? = some (.cells #[.int .i64 a, .int .i64 b] 44 (0, 0)) ∧ wr.heap.size = p) := Lib.hid ⟨hg, hp.symm⟩
        have HU := Lib.hid hu
        have HPz := Lib.hid hp
        have HPgt : Hid (gt ≠ p ∧ ge ≠ p) := Lib.hid (by have h1 := (hS.out.T.lt gt rfl).2; have h2 := (hS.out.E.lt ge rfl).2; omega)
        have HQ00 := Lib.hid (show w1.heap.size < wr.heap.size from (ownT_gt hS.out.O).1)
        clear hg hu hp
        go_upto_region 12 with fail
        rw [← HU.out, ← HPz.out]
        clear c0 c1 o1 HU HPz hS
        have HPne : Hid (w1.heap.size ≠ p) := Lib.hid (by have h1 := HP.out.2; have h2 := HQ00.out; omega)
        have g0 : u.cell? ⟨p, 0, none⟩ = some (.int .i64 a) := by rw [cell_of_row _ _ _ _ _ _ HP.out.1]; rfl
        go_wp2_with fail
        go_loopw [13] (fun v wq => ∃ j : Nat, j ≤ L ∧ v = .int .i64 (j : Int) ∧ Hid (∀ i, i < j → ¬ s.ends.getD i 0 + a ≤ W) ∧ Hid (PkSt w1 wq w1.heap.size n (.slice (some ⟨gt, 0, none⟩) L ct) (.slice (some ⟨ge, 0, none⟩) L ce) (.slice (some ⟨gr, 0, none⟩) n cr) s.out s.tops s.ends (tfO xs n) ∧ wq.heap[p]? = some (.cells #[.int .i64 a, .int .i64 b] 44 (0, 0)))) (fun v _ => L - (intOf v).toNat)
        case atStart => exact ⟨0, Nat.zero_le _, rfl, Lib.hid (fun i hi => absurd hi (Nat.not_lt_zero _)), Lib.hid ⟨HQ.out, HP.out.1⟩⟩
        case round =>
          clear HQ g0
          rename World => wr0
          obtain ⟨j, hj, rfl, hNo, hI⟩ := hrel
          rename World => wq
          have g0 : wq.cell? ⟨p, 0, none⟩ = some (.int .i64 a) := by rw [cell_of_row _ _ _ _ _ _ hI.out.2]; rfl
          by_cases hjL : j < L
          · have d0 : decide ((j : Int) < (L : Int)) = true := decide_eq_true (by omega)
            have he := hI.out.1.E.cell (j := j) HLe.out.1 (by have := HLe.out.1; omega)
            have hbe := HBd.out j (by have := HLe.out.1; omega)
            obtain ⟨x, hxe⟩ : ∃ x, x = s.ends.getD j 0 := ⟨_, rfl⟩
            have HXe : Hid (s.ends.getD j 0 = x) := Lib.hid hxe.symm
            rw [← hxe] at he hbe
            clear hxe
            have hw1 : IntKind.i64.wrap (x + a) = x + a := IntWalk.i64_in _ (by omega)
            by_cases hroom : W < x + a
            · have d1 : decide (W < x + a) = true := decide_eq_true hroom
              have HNo2 : Hid (∀ i, i < j + 1 → ¬ s.ends.getD i 0 + a ≤ W) := Lib.hid (fun i hi => by
                by_cases e : i = j
                · subst e; rw [HXe.out]; omega
                · exact hNo.out i (by omega))
              clear hroom hNo
              go_upto_region 13 with fail
              go_quiet (fail)
              have HI2 := Lib.hid (show PkSt w1 (wq.drewN nq) w1.heap.size n (.slice (some ⟨gt, 0, none⟩) L ct) (.slice (some ⟨ge, 0, none⟩) L ce) (.slice (some ⟨gr, 0, none⟩) n cr) s.out s.tops s.ends (tfO xs n) ∧ (wq.drewN nq).heap[p]? = some (.cells #[.int .i64 a, .int .i64 b] 44 (0, 0)) from ⟨hI.out.1.drewN _, hI.out.2⟩)
              go_wp2
              go_roundw
              case rel => exact ⟨j + 1, by omega, by go_num, HNo2, HI2⟩
              case measure => simp [intOf]; omega
            · have d1 : decide (W < x + a) = false := decide_eq_false hroom
              have HSh : Hid (shF W a s.ends = j) := Lib.hid (shF_at (by have := HLe.out.1; omega) hNo.out (fun _ => by rw [HXe.out]; omega))
              clear hNo
              go_upto_region 13 with fail
              go_quiet (fail)
              have HQ := Lib.hid (show PkSt w1 (wq.drewN nq) w1.heap.size n (.slice (some ⟨gt, 0, none⟩) L ct) (.slice (some ⟨ge, 0, none⟩) L ce) (.slice (some ⟨gr, 0, none⟩) n cr) s.out s.tops s.ends (tfO xs n) from hI.out.1.drewN _)
              have HP2 := Lib.hid (show (wq.drewN nq).heap[p]? = some (.cells #[.int .i64 a, .int .i64 b] 44 (0, 0)) from hI.out.2)
              clear hI g0 he d0 d1
              generalize wq.drewN nq = wz at *
              have hne : ((j : Int) == (L : Int)) = false := beq_eq_false_iff_ne.2 (by omega)
              go_upto_region 19 with fail
              have HlE : Hid (L = s.ends.length ∧ L = s.tops.length) := Lib.hid ⟨HLe.out.1, HLe.out.2.1⟩
              have HE0 : Hid (s.ends.getD j 0 = x) := HXe
              have HPn : Hid (w1.heap.size ≠ p) := HPne

              have i1 : (j : Int) < (L : Int) := by omega
              have hO := HQ.out.O
              have hgo := ownT_gt hO
              have hlo := HLe.out.2.2
              have k0 := hO.cell (j := q * 4) (by omega)
              have k1 := hO.cell (j := q * 4 + 1) (by omega)
              have k2 := hO.cell (j := q * 4 + 2) (by omega)
              have k3 := hO.cell (j := q * 4 + 3) (by omega)
              have f0 := hO.frozen (q * 4)
              have f1 := hO.frozen (q * 4 + 1)
              have f2 := hO.frozen (q * 4 + 2)
              have f3 := hO.frozen (q * 4 + 3)
              have o1 := HQ.out.R.cell (j := k) (tfO_len xs n).symm (by rw [tfO_len]; omega)
              rw [HOrd.out] at o1
              have o2 := HQ.out.E.cell (j := j) HlE.out.1 (by have := HlE.out.1; omega)
              have o3 := HQ.out.T.cell (j := j) HlE.out.2 (by have := HlE.out.2; omega)
              have p0 : wz.cell? ⟨p, 0, none⟩ = some (.int .i64 a) := by rw [cell_of_row _ _ _ _ _ _ HP2.out]; rfl
              have p1 : wz.cell? ⟨p, 1, none⟩ = some (.int .i64 b) := by rw [cell_of_row _ _ _ _ _ _ HP2.out]; rfl
              have HN := Lib.hid (((((HQ.out.putO (q * 4) (s.ends.getD j 0)).putO (q * 4 + 1) (s.tops.getD j 0)).putO (q * 4 + 2) a).putO (q * 4 + 3) b).drew)
              have HPw : Hid ((((((wz.setCell ⟨w1.heap.size, q * 4, none⟩ (.int .i64 (s.ends.getD j 0))).setCell ⟨w1.heap.size, q * 4 + 1, none⟩ (.int .i64 (s.tops.getD j 0))).setCell ⟨w1.heap.size, q * 4 + 2, none⟩ (.int .i64 a)).setCell ⟨w1.heap.size, q * 4 + 3, none⟩ (.int .i64 b)).drew).heap[p]? = some (.cells #[.int .i64 a, .int .i64 b] 44 (0, 0))) := Lib.hid (by
                have hpne : w1.heap.size ≠ p := HPn.out
                have s0 := hO.put (q * 4) (s.ends.getD j 0)
                have s1 := s0.1.put (q * 4 + 1) (s.tops.getD j 0)
                have s2 := s1.1.put (q * 4 + 2) a
                have s3 := s2.1.put (q * 4 + 3) b
                have hpl : p < wz.heap.size := by
                  rcases Nat.lt_or_ge p wz.heap.size with h' | h'
                  · exact h'
                  · have := HP2.out; rw [Array.getElem?_eq_none h'] at this; cases this
                exact ((gtrans (gtrans (gtrans s0.2 s1.2) s2.2) s3.2).block p hpl (fun e => hpne (by injection e with e; exact e.symm))).trans HP2.out)
              obtain ⟨y0, hy0⟩ : ∃ y, y = s.out.getD (q * 4) 0 := ⟨_, rfl⟩
              obtain ⟨y1, hy1⟩ : ∃ y, y = s.out.getD (q * 4 + 1) 0 := ⟨_, rfl⟩
              obtain ⟨y2, hy2⟩ : ∃ y, y = s.out.getD (q * 4 + 2) 0 := ⟨_, rfl⟩
              obtain ⟨y3, hy3⟩ : ∃ y, y = s.out.getD (q * 4 + 3) 0 := ⟨_, rfl⟩
              rw [← hy0] at k0
              rw [← hy1] at k1
              rw [← hy2] at k2
              rw [← hy3] at k3
              rw [HE0.out] at o2 HN HPw
              obtain ⟨tj, htj⟩ : ∃ y, y = s.tops.getD j 0 := ⟨_, rfl⟩
              have HTj := Lib.hid htj.symm
              rw [← htj] at o3 HN HPw
              clear hO hlo hy0 hy1 hy2 hy3 htj HQ HP2
              go_still_tail 19, (by kernel_rfl)
              change wpList _ _ _ _ _ wz.drew
              go_upto_region 20 with fail
              clear k0 k1 k2 k3 f0 f1 f2 f3 o1 o2 o3 p0 p1
              generalize (((((wz.setCell ⟨w1.heap.size, q * 4, none⟩ (.int .i64 x)).setCell ⟨w1.heap.size, q * 4 + 1, none⟩ (.int .i64 tj)).setCell ⟨w1.heap.size, q * 4 + 2, none⟩ (.int .i64 a)).setCell ⟨w1.heap.size, q * 4 + 3, none⟩ (.int .i64 b)).drew) = wy at *
              have o2 := HN.out.E.cell (j := j) HlE.out.1 (by have := HlE.out.1; omega)
              have f2 := HN.out.E.frozen HlE.out.1 j
              rw [HE0.out] at o2
              have p0 : wy.cell? ⟨p, 0, none⟩ = some (.int .i64 a) := by rw [cell_of_row _ _ _ _ _ _ HPw.out]; rfl
              have HM := Lib.hid ((HN.out.putE HlE.out.1 j (x + a)).drew)
              have hw2 : IntKind.i64.wrap (x + a) = x + a := IntWalk.i64_in _ (by omega)
              clear HN HPw
              go_upto_region 20 with fail
              go_region
              clear o2 f2 p0
              generalize (wy.setCell ⟨ge, j, none⟩ (.int .i64 (x + a))).drew = wx at *
              have HFin : Hid ((pkAt W xs n (k + 1)).ends.length = L ∧ (pkAt W xs n (k + 1)).h = H) := Lib.hid (by
                rw [HStep.out]
                unfold pkStep
                rw [HAB.out.1, HSh.out, if_pos (by have := HLe.out.1; omega)]
                exact ⟨by simp; exact HLe.out.1.symm, HHs.out⟩)
              have HFin2 : Hid (PkSt w1 wx w1.heap.size n (.slice (some ⟨gt, 0, none⟩) L ct) (.slice (some ⟨ge, 0, none⟩) L ce) (.slice (some ⟨gr, 0, none⟩) n cr) (pkAt W xs n (k + 1)).out (pkAt W xs n (k + 1)).tops (pkAt W xs n (k + 1)).ends (tfO xs n)) := Lib.hid (by
                have h := HM.out
                rw [HStep.out]
                unfold pkStep
                rw [HAB.out.1, HAB.out.2, HSh.out, if_pos (by have := HLe.out.1; omega), HXe.out, HTj.out]
                exact h)
              clear HM HStep
              go_wp2
              go_roundw
              case rel => exact ⟨k + 1, L, gt, ct, ge, ce, H, by omega, by go_num, rfl, rfl, rfl, HFin, HFin2⟩
              case measure => simp [intOf]; omega
          · obtain rfl : j = L := by omega
            have d0 : decide ((j : Int) < (j : Int)) = false := decide_eq_false (by omega)
            have HSh : Hid (shF W a s.ends = j) := Lib.hid (shF_at (by have := HLe.out.1; omega) hNo.out (fun h => by have := HLe.out.1; omega))
            clear hNo
            go_upto_region 13 with fail
            go_quiet (fail)
            have HQ := Lib.hid (show PkSt w1 (wq.drewN nq) w1.heap.size n (.slice (some ⟨gt, 0, none⟩) j ct) (.slice (some ⟨ge, 0, none⟩) j ce) (.slice (some ⟨gr, 0, none⟩) n cr) s.out s.tops s.ends (tfO xs n) from hI.out.1.drewN _)
            have HP2 := Lib.hid (show (wq.drewN nq).heap[p]? = some (.cells #[.int .i64 a, .int .i64 b] 44 (0, 0)) from hI.out.2)
            clear hI g0 d0
            generalize wq.drewN nq = wz at *
            go_upto_region 17 with (at_builtin; refine wpList_app2 rfl (.tmp 59) (.tmp 61) rfl w1.heap.size (.slice (some ⟨gt, 0, none⟩) j ct) s.tops (by rfl) (HQ.out.T.alloc _) (some ⟨wz.heap.size, 0, none⟩) 1 1 _ [H] rfl rfl (rds_one wz _) (by have := HLe.out.2.1; simp; omega) (by have := HQ.out.B.size; simp; omega) ?_; intro v6 w6 hO6 hG6 hD6)
            have hl6 : (s.tops ++ [H]).length = j + 1 := by have := HLe.out.2.1; simp; omega
            have HQ6 := Lib.hid ((HQ.out.alloc (.cells #[.int .i64 H] 3)).appT (gt := gt) rfl hO6 hG6 hD6)
            have HP6 : Hid (w6.heap[p]? = some (.cells #[.int .i64 a, .int .i64 b] 44 (0, 0))) := Lib.hid (by
              have hpl : p < wz.heap.size := by
                rcases Nat.lt_or_ge p wz.heap.size with h' | h'
                · exact h'
                · have := HP2.out; rw [Array.getElem?_eq_none h'] at this; cases this
              exact (hG6.block p (by simp; omega) (fun e => HPgt.out.1 (Option.some.inj e).symm)).trans ((heap_old wz _ hpl).trans HP2.out))
            obtain ⟨gt2, ct2, rfl, _, _⟩ := hO6.form (by omega)
            rw [hl6] at HQ6 ⊢
            clear hO6 hG6 hD6 hl6 HQ HP2
            go_upto_region 18 with (at_builtin; refine wpList_app2 rfl (.tmp 63) (.tmp 64) rfl w1.heap.size (.slice (some ⟨ge, 0, none⟩) j ce) s.ends (by rfl) (HQ6.out.E.alloc _) (some ⟨w6.heap.size, 0, none⟩) 1 1 _ [0] rfl rfl (rds_one w6 _) (by have := HLe.out.1; simp; omega) (by have := HQ6.out.B.size; simp; omega) ?_; intro v7 wz hO7 hG7 hD7)
            have hl7 : (s.ends ++ [0]).length = j + 1 := by have := HLe.out.1; simp; omega
            have HQ7 := Lib.hid ((HQ6.out.alloc (.cells #[.int .i64 0] 3)).appE (ge := ge) rfl hO7 hG7 hD7)
            have HP2 : Hid (wz.heap[p]? = some (.cells #[.int .i64 a, .int .i64 b] 44 (0, 0))) := Lib.hid (by
              have hpl : p < w6.heap.size := by
                rcases Nat.lt_or_ge p w6.heap.size with h' | h'
                · exact h'
                · have := HP6.out; rw [Array.getElem?_eq_none h'] at this; cases this
              exact (hG7.block p (by simp; omega) (fun e => HPgt.out.2 (Option.some.inj e).symm)).trans ((heap_old w6 _ hpl).trans HP6.out))
            obtain ⟨ge2, ce2, rfl, _, _⟩ := hO7.form (by omega)
            rw [hl7] at HQ7 ⊢
            clear hO7 hG7 hD7 hl7 HQ6 HP6
            have HQ := HQ7
            clear HQ7
            have HlE : Hid (j + 1 = (s.ends ++ [0]).length ∧ j + 1 = (s.tops ++ [H]).length) := Lib.hid ⟨by have := HLe.out.1; simp; omega, by have := HLe.out.2.1; simp; omega⟩
            have HE0 : Hid ((s.ends ++ [0]).getD j 0 = 0) := Lib.hid (by rw [getD_app _ _ _ (by have := HLe.out.1; omega), if_pos HLe.out.1])
            have HAj : Hid ((s.tops ++ [H]).getD j 0 = H ∧ (s.ends ++ [0]).set j a = s.ends ++ [a]) := Lib.hid ⟨by rw [getD_app _ _ _ (by have := HLe.out.2.1; omega), if_pos HLe.out.2.1], by
              have e := HLe.out.1
              rw [List.set_append_right _ _ (by omega), e, Nat.sub_self]; rfl⟩
            have HPn : Hid (w1.heap.size ≠ p) := HPne
            have p1 : wz.cell? ⟨p, 1, none⟩ = some (.int .i64 b) := by rw [cell_of_row _ _ _ _ _ _ HP2.out]; rfl
            go_upto_region 19 with fail
            clear p1
            have i1 : (j : Int) < ((j + 1 : Nat) : Int) := by omega
            have i2 : (j : Int) < (j : Int) + 1 := by omega
            have hO := HQ.out.O
            have hgo := ownT_gt hO
            have hlo := HLe.out.2.2
            have k0 := hO.cell (j := q * 4) (by omega)
            have k1 := hO.cell (j := q * 4 + 1) (by omega)
            have k2 := hO.cell (j := q * 4 + 2) (by omega)
            have k3 := hO.cell (j := q * 4 + 3) (by omega)
            have f0 := hO.frozen (q * 4)
            have f1 := hO.frozen (q * 4 + 1)
            have f2 := hO.frozen (q * 4 + 2)
            have f3 := hO.frozen (q * 4 + 3)
            have o1 := HQ.out.R.cell (j := k) (tfO_len xs n).symm (by rw [tfO_len]; omega)
            rw [HOrd.out] at o1
            have o2 := HQ.out.E.cell (j := j) HlE.out.1 (by have := HlE.out.1; omega)
            have o3 := HQ.out.T.cell (j := j) HlE.out.2 (by have := HlE.out.2; omega)
            have p0 : wz.cell? ⟨p, 0, none⟩ = some (.int .i64 a) := by rw [cell_of_row _ _ _ _ _ _ HP2.out]; rfl
            have p1 : wz.cell? ⟨p, 1, none⟩ = some (.int .i64 b) := by rw [cell_of_row _ _ _ _ _ _ HP2.out]; rfl
            have HN := Lib.hid (((((HQ.out.putO (q * 4) ((s.ends ++ [0]).getD j 0)).putO (q * 4 + 1) ((s.tops ++ [H]).getD j 0)).putO (q * 4 + 2) a).putO (q * 4 + 3) b).drew)
            have HPw : Hid ((((((wz.setCell ⟨w1.heap.size, q * 4, none⟩ (.int .i64 ((s.ends ++ [0]).getD j 0))).setCell ⟨w1.heap.size, q * 4 + 1, none⟩ (.int .i64 ((s.tops ++ [H]).getD j 0))).setCell ⟨w1.heap.size, q * 4 + 2, none⟩ (.int .i64 a)).setCell ⟨w1.heap.size, q * 4 + 3, none⟩ (.int .i64 b)).drew).heap[p]? = some (.cells #[.int .i64 a, .int .i64 b] 44 (0, 0))) := Lib.hid (by
              have hpne : w1.heap.size ≠ p := HPn.out
              have s0 := hO.put (q * 4) ((s.ends ++ [0]).getD j 0)
              have s1 := s0.1.put (q * 4 + 1) ((s.tops ++ [H]).getD j 0)
              have s2 := s1.1.put (q * 4 + 2) a
              have s3 := s2.1.put (q * 4 + 3) b
              have hpl : p < wz.heap.size := by
                rcases Nat.lt_or_ge p wz.heap.size with h' | h'
                · exact h'
                · have := HP2.out; rw [Array.getElem?_eq_none h'] at this; cases this
              exact ((gtrans (gtrans (gtrans s0.2 s1.2) s2.2) s3.2).block p hpl (fun e => hpne (by injection e with e; exact e.symm))).trans HP2.out)
            obtain ⟨y0, hy0⟩ : ∃ y, y = s.out.getD (q * 4) 0 := ⟨_, rfl⟩
            obtain ⟨y1, hy1⟩ : ∃ y, y = s.out.getD (q * 4 + 1) 0 := ⟨_, rfl⟩
            obtain ⟨y2, hy2⟩ : ∃ y, y = s.out.getD (q * 4 + 2) 0 := ⟨_, rfl⟩
            obtain ⟨y3, hy3⟩ : ∃ y, y = s.out.getD (q * 4 + 3) 0 := ⟨_, rfl⟩
            rw [← hy0] at k0
            rw [← hy1] at k1
            rw [← hy2] at k2
            rw [← hy3] at k3
            rw [HE0.out] at o2 HN HPw
            obtain ⟨tj, htj⟩ : ∃ y, y = (s.tops ++ [H]).getD j 0 := ⟨_, rfl⟩
            have HTj := Lib.hid htj.symm
            rw [← htj] at o3 HN HPw
            clear hO hlo hy0 hy1 hy2 hy3 htj HQ HP2
            go_still_tail 19, (by kernel_rfl)
            change wpList _ _ _ _ _ wz.drew
            go_upto_region 20 with fail
            clear k0 k1 k2 k3 f0 f1 f2 f3 o1 o2 o3 p0 p1
            generalize (((((wz.setCell ⟨w1.heap.size, q * 4, none⟩ (.int .i64 0)).setCell ⟨w1.heap.size, q * 4 + 1, none⟩ (.int .i64 tj)).setCell ⟨w1.heap.size, q * 4 + 2, none⟩ (.int .i64 a)).setCell ⟨w1.heap.size, q * 4 + 3, none⟩ (.int .i64 b)).drew) = wy at *
            have o2 := HN.out.E.cell (j := j) HlE.out.1 (by have := HlE.out.1; omega)
            have f2 := HN.out.E.frozen HlE.out.1 j
            rw [HE0.out] at o2
            have p0 : wy.cell? ⟨p, 0, none⟩ = some (.int .i64 a) := by rw [cell_of_row _ _ _ _ _ _ HPw.out]; rfl
            have HM := Lib.hid ((HN.out.putE HlE.out.1 j a).drew)
            have hw2 : IntKind.i64.wrap (0 + a) = a := (IntWalk.i64_in _ (by omega)).trans (Int.zero_add a)
            clear HN HPw
            go_upto_region 20 with fail
            go_region
            clear o2 f2 p0
            generalize (wy.setCell ⟨ge2, j, none⟩ (.int .i64 a)).drew = wx at *
            have HFin : Hid ((pkAt W xs n (k + 1)).ends.length = j + 1 ∧ (pkAt W xs n (k + 1)).h = H + b) := Lib.hid (by
              rw [HStep.out]
              unfold pkStep
              rw [HAB.out.1, HSh.out, if_neg (by have := HLe.out.1; omega)]
              exact ⟨by simp; exact HLe.out.1.symm, by rw [HAB.out.2]; show s.h + b = _; rw [HHs.out]⟩)
            have HFin2 : Hid (PkSt w1 wx w1.heap.size n (.slice (some ⟨gt2, 0, none⟩) (j + 1) ct2) (.slice (some ⟨ge2, 0, none⟩) (j + 1) ce2) (.slice (some ⟨gr, 0, none⟩) n cr) (pkAt W xs n (k + 1)).out (pkAt W xs n (k + 1)).tops (pkAt W xs n (k + 1)).ends (tfO xs n)) := Lib.hid (by
              have h := HM.out
              rw [HStep.out]
              unfold pkStep
              rw [HAB.out.1, HAB.out.2, HSh.out, if_neg (by have := HLe.out.1; omega), HHs.out]
              rw [← HTj.out, HAj.out.1, HAj.out.2] at h
              exact h)
            clear HM HStep
            go_wp2
            go_roundw
            case rel => exact ⟨k + 1, j + 1, gt2, ct2, ge2, ce2, H + b, by omega, by go_num, rfl, rfl, rfl, HFin, HFin2⟩
            case measure => simp [intOf]; omega
      · obtain rfl : k = n := by omega
        have hkI : ¬ (k : Int) < (k : Int) := by omega
        have HPk := Lib.hid (packed_yes HOk.out hLH.out.2 (hS.out.O.base_le HB1.out.size) (HB1.out.trans (hS.out.B.mono HB1.out.size)))
        clear hLH hS
        go_wp2
        exact bodyPost_ret (v := .tuple #[.slice (some ⟨w1.heap.size, 0, none⟩) k k, .int .i64 H]) (by simp [results, Try.results13, go_sem]) rfl HPk.out
end Go.Proofs.Ytgieijogopcjnaa
