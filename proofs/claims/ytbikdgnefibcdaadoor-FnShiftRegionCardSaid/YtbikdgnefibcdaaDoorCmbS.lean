/- Contract of CombineRegions in the model. -/
import Derived.Test.YtbikdgnefibcdaaDoorDsc
import Derived.Test.YtbikdgnefibcdaaDoorRnM
namespace Go.Proofs.YtbikdgnefibcdaaDoor
open Go.RowKit
set_option linter.unusedSimpArgs false
set_option linter.unusedVariables false
set_option maxRecDepth 20000

/-- The rule of a kind. -/
def krule (k : Int) (a b : Bool) : Bool := if k = 0 then a || b else if k = 1 then a && b else if k = 2 then a && !b else a != b
theorem krule_ff (k : Int) : krule k false false = false := by unfold krule; simp
/-- The pixels of a combined region. -/
def cmbG (k : Int) (xs : List Int) (n : Nat) (ys : List Int) (m : Nat) (x y : Nat) : Bool := krule k (rh xs x y n) (rh ys x y m)
def cmbOk (k : Int) (xs : List Int) (n : Nat) (ys : List Int) (m : Nat) : Bool := regB xs n && (regB ys m && decide (0 ≤ k ∧ k ≤ 3))
def RunsIfB (ok : Bool) (G : Nat → Nat → Bool) (w : World) (e : Ending) (w' : World) : Prop :=
  ∃ v, e = .returned (.tuple #[v, .bool ok]) ∧ OwnT 71 3 w' w.heap.size v (cond ok (rnN G) 0) (cond ok (rnL G) []) ∧ Below w.heap.size w w'
theorem RunsIfB.no {ok : Bool} {G : Nat → Nat → Bool} {w w' : World} (h : ok = false) (hb : Below w.heap.size w w') : RunsIfB ok G w (.returned (.tuple #[.slice none 0 0, .bool false])) w' := by
  subst h; exact ⟨_, rfl, OwnT.nil _ _ _ _, hb⟩
theorem RunsIfB.yes {ok : Bool} {G : Nat → Nat → Bool} {w u w' : World} {v : Value} (h : ok = true) (hb : Below w.heap.size w u) (hr : OwnT 71 3 w' u.heap.size v (rnN G) (rnL G)) (hb2 : Below u.heap.size u w') : RunsIfB ok G w (.returned (.tuple #[v, .bool true])) w' := by
  subst h
  exact ⟨v, rfl, hr.base_le hb.size, hb.trans (hb2.mono hb.size)⟩
set_option maxHeartbeats 8000000 in
theorem s_gridOfG (A : Option Addr) (n c : Nat) (xs : List Int) (w : World) (hx : xs.length = 3 * n) (h : Rds .i64 w w.heap.size A xs) (hl : n ≤ 2000000) (hr : reg xs n) :
    Calls Tryd.prog 53 #[.slice A n c] w fun e w' => e = .returned (.slice (some ⟨w.heap.size, 0, none⟩) 256 256) ∧ GridFn w' w.heap.size (fun j => rh xs ((j % 16 : Nat) : Int) ((j / 16 : Nat) : Int) n) ∧ Below w.heap.size w w' := by
  have hmk := make_grid
  have H0 : Hid (GridIs xs 0 (gF xs 0) (w.alloc (.cells gz 4)) w.heap.size) := Lib.hid ⟨List.replicate 256 false, heap_alloc_new w _, by simp, fun j hj => by
    rw [gdx_start]
    have e : (List.replicate 256 false).getD j false = false := by
      rw [List.getD_eq_getElem?_getD, List.getElem?_replicate]; split <;> rfl
    rw [e]; rfl⟩
  have HB0 := Lib.hid ((Below.refl w.heap.size w).alloc (Nat.le_refl _) (.cells gz 4))
  have Hh := Lib.hid h
  have HX := Lib.hid hx
  have HR := Lib.hid hr
  clear h hx hr
  go_enter Tryd.func53, Tryd.ntmps53
  go_wp2
  clear hmk
  generalize w.alloc (.cells gz 4) = u at *
  go_loopw [4] (fun i wr => ∃ k : Nat, k ≤ n ∧ i = .int .i64 k ∧ Hid (GridIs xs k (gF xs k) wr w.heap.size) ∧ Below w.heap.size w wr) (fun i _ => n - (intOf i).toNat)
  case atStart => exact ⟨0, Nat.zero_le _, rfl, H0, HB0.out⟩
  case round =>
    obtain ⟨k, hk, rfl, hG, hbel⟩ := hrel
    by_cases hlt : k < n
    · obtain ⟨t0, t1, t2⟩ := trio hlt HX.out
      obtain ⟨b, off, rfl, hb, hc⟩ := Hh.out.cells_ t0
      have d1 : wr.cell? ⟨b, off + k * 3 + 1, none⟩ = _ := (hbel.cell (p := ⟨b, off + k * 3 + 1, none⟩) hb).trans (hc _ t1)
      obtain ⟨⟨a0, a1⟩, ⟨b0, b1⟩, p0, p1⟩ := bnds HR.out hlt
      have Hy : Hid (gY xs k = xs.getD (k * 3) 0) := Lib.hid rfl
      have Hf : Hid (gF xs k = xs.getD (k * 3 + 1) 0) := Lib.hid rfl
      have Ht : Hid (gT xs k = xs.getD (k * 3 + 2) 0) := Lib.hid rfl
      have Hc0 := Lib.hid (hc _ t0)
      have Hc1 := Lib.hid (hc _ t1)
      have Hc2 := Lib.hid (hc _ t2)
      rw [Hy.out] at a0 a1
      rw [Hf.out] at b0 b1 p0
      rw [Ht.out] at p0 p1
      rw [Hf.out] at hG
      clear hc
      generalize xs.getD (k * 3) 0 = y at *
      generalize xs.getD (k * 3 + 1) 0 = f at *
      generalize xs.getD (k * 3 + 2) 0 = t at *
      go_wp2
      clear d1
      go_loopw [5] (fun z wr => ∃ q : Int, f ≤ q ∧ q ≤ t ∧ z = .int .i64 q ∧ Hid (GridIs xs k q wr w.heap.size) ∧ Below w.heap.size w wr) (fun z _ => (t - intOf z).toNat)
      case atStart => exact ⟨f, Int.le_refl _, by omega, rfl, hG, hbel⟩
      case round =>
        obtain ⟨q, hq0, hq1, rfl, hI, hbel⟩ := hrel
        have c0 : wr.cell? ⟨b, off + k * 3, none⟩ = some (.int .i64 y) := (hbel.cell (p := ⟨b, off + k * 3, none⟩) hb).trans Hc0.out
        have c2 : wr.cell? ⟨b, off + k * 3 + 2, none⟩ = some (.int .i64 t) := (hbel.cell (p := ⟨b, off + k * 3 + 2, none⟩) hb).trans Hc2.out
        by_cases hlt2 : q < t
        · obtain ⟨j0, hj0⟩ : ∃ j0 : Nat, (j0 : Int) = y * 16 + q := ⟨(y * 16 + q).toNat, by omega⟩
          have hj1 : j0 < 256 := by omega
          have HN := Lib.hid (hI.out.step (j0 := j0) (by rw [Hy.out]; exact hj0) (by rw [Hf.out]; exact hq0) hj1)
          obtain ⟨gs, hg, hgl, hgv⟩ := hI.out
          have cj := hg.cell (j := j0) (by omega)
          have fj := hg.frozen j0
          have HBn := Lib.hid (hbel.setCell (p := ⟨w.heap.size, j0, none⟩) (Nat.le_refl _) (.bool true))
          generalize gs.getD j0 false = bb at *
          have r1 : (y * 16 + q).toNat = j0 := by omega
          have r2 : 0 ≤ y * 16 + q := by omega
          have r3 : y * 16 + q < 256 := by omega
          clear hg hgv hI hbel hj0
          go_wp2
          go_roundw
          case rel => exact ⟨q + 1, by omega, by omega, by go_num, HN, HBn.out⟩
          case measure => simp [intOf]; omega
        · have hq : q = t := by omega
          have HN : Hid (GridIs xs (k + 1) (gF xs (k + 1)) wr w.heap.size) := Lib.hid (by
            obtain ⟨gs, hg, hgl, hgv⟩ := hI.out
            refine ⟨gs, hg, hgl, fun j hj => ?_⟩
            rw [hgv j hj, gdx_start, ← gdx_end, Ht.out, hq])
          clear hq hI
          go_wp2
          go_roundw
          case rel => exact ⟨k + 1, by omega, by go_num, HN, hbel⟩
          case measure => simp [intOf]; omega
    · have hk' : k = n := by omega
      have HE : Hid (GridFn wr w.heap.size (fun j => rh xs ((j % 16 : Nat) : Int) ((j / 16 : Nat) : Int) n)) := Lib.hid (by
        obtain ⟨gs, hg, hgl, hgv⟩ := hG.out
        refine ⟨gs, hg, hgl, fun j hj => ?_⟩
        rw [hgv j hj, gdx_start, hk']
        have := gd_has (x := j % 16) (y := j / 16) (by omega) (by omega) HR.out
        rwa [show j / 16 * 16 + j % 16 = j by omega] at this)
      clear hk' hG
      go_wp2
      go_ret
      exact ⟨rfl, HE.out, hbel⟩
set_option maxHeartbeats 16000000 in
theorem s_combine (k : Int) (hk : 0 ≤ k ∧ k ≤ 3) (A A' : Option Addr) (n c m c' : Nat) (xs ys : List Int) (w : World) (hx : xs.length = 3 * n) (h : Rds .i64 w w.heap.size A xs) (hl : n ≤ 2000000) (hr : reg xs n) (hy : ys.length = 3 * m) (h' : Rds .i64 w w.heap.size A' ys) (hl' : m ≤ 2000000) (hr' : reg ys m) :
    Calls Tryd.prog 61 #[.slice A n c, .slice A' m c', .int .i64 k] w (RunsI (cmbG k xs n ys m) w) := by
  have HX := Lib.hid h
  have HY := Lib.hid h'
  have HXL := Lib.hid hx
  have HYL := Lib.hid hy
  have HR := Lib.hid hr
  have HR' := Lib.hid hr'
  clear h h' hx hy hr hr'
  go_enter Tryd.func61, Tryd.ntmps61
  go_wp2_with fail
  refine (s_gridOfG A n c xs w HXL.out HX.out hl HR.out).mono ?_
  rintro e w1 ⟨rfl, hG1, hb1⟩
  have hz1 : w.heap.size < w1.heap.size := hG1.lt
  have HG1 := Lib.hid hG1
  have HB1 := Lib.hid hb1
  have HY1 := Lib.hid ((HY.out.below hb1).more hb1.size)
  clear hG1 hb1
  go_wp2_with fail
  refine (s_gridOfG A' m c' ys w1 HYL.out HY1.out hl' HR'.out).mono ?_
  rintro e w2 ⟨rfl, hG2, hb2⟩
  have hz2 : w1.heap.size < w2.heap.size := hG2.lt
  have HI0 : Hid (GridFn w2 w.heap.size (fun j => if j < 0 then krule k (rh xs ((j % 16 : Nat) : Int) ((j / 16 : Nat) : Int) n) (rh ys ((j % 16 : Nat) : Int) ((j / 16 : Nat) : Int) m) else rh xs ((j % 16 : Nat) : Int) ((j / 16 : Nat) : Int) n) ∧ GridFn w2 w1.heap.size (fun j => rh ys ((j % 16 : Nat) : Int) ((j / 16 : Nat) : Int) m) ∧ Below w.heap.size w w2) := Lib.hid ⟨(HG1.out.below hb2 hz1).congr (fun j hj => by rw [if_neg (by omega)]), hG2, HB1.out.trans (hb2.mono HB1.out.size)⟩
  have Hg1 : Hid (w.heap.size ≤ w.heap.size) := Lib.hid (Nat.le_refl _)
  have hg12 : w.heap.size ≠ w1.heap.size := by omega
  obtain ⟨g1, hg1⟩ : ∃ g1, g1 = w.heap.size := ⟨_, rfl⟩
  obtain ⟨g2, hg2⟩ : ∃ g2, g2 = w1.heap.size := ⟨_, rfl⟩
  have HW : Hid (w.heap.size ≤ g1) := Lib.hid (by rw [hg1]; exact Nat.le_refl _)
  clear Hg1
  have Hg1 := HW
  clear HW
  have HI1 : Hid (GridFn w2 g1 (fun j => if j < 0 then krule k (rh xs ((j % 16 : Nat) : Int) ((j / 16 : Nat) : Int) n) (rh ys ((j % 16 : Nat) : Int) ((j / 16 : Nat) : Int) m) else rh xs ((j % 16 : Nat) : Int) ((j / 16 : Nat) : Int) n) ∧ GridFn w2 g2 (fun j => rh ys ((j % 16 : Nat) : Int) ((j / 16 : Nat) : Int) m) ∧ Below w.heap.size w w2) := Lib.hid (by rw [hg1, hg2]; exact HI0.out)
  rw [← hg1, ← hg2] at hg12
  have HE1 := Lib.hid hg1
  have HE2 := Lib.hid hg2
  clear HI0 hG2 hb2 HG1 HB1 HY1 hz1 hz2 hg1 hg2
  go_wp2
  rw [← HE1.out, ← HE2.out]
  go_loopw [9] (fun i wr => ∃ p : Nat, p ≤ 256 ∧ i = .int .i64 p ∧ Hid (GridFn wr g1 (fun j => if j < p then krule k (rh xs ((j % 16 : Nat) : Int) ((j / 16 : Nat) : Int) n) (rh ys ((j % 16 : Nat) : Int) ((j / 16 : Nat) : Int) m) else rh xs ((j % 16 : Nat) : Int) ((j / 16 : Nat) : Int) n) ∧ GridFn wr g2 (fun j => rh ys ((j % 16 : Nat) : Int) ((j / 16 : Nat) : Int) m) ∧ Below w.heap.size w wr)) (fun i _ => 256 - (intOf i).toNat)
  case atStart => exact ⟨0, by omega, rfl, HI1⟩
  case round =>
    clear HI1
    obtain ⟨p, hp, rfl, hI⟩ := hrel
    by_cases hlt : p < 256
    · have hltI : (p : Int) < 256 := by omega
      have c1 := hI.out.1.cell hlt
      have c2 := hI.out.2.1.cell hlt
      have f1 := hI.out.1.frozen p
      have l1 := hI.out.1.lt
      have l2 := hI.out.2.1.lt
      rw [if_neg (Nat.lt_irrefl p)] at c1
      obtain ⟨bb, hbb⟩ : ∃ bb, bb = krule k (rh xs ((p % 16 : Nat) : Int) ((p / 16 : Nat) : Int) n) (rh ys ((p % 16 : Nat) : Int) ((p / 16 : Nat) : Int) m) := ⟨_, rfl⟩
      have HN := Lib.hid (And.intro ((hI.out.1.put hlt bb).congr (F' := fun j => if j < p + 1 then krule k (rh xs ((j % 16 : Nat) : Int) ((j / 16 : Nat) : Int) n) (rh ys ((j % 16 : Nat) : Int) ((j / 16 : Nat) : Int) m) else rh xs ((j % 16 : Nat) : Int) ((j / 16 : Nat) : Int) n) (fun j hj => by
            by_cases e : j = p
            · subst e; rw [if_pos rfl, if_pos (by omega)]; exact hbb
            · rw [if_neg e]
              by_cases e2 : j < p
              · rw [if_pos e2, if_pos (by omega)]
              · rw [if_neg e2, if_neg (by omega)]))
            (And.intro (hI.out.2.1.keep (heap_setCell_other wr ⟨g1, p, none⟩ g2 (.bool bb) (by exact fun e => hg12 e.symm)))
              (hI.out.2.2.setCell (p := ⟨g1, p, none⟩) Hg1.out (.bool bb))))
      generalize rh xs ((p % 16 : Nat) : Int) ((p / 16 : Nat) : Int) n = a at *
      generalize rh ys ((p % 16 : Nat) : Int) ((p / 16 : Nat) : Int) m = b at *
      clear hI
      obtain ⟨k0, k3⟩ := hk
      have HNd : Hid (GridFn (wr.setCell ⟨g1, p, none⟩ (.bool bb)).drew g1 (fun j => if j < p + 1 then krule k (rh xs ((j % 16 : Nat) : Int) ((j / 16 : Nat) : Int) n) (rh ys ((j % 16 : Nat) : Int) ((j / 16 : Nat) : Int) m) else rh xs ((j % 16 : Nat) : Int) ((j / 16 : Nat) : Int) n) ∧ GridFn (wr.setCell ⟨g1, p, none⟩ (.bool bb)).drew g2 (fun j => rh ys ((j % 16 : Nat) : Int) ((j / 16 : Nat) : Int) m) ∧ Below w.heap.size w (wr.setCell ⟨g1, p, none⟩ (.bool bb)).drew) := Lib.hid ⟨HN.out.1, HN.out.2.1, HN.out.2.2.drew⟩
      rcases (show k = 0 ∨ k = 1 ∨ k = 2 ∨ k = 3 by omega) with e | e | e | e <;> subst e <;> cases a <;> cases b <;> simp [krule] at hbb <;> subst hbb
      all_goals
        go_wp2
        (try go_region)
        (try go_wp2)
        go_roundw
        case rel => first | exact ⟨p + 1, by omega, by go_num, HN⟩ | exact ⟨p + 1, by omega, by go_num, HNd⟩
        case measure => simp [intOf]; omega
    · have hltI : ¬ (p : Int) < 256 := by omega
      have hgl := hI.out.1.lt
      have HB := Lib.hid hI.out.2.2
      have HCl : Hid (∀ a b : Nat, a ≤ 15 → b ≤ 15 → wr.cell? ⟨g1, b * 16 + a, none⟩ = some (.bool (cmbG k xs n ys m a b))) := Lib.hid (fun a b ha hb => by
        rw [hI.out.1.cell (j := b * 16 + a) (by omega), if_pos (by omega), show (b * 16 + a) % 16 = a by omega, show (b * 16 + a) / 16 = b by omega]; rfl)
      clear hI
      go_wp2_with fail
      refine (s_runsOf g1 256 (cmbG k xs n ys m) wr hgl HCl.out).mono ?_
      rintro e w3 ⟨v3, rfl, hO3, hB3⟩
      have HE : Hid (RunsI (cmbG k xs n ys m) w (.returned v3) w3) := Lib.hid ⟨v3, rfl, hO3.base_le HB.out.size, HB.out.trans (hB3.mono HB.out.size)⟩
      clear hO3 hB3 HB HCl
      go_wp2
      go_ret
      exact HE.out
set_option maxHeartbeats 8000000 in
theorem s_CombineRegions (A A' : Option Addr) (n m c c' : Nat) (xs ys : List Int) (k : Int) (w : World) (hx : xs.length = 3 * n) (h : Rds .i64 w w.heap.size A xs) (hl : n ≤ 2000000) (hy : ys.length = 3 * m) (h' : Rds .i64 w w.heap.size A' ys) (hl' : m ≤ 2000000) :
    Calls Tryd.prog 24 #[.slice A n c, .slice A' m c', .int .i64 k] w (RunsIfB (cmbOk k xs n ys m) (cmbG k xs n ys m) w) := by
  have HX := Lib.hid h
  have HY := Lib.hid h'
  have HXL := Lib.hid hx
  have HYL := Lib.hid hy
  clear h h' hx hy
  go_enter Tryd.func24, Tryd.ntmps24
  go_wp2_with fail
  refine (s_validRuns A n c w.heap.size xs w HXL.out HX.out (Nat.le_refl _) hl).mono ?_
  rintro e w1 ⟨rfl, hb1⟩
  have HY1 := Lib.hid ((HY.out.below hb1).more hb1.size)
  have HX1 := Lib.hid ((HX.out.below hb1).more hb1.size)
  have HB1 := Lib.hid hb1
  clear hb1
  cases h1 : regB xs n
  · go_wp2
    go_ret2
    exact RunsIfB.no (by unfold cmbOk; rw [h1]; rfl) HB1.out
  · have H1 := Lib.hid h1
    clear h1
    go_wp2_with fail
    refine (s_validRuns A' m c' w1.heap.size ys w1 HYL.out HY1.out (Nat.le_refl _) hl').mono ?_
    rintro e w2 ⟨rfl, hb2⟩
    have HB2 := Lib.hid (HB1.out.trans (hb2.mono HB1.out.size))
    have HY2 := Lib.hid ((HY1.out.below hb2).more hb2.size)
    have HX2 := Lib.hid ((HX1.out.below hb2).more hb2.size)
    clear hb2 HB1
    cases h2 : regB ys m
    · go_wp2
      go_ret2
      exact RunsIfB.no (by unfold cmbOk; rw [h2, H1.out]; rfl) HB2.out
    · have H2 := Lib.hid h2
      clear h2
      go_wp2_with fail
      refine (sIr_any k 0 3 _).mono ?_
      rintro e w3 ⟨rfl, rfl⟩
      cases h3 : decide (0 ≤ k ∧ k ≤ 3)
      · go_wp2
        go_ret2
        exact RunsIfB.no (by unfold cmbOk; rw [h3, H1.out, H2.out]; rfl) HB2.out
      · have hk := of_decide_eq_true h3
        have H3 : Hid (cmbOk k xs n ys m = true) := Lib.hid (by unfold cmbOk; rw [h3, H1.out, H2.out]; rfl)
        clear h3
        go_wp2_with fail
        refine (s_combine k hk A A' n c m c' xs ys w2 HXL.out HX2.out hl (regB_of H1.out) HYL.out HY2.out hl' (regB_of H2.out)).mono ?_
        rintro e w4 ⟨v4, rfl, hO4, hb4⟩
        have HE := Lib.hid (RunsIfB.yes (w := w) H3.out HB2.out hO4 hb4)
        clear hO4 hb4
        go_wp2
        go_ret2
        exact HE.out
end Go.Proofs.YtbikdgnefibcdaaDoor
