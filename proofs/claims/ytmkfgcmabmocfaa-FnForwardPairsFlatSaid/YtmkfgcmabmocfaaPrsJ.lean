/- Contract of BackPairs in the program. -/
import Derived.Test.YtmkfgcmabmocfaaPrsI
namespace Go.Proofs.Ytmkfgcmabmocfaa
open Go.RowKit Go.Shelf
set_option linter.unusedSimpArgs false
set_option linter.unusedVariables false
set_option maxRecDepth 20000

theorem bk_eq (xs : List Int) : decide (fwA (bkW xs) = xs) = bkOk xs := by
  rw [← bk_again (xs := xs) (bw := bkW xs) (fm_len _ _) bkW_in]
  unfold fwA
  cases h : prOk (bkW xs)
  · rw [Bool.false_and]
    refine decide_eq_false (fun e => ?_)
    have e' : ([] : List Int) = xs := e
    subst e'
    have : prOk (bkW []) = true := rfl
    rw [this] at h
    cases h
  · rw [Bool.true_and]; rfl
/-- A list and whether there is one. -/
def MadeBk (b : Bool) (xs : List Int) (w : World) (e : Ending) (w' : World) : Prop := ∃ v, e = .returned (.tuple #[v, .bool b]) ∧ Own w' w.heap.size v (cond b xs []) ∧ Below w.heap.size w w'
theorem MadeBk.no {b : Bool} {xs : List Int} {w w' : World} (hb : b = false) (nn : Nat) (h : Below w.heap.size w w') : MadeBk b xs w (.returned (.tuple #[.slice none 0 0, .bool false])) (w'.drewN nn) := by
  subst hb
  exact ⟨_, rfl, World.ownsRow_nil _ _ _ _, ⟨h.os, h.tape, h.output, h.size, h.block⟩⟩
theorem MadeBk.yes {b : Bool} {xs ys : List Int} {v : Value} {w w' : World} (hb : b = true) (nn : Nat) (hx : ys = xs) (hO : Own w' w.heap.size v ys) (h : Below w.heap.size w w') : MadeBk b xs w (.returned (.tuple #[v, .bool true])) (w'.drewN nn) := by
  subst hb hx
  exact ⟨_, rfl, hO.drewN nn, ⟨h.os, h.tape, h.output, h.size, h.block⟩⟩
/-- j numbers brought together. -/
def gat (xs : List Int) (j i : Nat) : Int := if i < j then apF xs i else 0
theorem gat_step (xs : List Int) (n j : Nat) : (fm n (gat xs j)).set j (apF xs j) = fm n (gat xs (j + 1)) := by
  rw [fm_set]
  apply fm_ext
  intro i hi
  show (if i = j then apF xs j else gat xs j i) = gat xs (j + 1) i
  unfold gat
  by_cases h1 : i = j
  · subst h1; rw [if_pos rfl, if_pos (by omega)]
  · rw [if_neg h1]
    by_cases h2 : i < j
    · rw [if_pos h2, if_pos (by omega)]
    · rw [if_neg h2, if_neg (by omega)]
theorem gat_start (xs : List Int) (n : Nat) : fm n (gat xs 0) = zeros n := by
  unfold zeros
  apply List.ext_getElem
  · simp [fm]
  · intro i h1 h2; simp [fm, gat]
theorem gat_end (xs : List Int) (n : Nat) : fm n (gat xs n) = fm n (apF xs) := fm_ext (fun i hi => by unfold gat; rw [if_pos hi])
set_option maxHeartbeats 8000000 in
theorem i_BackPairs (A : Option Addr) (c : Nat) (xs : List Int) (w : World) (h : Rds .i64 w w.heap.size A xs) (hl : xs.length ≤ 2000000) :
    Calls Try.prog 19 #[.slice A xs.length c] w (MadeBk (bkOk xs) (bkL xs) w) := by
  have Hh := Lib.hid h
  clear h
  have em : ∀ args w, (callFunc 54 args).run Try.prog w = .ok (.enter 54 args) w := enters_of Try.func54 (by kernel_rfl) rfl
  have HEm := Lib.hid em
  clear em
  have hmk := fun W => make_ints xs.length (by omega) W
  have H3 := Lib.hid (Blk.new w (zeros xs.length))
  go_enter Try.func19, Try.ntmps19
  go_wp2
  generalize hw3 : w.alloc (.cells (row (zeros xs.length)) 3) = w3 at *
  obtain ⟨q, hq⟩ : ∃ q, q = w.heap.size := ⟨_, rfl⟩
  rw [← hq] at H3 ⊢
  have HR3 : Hid (Rds .i64 w3 q A xs ∧ Below w.heap.size w w3 ∧ q < w3.heap.size) := Lib.hid ⟨by rw [← hw3, hq]; exact Hh.out.alloc (Nat.le_refl _) _, by rw [← hw3]; exact (Below.refl _ _).alloc (Nat.le_refl _) _, by rw [← hw3, hq]; simp⟩
  have HI0 : Hid (Blk w3 q (fm xs.length (gat xs 0))) := Lib.hid (by rw [gat_start]; exact H3.out)
  have Hq := Lib.hid hq
  clear hw3 hmk H3 hq
  go_loopw [11] (fun i wr => ∃ j : Nat, j ≤ xs.length ∧ i = .int .i64 (j : Int) ∧ Hid (Blk wr q (fm xs.length (gat xs j)) ∧ Below q w3 wr)) (fun i _ => xs.length - (intOf i).toNat)
  case atStart => exact ⟨0, Nat.zero_le _, rfl, Lib.hid ⟨HI0.out, Below.refl _ _⟩⟩
  case round =>
    obtain ⟨j, hj, rfl, hI⟩ := hrel
    clear HI0
    by_cases hlt : j < xs.length
    · obtain ⟨p, hp⟩ : ∃ p, p = plc xs.length j := ⟨_, rfl⟩
      have hpn : p < xs.length := by rw [hp]; exact (plc_cpl hlt).1
      obtain ⟨b, off, rfl, hbq, hcc⟩ := (HR3.out.1.below hI.out.2).cells_ (j := p) hpn
      have hcj := hcc p hpn
      have hap : apF xs j = xs.getD p 0 := by unfold apF getF; rw [hp]
      have hcp := hI.out.1.cell (i := j) (by rw [fm_len]; exact hlt)
      have hfp := hI.out.1.frozen j
      have hput := hI.out.1.put j (apF xs j)
      rw [gat_step, hap] at hput
      have HPut := Lib.hid hput
      have HBel := Lib.hid (hI.out.2.setCell (p := ⟨q, j, none⟩) (Nat.le_refl _) (.int .i64 (xs.getD p 0)))
      have Hp := Lib.hid hp
      clear hcc hput hI hp hap
      generalize xs.getD p 0 = y at *
      generalize (fm xs.length (gat xs j)).getD j 0 = z at *
      go_wp2_with fail
      refine (iPlc_any j xs.length (by omega) (by omega) wr).mono ?_
      rintro e w' ⟨rfl, rfl⟩
      rw [← Hp.out]
      go_wp2
      go_roundw
      case rel => exact ⟨j + 1, by omega, by go_num, Lib.hid ⟨HPut.out, HBel.out⟩⟩
      case measure => simp [intOf]; omega
    · have hk' : j = xs.length := by omega
      have hO := hI.out.1.own (base := w.heap.size) (by have := Hq.out; omega) (by rw [fm_len]; unfold maxLen; omega)
      rw [fm_len, hk', gat_end] at hO
      have HB := Lib.hid (HR3.out.2.1.trans (hI.out.2.mono (by have := Hq.out; omega)))
      have HO := Lib.hid hO
      obtain ⟨ys, hys⟩ : ∃ ys, ys = fm xs.length (apF xs) := ⟨_, rfl⟩
      have Hys := Lib.hid hys
      have hyl : ys.length = xs.length := by rw [hys, fm_len]
      have HYl := Lib.hid hyl
      rw [← hys] at HO
      clear hI hO hk' hys hyl
      go_wp2_with fail
      refine (iChg_any pwF qwF 54 _ w.heap.size ys wr HO.out (by have := HYl.out; omega) HEm.out (fun j w' hj => iPair_any _ _ w')).mono ?_
      rintro e w2 ⟨rfl, hO2, hG2⟩
      have hB2 : Below w.heap.size w w2 := HB.out.grown hG2 HB.out.size (fun k hk => (HO.out.lt k hk).1)
      have eW : fm ys.length (chg pwF qwF ys.length (getF ys)) = bkW xs := by
        rw [HYl.out]
        refine fm_ext (fun i hi => chg_ext _ _ _ (fun j hj => ?_) hi)
        rw [Hys.out]; exact getF_fm _ hj
      rw [eW] at hO2
      have HO2 := Lib.hid hO2
      have HB2 := Lib.hid hB2
      have hwl : (bkW xs).length = xs.length := fm_len _ _
      have HWl := Lib.hid hwl
      clear hO2 hG2 hB2 HO HB eW hwl
      have HF := Lib.hid (fun u hr => i_ForwardPairs (some ⟨q, 0, none⟩) xs.length (bkW xs) u hr (by have := HWl.out; omega))
      rw [HWl.out] at HF
      go_wp2_with fail
      refine (HF.out w2 HO2.out.rds.2).mono ?_
      rintro e w4 ⟨v4, rfl, hO4, hB4⟩
      obtain ⟨A4, c4, rfl, _⟩ := hO4.slice
      have HR4 := Lib.hid hO4.rds.2
      have HO5 := Lib.hid (HO2.out.below hB4 (Nat.le_refl _))
      have HB5 := Lib.hid (HB2.out.trans (hB4.mono HB2.out.size))
      have hz4 := hB4.size
      have HA5 := Lib.hid ((Hh.out.below HB5.out).more HB5.out.size)
      have hfl : (fwA (bkW xs)).length ≤ xs.length := by
        unfold fwA
        cases prOk (bkW xs)
        · simp
        · show (fwL (bkW xs)).length ≤ _; rw [fwL_len, HWl.out]; exact Nat.le_refl _
      clear hO4 hB4 HO2 HB2 HF
      go_wp2_with fail
      refine (slicesEqual_any A4 A c4 c (fwA (bkW xs)) xs _ _ w4 HR4.out HA5.out (by omega) (by omega)).mono ?_
      rintro e w5 ⟨rfl, nn, rfl⟩
      have HE := Lib.hid (bk_eq xs)
      rw [HE.out]
      cases hk : bkOk xs
      · have Hk := Lib.hid hk
        clear hz4 hfl hk
        go_wp2
        go_ret2
        exact MadeBk.no Hk.out nn HB5.out
      · have HL := Lib.hid (bk_list bkW_in hk)
        have Hk := Lib.hid hk
        clear hz4 hfl hk
        go_wp2
        go_ret2
        exact MadeBk.yes Hk.out nn HL.out HO5.out HB5.out
end Go.Proofs.Ytmkfgcmabmocfaa
