/- Contract of InvertImage in the program. -/
import Derived.Test.YtlllofbicomjgaaImgE
namespace Go.Proofs.Ytlllofbicomjgaa
open Go.RowKit
set_option linter.unusedSimpArgs false
set_option linter.unusedVariables false

def inv (xs : List Int) : List Int := xs.map (fun n => 255 - n)
theorem inv_len (xs : List Int) : (inv xs).length = xs.length := by simp [inv]
theorem inv_step (xs : List Int) (j : Nat) (hj : j < xs.length) : (inv xs).take (j + 1) = (inv xs).take j ++ [255 - xs.getD j 0] := by
  rw [List.take_succ_eq_append_getElem (by rw [inv_len]; exact hj)]
  simp [inv, hj]
theorem set_nxt (ys : List Int) (m n : Nat) (y : Int) (hm : 0 < m) (hn : n = ys.length) : (ys ++ zeros m).set n y = (ys ++ [y]) ++ zeros (m - 1) := by
  subst hn
  obtain ⟨m, rfl⟩ : ∃ j, m = j + 1 := ⟨m - 1, by omega⟩
  rw [List.set_append_right _ _ (Nat.le_refl _)]
  simp [zeros, List.replicate_succ]
/-- An image, or the zero value. -/
def MadeIf (b : Bool) (W H P : Int) (xs : List Int) (w : World) (e : Ending) (w' : World) : Prop := MadeI (cond b W 0) (cond b H 0) (cond b P 0) (cond b xs []) w e w'
theorem MadeIf.no {b : Bool} {W H P : Int} {xs : List Int} {w w' : World} {e : Ending} (h : b = false) (hm : MadeI 0 0 0 [] w e w') : MadeIf b W H P xs w e w' := by rw [h]; exact hm
theorem MadeIf.yes {b : Bool} {W H P : Int} {xs : List Int} {w w' : World} {e : Ending} (h : b = true) (hm : MadeI W H P xs w e w') : MadeIf b W H P xs w e w' := by rw [h]; exact hm
theorem im_end {w wr : World} {r base : Nat} {v : Value} {ys : List Int} (hO : Own wr base v ys) (hr : r < base) (hw : w.heap.size ≤ r) (hB : Below w.heap.size w wr) (x0 x1 x2 x3 : Value) :
    Own ((((wr.setCell ⟨r, 0, none⟩ x0).setCell ⟨r, 1, none⟩ x1).setCell ⟨r, 2, none⟩ x2).setCell ⟨r, 3, none⟩ x3) w.heap.size v ys ∧ Below w.heap.size w ((((wr.setCell ⟨r, 0, none⟩ x0).setCell ⟨r, 1, none⟩ x1).setCell ⟨r, 2, none⟩ x2).setCell ⟨r, 3, none⟩ x3) :=
  ⟨((((hO.setB (p := ⟨r, 0, none⟩) hr x0).setB (p := ⟨r, 1, none⟩) hr x1).setB (p := ⟨r, 2, none⟩) hr x2).setB (p := ⟨r, 3, none⟩) hr x3).base_le (by omega),
   (((hB.setCell (p := ⟨r, 0, none⟩) hw x0).setCell (p := ⟨r, 1, none⟩) hw x1).setCell (p := ⟨r, 2, none⟩) hw x2).setCell (p := ⟨r, 3, none⟩) hw x3⟩
theorem Bx.fz {w : World} {g : Nat} {t : TypeId} {cs : Array Value} (h : Bx w g t cs) (i : Nat) : w.frozen? ⟨g, i, none⟩ = false := frozen_of_row w g i cs t h
set_option maxHeartbeats 8000000 in
theorem i_Invert (W H P : Int) (A : Option Addr) (c : Nat) (xs : List Int) (w : World) (hx : Rds .i64 w w.heap.size A xs) (hl : xs.length ≤ 2000000) :
    Calls Try.prog 32 #[.agg #[.int .i64 W, .int .i64 H, .int .i64 P, .slice A xs.length c]] w (MadeIf (vim W H P xs) W H P (inv xs) w) := by
  have Hx := Lib.hid ((((hx.alloc (Nat.le_refl _) (.cells #[.int .i64 W, .int .i64 H, .int .i64 P, .slice A xs.length c] 26)).alloc (by simp) (.cells #[.int .i64 0, .int .i64 0, .int .i64 0, .slice none 0 0] 26))))
  have HB0 := Lib.hid (((Below.refl w.heap.size w).alloc (Nat.le_refl _) (.cells #[.int .i64 W, .int .i64 H, .int .i64 P, .slice A xs.length c] 26)).alloc (by simp) (.cells #[.int .i64 0, .int .i64 0, .int .i64 0, .slice none 0 0] 26))
  have HM0 : Hid (Bx ((w.alloc (.cells #[.int .i64 W, .int .i64 H, .int .i64 P, .slice A xs.length c] 26)).alloc (.cells #[.int .i64 0, .int .i64 0, .int .i64 0, .slice none 0 0] 26)) w.heap.size 26 (imC W H P (.slice A xs.length c))) := Lib.hid ((Bx.new w 26 _).alloc _)
  have HR0 : Hid (Bx ((w.alloc (.cells #[.int .i64 W, .int .i64 H, .int .i64 P, .slice A xs.length c] 26)).alloc (.cells #[.int .i64 0, .int .i64 0, .int .i64 0, .slice none 0 0] 26)) (w.heap.size + 1) 26 (imC 0 0 0 (.slice none 0 0))) := Lib.hid (by have := Bx.new (w.alloc (.cells #[.int .i64 W, .int .i64 H, .int .i64 P, .slice A xs.length c] 26)) 26 (imC 0 0 0 (.slice none 0 0)); simpa [imC] using this)
  have Hsz : Hid (((w.alloc (.cells #[.int .i64 W, .int .i64 H, .int .i64 P, .slice A xs.length c] 26)).alloc (.cells #[.int .i64 0, .int .i64 0, .int .i64 0, .slice none 0 0] 26)).heap.size = w.heap.size + 2) := Lib.hid (by simp)
  clear hx
  go_enter Try.func32, Try.ntmps32
  go_wp2_with fail
  generalize (w.alloc (.cells #[.int .i64 W, .int .i64 H, .int .i64 P, .slice A xs.length c] 26)).alloc (.cells #[.int .i64 0, .int .i64 0, .int .i64 0, .slice none 0 0] 26) = u0 at *
  refine (iVimg_any W H P A c xs u0 (Hx.out.more (by have := Hsz.out; omega)) hl).mono ?_
  rintro e u1 ⟨rfl, hB⟩
  have hM := HM0.out.below hB
  have hR := HR0.out.below hB
  have hB1 := HB0.out.trans (hB.mono (by have := Hsz.out; omega))
  have hsz1 : w.heap.size + 2 ≤ u1.heap.size := by have := Hsz.out; have := hB.size; omega
  have Hx1 := Lib.hid (Hx.out.belowTo hB (by have := Hsz.out; omega))
  have hlt1 : w.heap.size < u1.heap.size := by omega
  clear hB Hx HB0 HM0 HR0 Hsz
  cases hv : vim W H P xs
  · have Hv := Lib.hid hv
    obtain ⟨r0, r1, r2, r3⟩ := hR.im
    have f0 := hR.fz 0
    have f1 := hR.fz 1
    have f2 := hR.fz 2
    have f3 := hR.fz 3
    have HE := Lib.hid (im_end (w := w) (r := w.heap.size + 1) (base := w.heap.size + 2) (show Own u1 (w.heap.size + 2) (.slice none 0 0) [] from World.ownsRow_nil _ _ _ _) (by omega) (by omega) hB1 (.int .i64 0) (.int .i64 0) (.int .i64 0) (.slice none 0 0))
    clear hR hM hB1
    go_wp2
    exact bodyPost_ret (v := .agg #[.int .i64 0, .int .i64 0, .int .i64 0, .slice none 0 0]) (by simp [results, Try.results32, go_sem, r0, r1, r2, r3]) rfl (MadeIf.no Hv.out ⟨_, rfl, HE.out.1, HE.out.2⟩)
  · have Hv := Lib.hid hv
    obtain ⟨b0, b1, b2, b3⟩ := hM.im
    have hmk := fun W => make_ints xs.length (by omega) W
    have H0 := Lib.hid (Blk.new u1 (zeros xs.length))
    have HM := Lib.hid hM
    have HR := Lib.hid hR
    have HB1 := Lib.hid hB1
    have hbyt : ∀ j, j < xs.length → 0 ≤ xs.getD j 0 ∧ xs.getD j 0 ≤ 255 := fun j hj => by
      have hv' : vim W H P xs = (vsh W H P && (decide ((xs.length : Int) = W * H * P) && allB 0 255 xs)) := rfl
      rw [hv] at hv'
      have ha : allB 0 255 xs = true := by
        cases h : allB 0 255 xs
        · rw [h] at hv'; simp at hv'
        · rfl
      have := of_decide_eq_true ha (xs[j]) (List.getElem_mem hj)
      simpa [hj] using this
    have Hbyt := Lib.hid hbyt
    clear hM hR hB1 hbyt
    go_wp2
    clear hmk hv
    go_loopw [17] (fun i wr => ∃ j : Nat, j ≤ xs.length ∧ i = .int .i64 j ∧ Blk wr u1.heap.size ((inv xs).take j ++ zeros (xs.length - j)) ∧ Below u1.heap.size u1 wr) (fun i _ => xs.length - (intOf i).toNat)
    case atStart => exact ⟨0, Nat.zero_le _, rfl, by simpa using H0.out, (Below.refl _ _).alloc (Nat.le_refl _) _⟩
    case round =>
      obtain ⟨j, hj, rfl, hB, hbel⟩ := hrel
      clear b0 b1 b2 b3
      by_cases hlt : j < xs.length
      · obtain ⟨b, off, rfl, hb1, hc⟩ := (Hx1.out.belowTo hbel (by omega)).cells_ hlt
        have hcj := hc j hlt
        have hlj : ((inv xs).take j).length = j := by simp [inv]; omega
        have hcw := hB.cell (i := j) (by simp [zeros, inv]; omega)
        have hfw := hB.frozen j
        have hput := hB.put j (255 - xs.getD j 0)
        rw [set_nxt _ _ _ _ (by omega) hlj.symm, ← inv_step xs j hlt, show xs.length - j - 1 = xs.length - (j + 1) by omega] at hput
        have HN := Lib.hid hput
        have HBel := Lib.hid (hbel.setCell (p := ⟨u1.heap.size, j, none⟩) (Nat.le_refl _) (.int .i64 (255 - xs.getD j 0)))
        have hr := Hbyt.out j hlt
        clear hc hB hput hbel hlj
        generalize xs.getD j 0 = x at *
        generalize (List.getD ((inv xs).take j ++ zeros (xs.length - j)) j 0) = z at *
        go_wp2
        go_roundw
        case rel => exact ⟨j + 1, by omega, by go_num, HN.out, HBel.out⟩
        case measure => simp [intOf]; omega
      · have hj' : j = xs.length := by omega
        have e : (inv xs).take j ++ zeros (xs.length - j) = inv xs := by subst hj'; rw [Nat.sub_self, List.take_of_length_le (by rw [inv_len]; exact Nat.le_refl _)]; simp [zeros]
        have hO := hB.own (Nat.le_refl _) (by rw [e, inv_len]; unfold maxLen; omega)
        rw [e, inv_len] at hO
        have hM := HM.out.below hbel
        have hR := HR.out.below hbel
        obtain ⟨b0, b1, b2, b3⟩ := hM.im
        obtain ⟨r0, r1, r2, r3⟩ := hR.im
        have f0 := hR.fz 0
        have f1 := hR.fz 1
        have f2 := hR.fz 2
        have f3 := hR.fz 3
        have HE := Lib.hid (im_end (w := w) (r := w.heap.size + 1) hO (by omega) (by omega) (HB1.out.trans (hbel.mono (by omega))) (.int .i64 W) (.int .i64 H) (.int .i64 P) (.slice (some ⟨u1.heap.size, 0, none⟩) xs.length xs.length))
        clear hB hbel hO hM hR e hj'
        go_wp2
        exact bodyPost_ret (v := .agg #[.int .i64 W, .int .i64 H, .int .i64 P, .slice (some ⟨u1.heap.size, 0, none⟩) xs.length xs.length]) (by simp [results, Try.results32, go_sem, r0, r1, r2, r3]) rfl (MadeIf.yes Hv.out ⟨_, rfl, HE.out.1, HE.out.2⟩)
end Go.Proofs.Ytlllofbicomjgaa
