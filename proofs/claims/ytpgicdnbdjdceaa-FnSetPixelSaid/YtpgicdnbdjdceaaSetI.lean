/- Contracts of SetPixel: the cell of a grid is replaced (program), the numbers of a pixel are written (model). -/
import Derived.Test.YtpgicdnbdjdceaaLSt
import Derived.Test.YtpgicdnbdjdceaaFillI
import Derived.Test.YtpgicdnbdjdceaaSpecM
namespace Go.Proofs.Ytpgicdnbdjdceaa
open Go.RowKit Go.Shelf
set_option linter.unusedSimpArgs false
set_option linter.unusedVariables false

theorem OwnC.put {w : World} {base g cap n : Nat} {xs : List Int} (h : OwnC w base (.slice (some ⟨g, 0, none⟩) n cap) n xs) (j : Nat) (y : Int) :
    OwnC (w.setCell ⟨g, j, none⟩ (.int .i64 y)) base (.slice (some ⟨g, 0, none⟩) n cap) n (xs.set j y) ∧ w.grownBy (w.setCell ⟨g, j, none⟩ (.int .i64 y)) (some g) := by
  have := World.ownsRow.stored h j (.int .i64 y)
  refine ⟨?_, this.2⟩
  unfold OwnC
  simpa [List.map_set] using this.1
theorem OwnC.cell {w : World} {base g cap n : Nat} {xs : List Int} (h : OwnC w base (.slice (some ⟨g, 0, none⟩) n cap) n xs) {j : Nat} (hj : j < xs.length) : w.cell? ⟨g, j, none⟩ = some (.int .i64 (xs.getD j 0)) := by
  rw [World.ownsRow.cellAt h j (by have := h.len; omega)]
  simp [hj]
theorem OwnC.frozen {w : World} {base g cap n : Nat} {xs : List Int} (h : OwnC w base (.slice (some ⟨g, 0, none⟩) n cap) n xs) (j : Nat) : w.frozen? ⟨g, j, none⟩ = false := World.ownsRow.frozenAt h j
theorem OwnC.form {w : World} {base : Nat} {v : Value} {n : Nat} {xs : List Int} (h : OwnC w base v n xs) (hx : 0 < n) : ∃ g cap, v = .slice (some ⟨g, 0, none⟩) n cap ∧ base ≤ g ∧ g < w.heap.size ∧ n ≤ cap := by
  rcases h.2 with ⟨rfl, h0⟩ | ⟨g, cap, cur, rfl, hb, hg, hnc, _⟩
  · omega
  · refine ⟨g, cap, rfl, hb, ?_, hnc⟩
    rcases Nat.lt_or_ge g w.heap.size with hlt | hge
    · exact hlt
    · rw [Array.getElem?_eq_none hge] at hg; cases hg
/-- The cells of an image in which one pixel is new. -/
def setF (F : Nat → Nat → Nat → Int) (x y : Nat) (q : List Int) : Nat → Nat → Nat → Int := fun X Y p => if X = x ∧ Y = y then q.getD p 0 else F X Y p
theorem setk_img {W H P x y : Nat} {q : List Int} (F : Nat → Nat → Nat → Int) (hx : x < W) (hy : y < H) : setk W P x y q (img W H P F) P = img W H P (setF F x y q) := by
  refine img_eq (by rw [setk_len, img_len]) fun X Y p hX hY hp => ?_
  rw [setk_px (H := H) (img_len _ _ _ _) hX hx hy hp P (Nat.le_refl _), img_px F hX hY hp]
  unfold setF
  by_cases h : X = x ∧ Y = y
  · rw [if_pos ⟨h.1, h.2, hp⟩, if_pos h]
  · rw [if_neg (fun e => h ⟨e.1, e.2.1⟩), if_neg h]
set_option maxRecDepth 20000 in
set_option maxHeartbeats 8000000 in
theorem set_any (W H : Nat) (hW : W ≤ 16) (hH : H ≤ 16) (base g c n : Nat) (hn : W * H = n) (F : Nat → Nat → Nat → Int) (x y : Nat) (hx : x < W) (hy : y < H) (q : List Int) (w : World) (hO : OwnC w base (.slice (some ⟨g, 0, none⟩) n c) n (img W H 4 F)) (hc : n ≤ c) :
    Calls Try.prog 79 #[.agg #[.int .i64 (W : Int), .int .i64 (H : Int), .slice (some ⟨g, 0, none⟩) n c], .int .i64 (x : Int), .int .i64 (y : Int), colV (fun p => q.getD p 0)] w
      fun e w' => e = .returned (.tuple #[]) ∧ OwnC w' base (.slice (some ⟨g, 0, none⟩) n c) n (img W H 4 (setF F x y q)) ∧ w.grownBy w' (some g) := by
  have hWH : W * H ≤ 256 := by have := Nat.mul_le_mul hW hH; omega
  have hlt := row_lt hx hy
  have hi : (y : Int) * (W : Int) + (x : Int) = ((y * W + x : Nat) : Int) := by simp
  have i0 : 0 ≤ (y : Int) * (W : Int) ∧ (y : Int) * (W : Int) ≤ 256 := by rw [← Int.natCast_mul]; omega
  have i1 : 0 ≤ (y : Int) * (W : Int) + (x : Int) := by rw [hi]; omega
  have i2 : (y : Int) * (W : Int) + (x : Int) < ((W * H : Nat) : Int) := by rw [hi]; omega
  obtain ⟨i0, i0'⟩ := i0
  have hl := img_len W H 4 F
  have HS := Lib.hid (setk_img (P := 4) (q := q) F hx hy)
  obtain ⟨L, hL⟩ : ∃ L, L = img W H 4 F := ⟨_, rfl⟩
  rw [← hL] at hO hl
  obtain ⟨v0, e0⟩ : ∃ v0, v0 = q.getD 0 0 := ⟨_, rfl⟩
  obtain ⟨v1, e1⟩ : ∃ v1, v1 = q.getD 1 0 := ⟨_, rfl⟩
  obtain ⟨v2, e2⟩ : ∃ v2, v2 = q.getD 2 0 := ⟨_, rfl⟩
  obtain ⟨v3, e3⟩ : ∃ v3, v3 = q.getD 3 0 := ⟨_, rfl⟩
  have HEL : Hid ((((L.set ((y * W + x) * 4) v0).set ((y * W + x) * 4 + 1) v1).set ((y * W + x) * 4 + 2) v2).set ((y * W + x) * 4 + 3) v3 = img W H 4 (setF F x y q)) := Lib.hid (by
    rw [← HS.out, hL, e0, e1, e2, e3]; rfl)
  obtain ⟨z0, c0⟩ : ∃ z, w.cell? ⟨g, (y * W + x) * 4, none⟩ = some (.int .i64 z) := ⟨_, hO.cell (by omega)⟩
  obtain ⟨z1, c1⟩ : ∃ z, w.cell? ⟨g, (y * W + x) * 4 + 1, none⟩ = some (.int .i64 z) := ⟨_, hO.cell (by omega)⟩
  obtain ⟨z2, c2⟩ : ∃ z, w.cell? ⟨g, (y * W + x) * 4 + 2, none⟩ = some (.int .i64 z) := ⟨_, hO.cell (by omega)⟩
  obtain ⟨z3, c3⟩ : ∃ z, w.cell? ⟨g, (y * W + x) * 4 + 3, none⟩ = some (.int .i64 z) := ⟨_, hO.cell (by omega)⟩
  have f0 := hO.frozen ((y * W + x) * 4)
  have f1 := hO.frozen ((y * W + x) * 4 + 1)
  have f2 := hO.frozen ((y * W + x) * 4 + 2)
  have f3 := hO.frozen ((y * W + x) * 4 + 3)
  have hgl : g < w.heap.size := (World.ownsRow.lt hO g rfl).2
  have Hn := Lib.hid hn
  have HE : Hid (OwnC ((((((w.setCell ⟨g, (y * W + x) * 4, none⟩ (.int .i64 v0)).setCell ⟨g, (y * W + x) * 4 + 1, none⟩ (.int .i64 v1)).setCell ⟨g, (y * W + x) * 4 + 2, none⟩ (.int .i64 v2)).setCell ⟨g, (y * W + x) * 4 + 3, none⟩ (.int .i64 v3)).alloc (.cells #[.int .i64 (W : Int), .int .i64 (H : Int), .slice (some ⟨g, 0, none⟩) n c] 66)).alloc (.cells #[.int .i64 v0, .int .i64 v1, .int .i64 v2, .int .i64 v3] 69)) base (.slice (some ⟨g, 0, none⟩) n c) n (img W H 4 (setF F x y q)) ∧ w.grownBy ((((((w.setCell ⟨g, (y * W + x) * 4, none⟩ (.int .i64 v0)).setCell ⟨g, (y * W + x) * 4 + 1, none⟩ (.int .i64 v1)).setCell ⟨g, (y * W + x) * 4 + 2, none⟩ (.int .i64 v2)).setCell ⟨g, (y * W + x) * 4 + 3, none⟩ (.int .i64 v3)).alloc (.cells #[.int .i64 (W : Int), .int .i64 (H : Int), .slice (some ⟨g, 0, none⟩) n c] 66)).alloc (.cells #[.int .i64 v0, .int .i64 v1, .int .i64 v2, .int .i64 v3] 69)) (some g)) := Lib.hid (by
    have p0 := hO.put ((y * W + x) * 4) v0
    have p1 := p0.1.put ((y * W + x) * 4 + 1) v1
    have p2 := p1.1.put ((y * W + x) * 4 + 2) v2
    have p3 := p2.1.put ((y * W + x) * 4 + 3) v3
    refine ⟨?_, gtrans p0.2 (gtrans p1.2 (gtrans p2.2 (gtrans p3.2 (gtrans (World.grownBy_alloc _ _ _) (World.grownBy_alloc _ _ _)))))⟩
    rw [← HEL.out]
    exact (p3.1.alloc _).alloc _)
  clear hO hL hn hi hl HS HEL
  rw [Hn.out] at i2 hlt
  simp only [colV, ← e0, ← e1, ← e2, ← e3]
  clear e0 e1 e2 e3
  go_enter Try.func79, Try.ntmps79
  go_wp2
  go_end0
  exact ⟨rfl, HE.out.1, HE.out.2⟩
def setOk (W H P : Int) (xs : List Int) (x y : Int) (q : List Int) : Bool := vim W H P xs && (onIm W H x y && (decide ((q.length : Int) = P) && allB 0 255 q))
/-- The numbers that SetPixel answers. -/
def setL (W H P : Nat) (xs : List Int) (x y : Nat) (q : List Int) : List Int := img W H P (setF (pxc W P xs) x y q)
/-- An image and whether it is one, made by the call. -/
def SetR (ok : Bool) (W H P : Int) (ys : List Int) (w : World) (e : Ending) (w' : World) : Prop :=
  ∃ v, e = .returned (.tuple #[.agg #[.int .i64 (cond ok W 0), .int .i64 (cond ok H 0), .int .i64 (cond ok P 0), v], .bool ok]) ∧ Own w' w.heap.size v (cond ok ys []) ∧ Below w.heap.size w w'
theorem SetR.no {ok : Bool} {W H P : Int} {ys : List Int} {w u : World} {r : Nat} (h : ok = false) (hr : r = w.heap.size + 1) (hB : Below w.heap.size w u) (v0 v1 v2 v3 : Value) :
    SetR ok W H P ys w (.returned (.tuple #[.agg #[.int .i64 0, .int .i64 0, .int .i64 0, .slice none 0 0], .bool false])) ((((u.setCell ⟨r, 0, none⟩ v0).setCell ⟨r, 1, none⟩ v1).setCell ⟨r, 2, none⟩ v2).setCell ⟨r, 3, none⟩ v3) := by
  subst h hr
  have := im_end (w := w) (r := w.heap.size + 1) (base := w.heap.size + 2) (show Own u (w.heap.size + 2) (.slice none 0 0) [] from World.ownsRow_nil _ _ _ _) (by omega) (by omega) hB v0 v1 v2 v3
  exact ⟨_, rfl, this.1, this.2⟩
theorem SetR.yes {ok : Bool} {W H P : Int} {ys : List Int} {w u : World} {r base : Nat} {v : Value} (h : ok = true) (hr : r = w.heap.size + 1) (hO : Own u base v ys) (hb : w.heap.size + 2 ≤ base) (hB : Below w.heap.size w u) (v0 v1 v2 v3 : Value) :
    SetR ok W H P ys w (.returned (.tuple #[.agg #[.int .i64 W, .int .i64 H, .int .i64 P, v], .bool true])) ((((u.setCell ⟨r, 0, none⟩ v0).setCell ⟨r, 1, none⟩ v1).setCell ⟨r, 2, none⟩ v2).setCell ⟨r, 3, none⟩ v3) := by
  subst h hr
  have := im_end (w := w) (r := w.heap.size + 1) (base := base) hO (by omega) (by omega) hB v0 v1 v2 v3
  exact ⟨_, rfl, this.1, this.2⟩
set_option maxHeartbeats 1000000 in
theorem iVpx2_any (A : Option Addr) (c B : Nat) (xs : List Int) (P : Int) (w : World) (h : Rds .i64 w B A xs) (hl : xs.length ≤ 2000000) :
    Calls Try.prog 70 #[.slice A xs.length c, .int .i64 P] w fun e w' => e = .returned (.bool (decide ((xs.length : Int) = P) && allB 0 255 xs)) ∧ w = w' := by
  have Hh := Lib.hid h
  clear h
  by_cases hp : (xs.length : Int) = P
  · subst hp
    refine (iVpx_any A c B xs w Hh.out hl).mono ?_
    rintro e w' ⟨rfl, rfl⟩
    exact ⟨by simp, rfl⟩
  · have hb : ((xs.length : Int) == P) = false := beq_eq_false_iff_ne.2 hp
    have HP := Lib.hid hp
    clear hp
    go_enter Try.func70, Try.ntmps70
    go_wp2
    go_ret
    exact ⟨ret_bool (by rw [decide_eq_false HP.out]; rfl), rfl⟩
set_option maxHeartbeats 8000000 in
theorem i_SetPixel (W H P x y : Int) (A : Option Addr) (c : Nat) (xs : List Int) (A' : Option Addr) (c' : Nat) (q : List Int) (w : World) (hx : Rds .i64 w w.heap.size A xs) (hl : xs.length ≤ 2000000) (hlc : xs.length ≤ c) (hq : Rds .i64 w w.heap.size A' q) (hql : q.length ≤ 2000000) :
    Calls Try.prog 33 #[.agg #[.int .i64 W, .int .i64 H, .int .i64 P, .slice A xs.length c], .int .i64 x, .int .i64 y, .slice A' q.length c'] w (SetR (setOk W H P xs x y q) W H P (setL W.toNat H.toNat P.toNat xs x.toNat y.toNat q) w) := by
  obtain ⟨u0, hu⟩ : ∃ u0, u0 = (w.alloc (.cells #[.int .i64 W, .int .i64 H, .int .i64 P, .slice A xs.length c] 25)).alloc (.cells #[.int .i64 0, .int .i64 0, .int .i64 0, .slice none 0 0] 25) := ⟨_, rfl⟩
  obtain ⟨r, hr⟩ : ∃ r, r = w.heap.size + 1 := ⟨_, rfl⟩
  have Hsz : Hid (u0.heap.size = w.heap.size + 2) := Lib.hid (by rw [hu]; simp)
  have HB0 : Hid (Below w.heap.size w u0) := Lib.hid (by rw [hu]; exact ((Below.refl w.heap.size w).alloc (Nat.le_refl _) _).alloc (by simp) _)
  have HM0 : Hid (Bx u0 w.heap.size 25 (imC W H P (.slice A xs.length c))) := Lib.hid (by rw [hu]; exact (Bx.new w 25 _).alloc _)
  have HR0 : Hid (Bx u0 r 25 (imC 0 0 0 (.slice none 0 0))) := Lib.hid (by rw [hu, hr]; have := Bx.new (w.alloc (.cells #[.int .i64 W, .int .i64 H, .int .i64 P, .slice A xs.length c] 25)) 25 (imC 0 0 0 (.slice none 0 0)); simpa [imC] using this)
  have Hx := Lib.hid ((hx.below HB0.out).more (by have := Hsz.out; omega : w.heap.size ≤ u0.heap.size))
  have HqW := Lib.hid hq
  have HU := Lib.hid hu
  have Hr := Lib.hid hr
  have HOK : Hid (setOk W H P xs x y q = (vim W H P xs && (onIm W H x y && (decide ((q.length : Int) = P) && allB 0 255 q)))) := Lib.hid rfl
  clear hx hu hq hr
  obtain ⟨m0, m1, m2, m3⟩ := HM0.out.im
  go_enter Try.func33, Try.ntmps33
  go_wp2_with fail
  rw [← HU.out]
  (try rw [← Hr.out])
  clear HU m0 m1 m2 m3
  refine (iVimg_any W H P A c xs u0 Hx.out hl).mono ?_
  rintro e u1 ⟨rfl, hB⟩
  have HM1 := Lib.hid (HM0.out.below hB)
  have HR1 := Lib.hid (HR0.out.below hB)
  have HB1 := Lib.hid (HB0.out.trans (hB.mono (by have := Hsz.out; omega)))
  have hsz1 : w.heap.size + 2 ≤ u1.heap.size := by have := Hsz.out; have := hB.size; omega
  have Hx1 := Lib.hid ((Hx.out.belowTo hB (Nat.le_refl _)).more hB.size)
  have hlt1 : w.heap.size < u1.heap.size := by omega
  clear hB Hx HB0 HM0 HR0 Hsz
  cases hv : vim W H P xs
  · have HF : Hid (setOk W H P xs x y q = false) := Lib.hid (by rw [HOK.out, hv]; rfl)
    obtain ⟨r0, r1, r2, r3⟩ := HR1.out.im
    have f0 := HR1.out.fz 0
    have f1 := HR1.out.fz 1
    have f2 := HR1.out.fz 2
    have f3 := HR1.out.fz 3
    go_wp2
    exact bodyPost_ret (v := .tuple #[.agg #[.int .i64 0, .int .i64 0, .int .i64 0, .slice none 0 0], .bool false]) (by simp [results, Try.results33, go_sem, r0, r1, r2, r3]) rfl (SetR.no HF.out Hr.out HB1.out _ _ _ _)
  · obtain ⟨W, H, P, rfl, rfl, rfl, hW1, hW, hH1, hH, hP1, hP, hln, hby⟩ := vim_nat hv
    have HLn := Lib.hid hln
    have HV := Lib.hid hv
    obtain ⟨m0, m1, m2, m3⟩ := HM1.out.im
    clear hv hln hby
    go_wp2_with fail
    refine (iPlace_any W H P _ x y ⟨by omega, by omega⟩ ⟨by omega, by omega⟩ u1).mono ?_
    rintro e u2 ⟨rfl, hB2⟩
    have HB2 := Lib.hid (HB1.out.trans (hB2.mono (by omega)))
    have HM2 := Lib.hid (HM1.out.below hB2)
    have HR2 := Lib.hid (HR1.out.below hB2)
    have Hx2 := Lib.hid ((Hx1.out.belowTo hB2 (Nat.le_refl _)).more hB2.size)
    have Hq2 := Lib.hid ((HqW.out.belowTo HB2.out (Nat.le_refl _)).more HB2.out.size)
    have hz2 : w.heap.size + 2 ≤ u2.heap.size := by have := hB2.size; omega
    clear m0 m1 m2 m3 hB2 HM1 HR1 HB1 Hx1
    obtain ⟨m0, m1, m2, m3⟩ := HM2.out.im
    cases ho : onIm W H x y
    · have HF : Hid (setOk W H P xs x y q = false) := Lib.hid (by rw [HOK.out, ho, HV.out]; rfl)
      obtain ⟨r0, r1, r2, r3⟩ := HR2.out.im
      have f0 := HR2.out.fz 0
      have f1 := HR2.out.fz 1
      have f2 := HR2.out.fz 2
      have f3 := HR2.out.fz 3
      clear ho
      go_wp2
      exact bodyPost_ret (v := .tuple #[.agg #[.int .i64 0, .int .i64 0, .int .i64 0, .slice none 0 0], .bool false]) (by simp [results, Try.results33, go_sem, r0, r1, r2, r3]) rfl (SetR.no HF.out Hr.out HB2.out _ _ _ _)
    · have HOn := Lib.hid ho
      obtain ⟨a, b, rfl, rfl, ha, hb⟩ := on_nat ho
      have hlt2 : w.heap.size < u2.heap.size := by omega
      have hrlt : r < u2.heap.size := by have := Hr.out; omega
      clear ho
      go_wp2_with fail
      refine (iVpx2_any A' c' _ q P u2 Hq2.out (by omega)).mono ?_
      rintro e w' ⟨rfl, rfl⟩
      cases hvp : (decide ((q.length : Int) = (P : Int)) && allB 0 255 q)
      · have HF : Hid (setOk W H P xs a b q = false) := Lib.hid (by rw [HOK.out, HOn.out, HV.out, hvp]; rfl)
        clear hvp
        obtain ⟨r0, r1, r2, r3⟩ := HR2.out.im
        have f0 := HR2.out.fz 0
        have f1 := HR2.out.fz 1
        have f2 := HR2.out.fz 2
        have f3 := HR2.out.fz 3
        go_wp2
        exact bodyPost_ret (v := .tuple #[.agg #[.int .i64 0, .int .i64 0, .int .i64 0, .slice none 0 0], .bool false]) (by simp [results, Try.results33, go_sem, r0, r1, r2, r3]) rfl (SetR.no HF.out Hr.out HB2.out _ _ _ _)
      · have HT : Hid (setOk W H P xs a b q = true) := Lib.hid (by rw [HOK.out, HOn.out, HV.out, hvp]; rfl)
        have hqP : q.length = P := by rw [Bool.and_eq_true] at hvp; have := of_decide_eq_true hvp.1; omega
        have hq4 : q.length ≤ 4 := by omega
        have HqP := Lib.hid hqP
        clear hvp hqP
        go_wp2_with fail
        refine (gridOf_any W H P hW hH hP1 hP hW1 hH1 A c xs HLn.out hlc u2 Hx2.out).mono ?_
        rintro e u3 ⟨v3, rfl, hO3, hB3⟩
        obtain ⟨g, c3, rfl, hg1, hg2, hc3⟩ := hO3.form (Nat.mul_pos (by omega) (by omega))
        obtain ⟨n, hn⟩ : ∃ n, n = W * H := ⟨_, rfl⟩
        rw [← hn] at hO3 hc3 ⊢
        obtain ⟨u4, hu4⟩ : ∃ u4, u4 = u3.alloc (.cells #[.int .i64 (W : Int), .int .i64 (H : Int), .slice (some ⟨g, 0, none⟩) n c3] 66) := ⟨_, rfl⟩
        obtain ⟨b3, hb3⟩ : ∃ b3, b3 = u3.heap.size := ⟨_, rfl⟩
        have hz3 := hB3.size
        have HO4 : Hid (OwnC u4 u2.heap.size (.slice (some ⟨g, 0, none⟩) n c3) n (img W H 4 (pxc W P xs))) := Lib.hid (by rw [hu4]; exact hO3.alloc _)
        have HT4 : Hid (Bx u4 b3 66 #[.int .i64 (W : Int), .int .i64 (H : Int), .slice (some ⟨g, 0, none⟩) n c3]) := Lib.hid (by rw [hu4, hb3]; exact Bx.new u3 _ _)
        have HM4 : Hid (Bx u4 w.heap.size 25 (imC W H P (.slice A xs.length c))) := Lib.hid (by rw [hu4]; exact (HM2.out.below hB3).alloc _)
        have HR4 : Hid (Bx u4 r 25 (imC 0 0 0 (.slice none 0 0))) := Lib.hid (by rw [hu4]; exact (HR2.out.below hB3).alloc _)
        have HB4 : Hid (Below w.heap.size w u4) := Lib.hid (by rw [hu4]; exact (HB2.out.trans (hB3.mono (by omega))).alloc (by omega) _)
        have Hq4 := Lib.hid ((HqW.out.belowTo HB4.out (Nat.le_refl _)).more HB4.out.size)
        have hgb : b3 ≠ g := by omega
        have hgm : w.heap.size ≠ g := by omega
        have hgr : r ≠ g := by omega
        have Hn := Lib.hid hn
        have HU4 := Lib.hid hu4
        have HU3 := Lib.hid hb3
        clear hO3 hB3 hu4 hb3 hn HM2 HR2 HB2 Hq2 m0 m1 m2 m3
        obtain ⟨t0, t1, t2⟩ := bx3 HT4.out
        have htl := HT4.out.lt
        go_wp2
        (try rw [← HU3.out])
        rw [← HU4.out]
        clear HU3 HU4
        go_region_held3 (fun w' => w'.cell? ⟨b3, 0, none⟩ = some (.int .i64 (W : Int)) ∧ w'.cell? ⟨b3, 1, none⟩ = some (.int .i64 (H : Int)) ∧ w'.cell? ⟨b3, 2, none⟩ = some (.slice (some ⟨g, 0, none⟩) n c3))
          (first | (with_reducible exact ⟨k0, k1, k2⟩) | (with_reducible exact ⟨d0, d1, d2⟩) | exact ⟨t0, t1, t2⟩ | go_keep)
          (first | (go_at_call 71; refine (colorOf_at A' c' _ q rfl _ (by exact Hq4.out) hq4).mono ?_; rintro e u5 ⟨rfl, hB5⟩; have HT5 := Lib.hid (HT4.out.below (w := u4.drew) hB5); obtain ⟨d0, d1, d2⟩ := bx3 HT5.out; have HB5 : Hid (Below u4.heap.size u4 u5) := Lib.hid ((Below.refl u4.heap.size u4).drew.trans hB5); clear hB5) | (go_at_call 79; refine (set_any W H hW hH u2.heap.size g c3 n Hn.out.symm (pxc W P xs) a b ha hb q u5 (by exact HO4.out.below HB5.out (Nat.le_refl _)) hc3).mono ?_; rintro e u6 ⟨rfl, hO6, hG6⟩; have HT6 := Lib.hid (HT5.out.kept hG6 (by simpa using hgb)); obtain ⟨k0, k1, k2⟩ := bx3 HT6.out; have HO6 := Lib.hid hO6; have HM6 := Lib.hid ((HM4.out.below HB5.out).kept hG6 (by simpa using hgm)); have HR6 := Lib.hid ((HR4.out.below HB5.out).kept hG6 (by simpa using hgr)); have HB6 : Hid (Below w.heap.size w u6) := Lib.hid ((HB4.out.trans (HB5.out.mono HB4.out.size)).grown hG6 (by have := HB4.out.size; have := HB5.out.size; omega) (fun k hk => by injection hk with hk; omega)); clear hO6 hG6))
        all_goals
          clear t0 t1 t2 d0 d1 d2 k0 k1 k2
          obtain ⟨t0, t1, t2⟩ := bx3 HT6.out
          obtain ⟨m0, m1, m2, m3⟩ := HM6.out.im
          go_wp2_with fail
          have hcall := imageOf_any W H P hW hH hP (some ⟨g, 0, none⟩) c3 (setF (pxc W P xs) a b q) u6 HO6.out.rds (by rw [← Hn.out]; exact hc3)
          rw [← Hn.out] at hcall
          refine hcall.mono ?_
          clear hcall
          rintro e u7 ⟨v7, rfl, hO7, hB7⟩
          obtain ⟨A7, c7, rfl, hc7⟩ := hO7.slice
          have hR7 := HR6.out.below hB7
          have hz6 := HB6.out.size
          have hr6 := HR6.out.lt
          obtain ⟨r0, r1, r2, r3⟩ := hR7.im
          have f0 := hR7.fz 0
          have f1 := hR7.fz 1
          have f2 := hR7.fz 2
          have f3 := hR7.fz 3
          have HE : Hid (∀ v0 v1 v2 v3 : Value, SetR (setOk W H P xs a b q) W H P (setL W H P xs a b q) w (.returned (.tuple #[.agg #[.int .i64 (W : Int), .int .i64 (H : Int), .int .i64 (P : Int), .slice A7 (img W H P (setF (pxc W P xs) a b q)).length c7], .bool true])) ((((u7.setCell ⟨r, 0, none⟩ v0).setCell ⟨r, 1, none⟩ v1).setCell ⟨r, 2, none⟩ v2).setCell ⟨r, 3, none⟩ v3)) := Lib.hid fun v0 v1 v2 v3 =>
            SetR.yes HT.out Hr.out hO7 (by have := Hr.out; omega) (HB6.out.trans (hB7.mono hz6)) v0 v1 v2 v3
          clear hR7 hO7 hB7 hz6 hr6 hc7 t0 t1 t2 m0 m1 m2 m3
          go_wp2
          exact bodyPost_ret (v := .tuple #[.agg #[.int .i64 (W : Int), .int .i64 (H : Int), .int .i64 (P : Int), .slice A7 (img W H P (setF (pxc W P xs) a b q)).length c7], .bool true]) (by simp [results, Try.results33, go_sem, r0, r1, r2, r3]) rfl (HE.out _ _ _ _)
set_option maxHeartbeats 8000000 in
theorem s_SetPixel (W H P x y : Int) (A : Option Addr) (c : Nat) (xs : List Int) (A' : Option Addr) (c' : Nat) (q : List Int) (w : World) (hx : Rds .i64 w w.heap.size A xs) (hl : xs.length ≤ 2000000) (hlc : xs.length ≤ c) (hq : Rds .i64 w w.heap.size A' q) (hql : q.length ≤ 2000000) :
    Calls Try.prog 34 #[.agg #[.int .i64 W, .int .i64 H, .int .i64 P, .slice A xs.length c], .int .i64 x, .int .i64 y, .slice A' q.length c'] w (SetR (setOk W H P xs x y q) W H P (setL W.toNat H.toNat P.toNat xs x.toNat y.toNat q) w) := by
  obtain ⟨u0, hu⟩ : ∃ u0, u0 = (w.alloc (.cells #[.int .i64 W, .int .i64 H, .int .i64 P, .slice A xs.length c] 25)).alloc (.cells #[.int .i64 0, .int .i64 0, .int .i64 0, .slice none 0 0] 25) := ⟨_, rfl⟩
  obtain ⟨r, hr⟩ : ∃ r, r = w.heap.size + 1 := ⟨_, rfl⟩
  have Hsz : Hid (u0.heap.size = w.heap.size + 2) := Lib.hid (by rw [hu]; simp)
  have HB0 : Hid (Below w.heap.size w u0) := Lib.hid (by rw [hu]; exact ((Below.refl w.heap.size w).alloc (Nat.le_refl _) _).alloc (by simp) _)
  have HM0 : Hid (Bx u0 w.heap.size 25 (imC W H P (.slice A xs.length c))) := Lib.hid (by rw [hu]; exact (Bx.new w 25 _).alloc _)
  have HR0 : Hid (Bx u0 r 25 (imC 0 0 0 (.slice none 0 0))) := Lib.hid (by rw [hu, hr]; have := Bx.new (w.alloc (.cells #[.int .i64 W, .int .i64 H, .int .i64 P, .slice A xs.length c] 25)) 25 (imC 0 0 0 (.slice none 0 0)); simpa [imC] using this)
  have Hx := Lib.hid ((hx.below HB0.out).more (by have := Hsz.out; omega : w.heap.size ≤ u0.heap.size))
  have HqW := Lib.hid hq
  have HU := Lib.hid hu
  have Hr := Lib.hid hr
  have HOK : Hid (setOk W H P xs x y q = (vim W H P xs && (onIm W H x y && (decide ((q.length : Int) = P) && allB 0 255 q)))) := Lib.hid rfl
  clear hx hu hq hr
  obtain ⟨m0, m1, m2, m3⟩ := HM0.out.im
  go_enter Try.func34, Try.ntmps34
  go_wp2_with fail
  rw [← HU.out]
  (try rw [← Hr.out])
  clear HU m0 m1 m2 m3
  refine (sVimg_any W H P A c xs u0 Hx.out hl).mono ?_
  rintro e u1 ⟨rfl, hB⟩
  have HM1 := Lib.hid (HM0.out.below hB)
  have HR1 := Lib.hid (HR0.out.below hB)
  have HB1 := Lib.hid (HB0.out.trans (hB.mono (by have := Hsz.out; omega)))
  have hsz1 : w.heap.size + 2 ≤ u1.heap.size := by have := Hsz.out; have := hB.size; omega
  have Hx1 := Lib.hid ((Hx.out.belowTo hB (Nat.le_refl _)).more hB.size)
  have hlt1 : w.heap.size < u1.heap.size := by omega
  clear hB Hx HB0 HM0 HR0 Hsz
  cases hv : vim W H P xs
  · have HF : Hid (setOk W H P xs x y q = false) := Lib.hid (by rw [HOK.out, hv]; rfl)
    obtain ⟨r0, r1, r2, r3⟩ := HR1.out.im
    have f0 := HR1.out.fz 0
    have f1 := HR1.out.fz 1
    have f2 := HR1.out.fz 2
    have f3 := HR1.out.fz 3
    go_wp2
    exact bodyPost_ret (v := .tuple #[.agg #[.int .i64 0, .int .i64 0, .int .i64 0, .slice none 0 0], .bool false]) (by simp [results, Try.results34, go_sem, r0, r1, r2, r3]) rfl (SetR.no HF.out Hr.out HB1.out _ _ _ _)
  · obtain ⟨W, H, P, rfl, rfl, rfl, hW1, hW, hH1, hH, hP1, hP, hln, hby⟩ := vim_nat hv
    have HLn := Lib.hid hln
    have HV := Lib.hid hv
    obtain ⟨m0, m1, m2, m3⟩ := HM1.out.im
    clear hv hln hby
    go_wp2_with fail
    refine (sPlace_any W H P _ x y ⟨by omega, by omega⟩ ⟨by omega, by omega⟩ u1).mono ?_
    rintro e u2 ⟨rfl, hB2⟩
    have HB2 := Lib.hid (HB1.out.trans (hB2.mono (by omega)))
    have HM2 := Lib.hid (HM1.out.below hB2)
    have HR2 := Lib.hid (HR1.out.below hB2)
    have Hx2 := Lib.hid ((Hx1.out.belowTo hB2 (Nat.le_refl _)).more hB2.size)
    have Hq2 := Lib.hid ((HqW.out.belowTo HB2.out (Nat.le_refl _)).more HB2.out.size)
    have hz2 : w.heap.size + 2 ≤ u2.heap.size := by have := hB2.size; omega
    clear m0 m1 m2 m3 hB2 HM1 HR1 HB1 Hx1
    obtain ⟨m0, m1, m2, m3⟩ := HM2.out.im
    cases ho : onIm W H x y
    · have HF : Hid (setOk W H P xs x y q = false) := Lib.hid (by rw [HOK.out, ho, HV.out]; rfl)
      obtain ⟨r0, r1, r2, r3⟩ := HR2.out.im
      have f0 := HR2.out.fz 0
      have f1 := HR2.out.fz 1
      have f2 := HR2.out.fz 2
      have f3 := HR2.out.fz 3
      clear ho
      go_wp2
      exact bodyPost_ret (v := .tuple #[.agg #[.int .i64 0, .int .i64 0, .int .i64 0, .slice none 0 0], .bool false]) (by simp [results, Try.results34, go_sem, r0, r1, r2, r3]) rfl (SetR.no HF.out Hr.out HB2.out _ _ _ _)
    · have HOn := Lib.hid ho
      obtain ⟨a, b, rfl, rfl, ha, hb⟩ := on_nat ho
      have hlt2 : w.heap.size < u2.heap.size := by omega
      have hrlt : r < u2.heap.size := by have := Hr.out; omega
      clear ho
      by_cases hqP : (q.length : Int) ≠ (P : Int)
      · have HF : Hid (setOk W H P xs a b q = false) := Lib.hid (by rw [HOK.out, HOn.out, HV.out, decide_eq_false hqP]; rfl)
        have hne : ((q.length : Int) != (P : Int)) = true := by simpa using hqP
        clear hqP
        obtain ⟨r0, r1, r2, r3⟩ := HR2.out.im
        have f0 := HR2.out.fz 0
        have f1 := HR2.out.fz 1
        have f2 := HR2.out.fz 2
        have f3 := HR2.out.fz 3
        go_wp2
        exact bodyPost_ret (v := .tuple #[.agg #[.int .i64 0, .int .i64 0, .int .i64 0, .slice none 0 0], .bool false]) (by simp [results, Try.results34, go_sem, r0, r1, r2, r3]) rfl (SetR.no HF.out Hr.out HB2.out _ _ _ _)
      · have hqP : (q.length : Int) = (P : Int) := Decidable.not_not.1 hqP
        have hne : ((q.length : Int) != (P : Int)) = false := by simpa using hqP
        have hqPn : q.length = P := by omega
        have HqP := Lib.hid hqP
        have HqPn := Lib.hid hqPn
        clear hqP hqPn
        go_wp2_with fail
        refine (sAllIn_any A' c' _ q 0 255 u2 Hq2.out (by omega)).mono ?_
        rintro e w' ⟨rfl, rfl⟩
        cases hvp : allB 0 255 q
        · have HF : Hid (setOk W H P xs a b q = false) := Lib.hid (by rw [HOK.out, HOn.out, HV.out, hvp]; simp)
          clear hvp
          obtain ⟨r0, r1, r2, r3⟩ := HR2.out.im
          have f0 := HR2.out.fz 0
          have f1 := HR2.out.fz 1
          have f2 := HR2.out.fz 2
          have f3 := HR2.out.fz 3
          go_wp2
          exact bodyPost_ret (v := .tuple #[.agg #[.int .i64 0, .int .i64 0, .int .i64 0, .slice none 0 0], .bool false]) (by simp [results, Try.results34, go_sem, r0, r1, r2, r3]) rfl (SetR.no HF.out Hr.out HB2.out _ _ _ _)
        · have HT : Hid (setOk W H P xs a b q = true) := Lib.hid (by rw [HOK.out, HOn.out, HV.out, hvp, decide_eq_true HqP.out]; rfl)
          have hN : xs.length ≤ 1024 := by rw [HLn.out]; have h1 := Nat.mul_le_mul hW hH; have := Nat.mul_le_mul h1 hP; omega
          have hpos : 0 < xs.length := by rw [HLn.out]; exact Nat.mul_pos (Nat.mul_pos (by omega) (by omega)) (by omega)
          clear hvp hne
          go_wp2_with fail
          refine (sCopyImage_any W H P A c xs u2 Hx2.out (by omega)).mono ?_
          rintro e u3 ⟨v3, rfl, hO3, hB3⟩
          obtain ⟨g, c3, rfl, hg1, hg2⟩ := hO3.form hpos
          obtain ⟨n, hn⟩ : ∃ n, n = xs.length := ⟨_, rfl⟩
          rw [← hn]
          obtain ⟨u4, hu4⟩ : ∃ u4, u4 = u3.alloc (.cells #[.int .i64 (W : Int), .int .i64 (H : Int), .int .i64 (P : Int), .slice (some ⟨g, 0, none⟩) n c3] 25) := ⟨_, rfl⟩
          obtain ⟨b3, hb3⟩ : ∃ b3, b3 = u3.heap.size := ⟨_, rfl⟩
          have hz3 := hB3.size
          have HO4 : Hid (Own u4 u2.heap.size (.slice (some ⟨g, 0, none⟩) n c3) xs) := Lib.hid (by rw [hu4, hn]; exact hO3.alloc _)
          have HT4 : Hid (Bx u4 b3 25 (imC W H P (.slice (some ⟨g, 0, none⟩) n c3))) := Lib.hid (by rw [hu4, hb3]; exact Bx.new u3 _ _)
          have HR4 : Hid (Bx u4 r 25 (imC 0 0 0 (.slice none 0 0))) := Lib.hid (by rw [hu4]; exact (HR2.out.below hB3).alloc _)
          have HB4 : Hid (Below w.heap.size w u4) := Lib.hid (by rw [hu4]; exact (HB2.out.trans (hB3.mono (by omega))).alloc (by omega) _)
          have Hq4 := Lib.hid ((HqW.out.belowTo HB4.out (Nat.le_refl _)).more HB4.out.size)
          have HqA : Hid (∀ k : Addr, A' = some k → q ≠ [] → k.block < w.heap.size) := Lib.hid (by
            intro k hk hne
            rcases HqW.out with h | ⟨b', off, hA, hb', _⟩
            · exact absurd h hne
            · rw [hk] at hA; injection hA with hA; subst hA; exact hb')
          have hgb : b3 ≠ g := by omega
          have hgr : r ≠ g := by omega
          have Hn := Lib.hid hn
          have HU4 := Lib.hid hu4
          have HU3 := Lib.hid hb3
          clear hO3 hB3 hu4 hb3 hn HM2 HR2 HB2 Hq2 m0 m1 m2 m3
          obtain ⟨t0, t1, t2, t3⟩ := HT4.out.im
          have htl := HT4.out.lt
          go_wp2_with fail
          (try rw [← HU3.out])
          rw [← HU4.out]
          clear HU3 HU4
          refine (setPixel_any W H P hW hH hP u2.heap.size g c3 n xs Hn.out HLn.out a b ha hb A' c' q.length q rfl HqPn.out u4 HO4.out Hq4.out (fun k hk => by have := HqA.out k hk (fun h => by have := HqPn.out; rw [h] at this; simp at this; omega); omega)).mono ?_
          rintro e u6 ⟨rfl, hO6, hG6⟩
          have HT6 := Lib.hid (HT4.out.kept hG6 (by simpa using hgb))
          have HR6 := Lib.hid (HR4.out.kept hG6 (by simpa using hgr))
          have HB6 : Hid (Below w.heap.size w u6) := Lib.hid (HB4.out.grown hG6 HB4.out.size (fun k hk => by injection hk with hk; omega))
          have hSL : setk W P a b q xs P = setL W H P xs a b q := by
            have h := setk_img (H := H) (P := P) (q := q) (pxc W P xs) ha hb
            rw [img_self HLn.out] at h
            exact h
          rw [hSL] at hO6
          clear t0 t1 t2 t3 hSL
          obtain ⟨t0, t1, t2, t3⟩ := HT6.out.im
          obtain ⟨r0, r1, r2, r3⟩ := HR6.out.im
          have f0 := HR6.out.fz 0
          have f1 := HR6.out.fz 1
          have f2 := HR6.out.fz 2
          have f3 := HR6.out.fz 3
          have HE : Hid (∀ v0 v1 v2 v3 : Value, SetR (setOk W H P xs a b q) W H P (setL W H P xs a b q) w (.returned (.tuple #[.agg #[.int .i64 (W : Int), .int .i64 (H : Int), .int .i64 (P : Int), .slice (some ⟨g, 0, none⟩) n c3], .bool true])) ((((u6.setCell ⟨r, 0, none⟩ v0).setCell ⟨r, 1, none⟩ v1).setCell ⟨r, 2, none⟩ v2).setCell ⟨r, 3, none⟩ v3)) := Lib.hid fun v0 v1 v2 v3 =>
            SetR.yes HT.out Hr.out hO6 hz2 HB6.out v0 v1 v2 v3
          clear hO6 hG6
          go_wp2
          exact bodyPost_ret (v := .tuple #[.agg #[.int .i64 (W : Int), .int .i64 (H : Int), .int .i64 (P : Int), .slice (some ⟨g, 0, none⟩) n c3], .bool true]) (by simp [results, Try.results34, go_sem, r0, r1, r2, r3]) rfl (HE.out _ _ _ _)
end Go.Proofs.Ytpgicdnbdjdceaa
