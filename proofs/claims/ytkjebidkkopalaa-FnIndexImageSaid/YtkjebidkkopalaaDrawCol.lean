/- Drawn lists of colors. -/
import Derived.Test.YtkjebidkkopalaaDrawFill
import Derived.Test.YtkjebidkkopalaaDrawImg2
import Derived.Test.YtkjebidkkopalaaLss
namespace Go.Proofs.Ytkjebidkkopalaa
open Go.RowKit
set_option linter.unusedSimpArgs false
set_option linter.unusedVariables false
set_option maxRecDepth 20000

/-- Drawn: a short list of short lists. -/
def DrawnC (g N : Nat) (w : World) (e : Ending) (w' : World) : Prop :=
  ∃ (A : Option Addr) (c : Nat) (xss : List (List Int)), e = .returned (.slice A xss.length c) ∧ xss.length ≤ c ∧ xss.length ≤ 17 ∧ (∀ i, i < xss.length → (xss.getD i []).length ≤ 101) ∧ Lss w' w.heap.size (.slice A xss.length c) xss ∧ Rdr w' g N ∧ w.grownBy w' (some g)
theorem one_litC (cs : Array Value) (xs : List Int) (n c p : Nat) (g N : Nat) (w : World) (hp : p = w.heap.size) (h : Rdr w g N) (hN : N ≤ 1000000000) (hx : 0 < xs.length) (hl : xs.length ≤ 1000) (hn : n = xs.length) (hcs : cs.toList = xs.map (.int .i64)) :
    Calls Try.prog 86 #[.pointer (some ⟨g, 0, none⟩), .slice (some ⟨p, 0, none⟩) n c] (w.alloc (.cells cs 3)) fun e w' => ∃ k : Int, e = .returned (.int .i64 k) ∧ k ∈ xs ∧ Rdr w' g (N + 1) ∧ w.grownBy w' (some g) := by
  subst hp
  exact one_lit cs xs n c g N w h hN hx hl hn hcs
theorem getD_app {xss : List (List Int)} {ys : List Int} {b : Nat} (h : ∀ i, i < xss.length → (xss.getD i []).length ≤ b) (hy : ys.length ≤ b) : ∀ i, i < (xss ++ [ys]).length → ((xss ++ [ys]).getD i []).length ≤ b := by
  intro i hi
  by_cases e : i < xss.length
  · rw [show (xss ++ [ys]).getD i [] = xss.getD i [] by simp [List.getD_eq_getElem?_getD, List.getElem?_append_left e]]
    exact h i e
  · rw [List.length_append] at hi
    have e2 : i = xss.length := by simp at hi; omega
    subst e2
    rw [show (xss ++ [ys]).getD xss.length [] = ys by simp [List.getD_eq_getElem?_getD]]
    exact hy
theorem getD_set {xss : List (List Int)} {ys : List Int} {b j : Nat} (h : ∀ i, i < xss.length → (xss.getD i []).length ≤ b) (hy : ys.length ≤ b) : ∀ i, i < (xss.set j ys).length → ((xss.set j ys).getD i []).length ≤ b := by
  intro i hi
  rw [List.length_set] at hi
  by_cases e : i = j
  · subst e
    rw [show (xss.set i ys).getD i [] = ys by simp [List.getD_eq_getElem?_getD, hi]]
    exact hy
  · rw [show (xss.set j ys).getD i [] = xss.getD i [] by simp [List.getD_eq_getElem?_getD, List.getElem?_set_ne (Ne.symm e)]]
    exact h i hi
set_option maxHeartbeats 8000000 in
theorem anyColors_any (P : Int) (hP : P ≤ 99 ∧ 0 ≤ P) (g N : Nat) (w : World) (h : Rdr w g N) (hN : N ≤ 1000000) :
    Calls Try.prog 61 #[.pointer (some ⟨g, 0, none⟩), .int .i64 P] w (DrawnC g (N + 2000) w) := by
  have hgl := h.lt
  have HL0 := Lib.hid (Lss.none w)
  have HR0 := Lib.hid (h.alloc (.cells #[] 23))
  have HG0 := Lib.hid (World.grownBy_alloc w (.cells #[] 23) (some g))
  have HS0 : Hid (w.heap.size + 1 = (w.alloc (.cells #[] 23)).heap.size) := Lib.hid (by simp)
  clear h
  go_enter Try.func61, Try.ntmps61
  go_wp2_with fail
  generalize w.alloc (.cells #[] 23) = u1 at *
  refine (one_litC _ [2, 3, 4, 5, 1, 0, 16, 17] 8 8 _ g N u1 HS0.out HR0.out (by omega) (by simp) (by simp) rfl rfl).mono ?_
  rintro e u2 ⟨q, rfl, hq, hR2, hG2⟩
  have hqn : ∃ n : Nat, q = (n : Int) ∧ n ≤ 17 := ⟨q.toNat, by simp at hq; omega, by simp at hq; omega⟩
  obtain ⟨n0, rfl, hn0⟩ := hqn
  have HL2 := Lib.hid (HL0.out.off hG2 hgl)
  have HR2 := Lib.hid hR2
  have HG2 := Lib.hid (gtrans HG0.out hG2)
  clear hq hR2 hG2 HL0 HR0 HG0 HS0
  go_wp2
  go_loopw [5, 6, 7, 8] (fun v q p i wr => ∃ (n : Nat) (xss : List (List Int)), q = .int .i64 (n : Int) ∧ xss.length + n ≤ 17 ∧ Hid (∀ i, i < xss.length → (xss.getD i []).length ≤ 101) ∧ Hid (Lss wr w.heap.size v xss) ∧ Hid (Rdr wr g (N + 1 + xss.length * 100)) ∧ Hid (w.grownBy wr (some g))) (fun _ q _ _ _ => (intOf q).toNat)
  case atStart => exact ⟨n0, [], rfl, by simpa using hn0, Lib.hid (fun i hi => by simp at hi), HL2, HR2, HG2⟩
  case round =>
    obtain ⟨n, xss, rfl, hn, HB, HL, HR, HG⟩ := hrel
    clear HL2 HR2 HG2
    obtain ⟨A5, c5, rfl, hc5⟩ := HL.out.slice
    obtain ⟨u3, hu3⟩ : ∃ u, u = wr := ⟨_, rfl⟩
    subst hu3
    by_cases hlt : 0 < n
    · have HO0 : Hid (Own (u3.alloc (.cells #[] 3)) u3.heap.size (.slice (some ⟨u3.heap.size, 0, none⟩) 0 0) []) := Lib.hid (own_none u3)
      have HR1 := Lib.hid (HR.out.alloc (.cells #[] 3))
      have HG1 := Lib.hid (World.grownBy_alloc u3 (.cells #[] 3) (some g))
      have hgl2 : g < u3.heap.size := Nat.lt_of_lt_of_le hgl HG.out.size
      go_wp2
      go_loopw [7, 8] (fun p i wi => ∃ (k : Nat) (ys : List Int), k ≤ 100 ∧ i = .int .i64 (k : Int) ∧ ys.length = k ∧ Hid (Own wi u3.heap.size p ys ∧ Rdr wi g (N + 1 + xss.length * 100 + k) ∧ u3.grownBy wi (some g))) (fun _ i _ => 100 - (intOf i).toNat)
      case atStart => exact ⟨0, [], by omega, rfl, rfl, Lib.hid ⟨HO0.out, HR1.out, HG1.out⟩⟩
      case round =>
        obtain ⟨k, ys, hk, rfl, hyl, hI⟩ := hrel
        obtain ⟨hO, hR, hG⟩ := hI.out
        obtain ⟨A1, c1, rfl, hc1⟩ := hO.slice
        have HYL := Lib.hid hyl
        have hyl2 : ys.length ≤ 100 := by omega
        have HO := Lib.hid hO
        have HRi := Lib.hid hR
        have HGi := Lib.hid hG
        clear hO hR hG hI hyl HO0 HR1 HG1
        by_cases hlt2 : (k : Int) < P
        · go_wp2_with fail
          refine (pick_any 5 g (N + 1 + xss.length * 100 + k) _ HRi.out (by omega) (by omega)).mono ?_
          intro e w2 hp
          obtain ⟨x, rfl, hx, hR2, hG2, hs2⟩ := picked_nat hp (by omega)
          have hw1 : IntKind.i64.wrap ((x : Int) * 60) = (x : Int) * 60 := IntWalk.i64_in _ (by omega)
          have HO2 := Lib.hid ((HO.out.off hG2 hgl2).alloc (.cells #[.int .i64 ((x : Int) * 60)] 3))
          have HR2 := Lib.hid (hR2.alloc (.cells #[.int .i64 ((x : Int) * 60)] 3))
          have HG2 := Lib.hid (gtrans (gtrans HGi.out hG2) (World.grownBy_alloc w2 (.cells #[.int .i64 ((x : Int) * 60)] 3) (some g)))
          have HQ := Lib.hid (rds_one w2 ((x : Int) * 60))
          have hz2 : u3.heap.size ≤ w2.heap.size := by have h1 := HGi.out.size; have h2 := hG2.size; omega
          clear hp hR2 hG2 hs2 HO HRi HGi
          go_wp2_with (at_builtin; refine wpList_app rfl (.tmp 23) (.tmp 27) rfl u3.heap.size (.slice A1 ys.length c1) ys rfl HO2.out (some ⟨w2.heap.size, 0, none⟩) 1 1 _ [(x : Int) * 60] rfl rfl HQ.out (by simp; omega) (by simp; omega) ?_; intro v3 w3 hO3 hG3)
          have HN : Hid (Own w3 u3.heap.size v3 (ys ++ [(x : Int) * 60]) ∧ Rdr w3 g (N + 1 + xss.length * 100 + (k + 1)) ∧ u3.grownBy w3 (some g)) := Lib.hid ⟨hO3, (HR2.out.grown hG3 (fun j hj => by have := (HO2.out.lt j hj).1; omega)).more (by omega), gmix HG2.out hG3 (fun j hj => (HO2.out.lt j hj).1)⟩
          clear hO3 hG3 HO2 HR2 HG2 HQ
          go_roundw
          case rel => exact ⟨k + 1, _, by omega, by go_num, by simp [HYL.out], HN⟩
          case measure => simp [intOf]; omega
        · have hsep : 0 < ys.length → ∀ a : Addr, A1 = some a → w.heap.size ≤ a.block ∧ a.block < wr.heap.size ∧ (Value.slice A5 xss.length c5).ownBlock ≠ some a.block := by
            intro h0 a ha
            obtain ⟨g1, cap, e1, h2, h3⟩ := HO.out.form h0
            injection e1 with e1
            rw [e1] at ha
            injection ha with ha
            subst ha
            refine ⟨by have := HG.out.size; show w.heap.size ≤ g1; omega, h3, fun e => ?_⟩
            obtain ⟨_, cs, hO5, _⟩ := HL.out
            have := (World.ownsRow.lt hO5 _ e).2
            simp only at this
            omega
          have HLi := Lib.hid ((HL.out.off HGi.out hgl).alloc (.cells #[.slice A1 ys.length c1] 23))
          have HRj := Lib.hid (HRi.out.alloc (.cells #[.slice A1 ys.length c1] 23))
          have HGj := Lib.hid (gtrans HGi.out (World.grownBy_alloc wr (.cells #[.slice A1 ys.length c1] 23) (some g)))
          have HSz : Hid (wr.heap.size < (wr.alloc (.cells #[.slice A1 ys.length c1] 23)).heap.size) := Lib.hid (by simp)
          have HX := Lib.hid ((HO.out.rds.2.alloc (Nat.le_refl _) (.cells #[.slice A1 ys.length c1] 23)).more (Nat.le_of_lt HSz.out))
          have HS := Lib.hid (fun h0 a ha => show w.heap.size ≤ a.block ∧ a.block < (wr.alloc (.cells #[.slice A1 ys.length c1] 23)).heap.size ∧ (Value.slice A5 xss.length c5).ownBlock ≠ some a.block from ⟨(hsep h0 a ha).1, Nat.lt_trans (hsep h0 a ha).2.1 HSz.out, (hsep h0 a ha).2.2⟩)
          have HCl : Hid ((wr.alloc (.cells #[.slice A1 ys.length c1] 23)).cell? ⟨wr.heap.size, 0, none⟩ = some (.slice A1 ys.length c1)) := Lib.hid (cell_of_row _ _ _ _ _ _ (heap_alloc_new wr _))
          have hx1000 : xss.length ≤ 1000 := by omega
          clear hsep HSz HO HRi HGi
          go_wp2_with (at_builtin; refine wpList_appL rfl (.tmp 29) (.tmp 31) rfl w.heap.size (.slice A5 xss.length c5) xss rfl HLi.out wr.heap.size 1 A1 ys ys.length c1 rfl rfl HCl.out hc1 HX.out HS.out hx1000 ?_; intro v3 w3 hL3 hG3 hlo)
          have HN1 := Lib.hid hL3
          have HN2 : Hid (Rdr w3 g (N + 1 + (xss ++ [ys]).length * 100)) := Lib.hid ((HRj.out.grown hG3 (fun j hj => by have := hlo j hj; omega)).more (by rw [List.length_append]; simp; omega))
          have HN3 := Lib.hid (gmix (gtrans HG.out HGj.out) hG3 hlo)
          have HN4 := Lib.hid (getD_app HB.out (show ys.length ≤ 101 by omega))
          clear hL3 hG3 hlo HLi HRj HGj HX HS HCl
          go_roundw
          case rel => exact ⟨n - 1, xss ++ [ys], by go_num, by simp; omega, HN4, HN1, HN2, HN3⟩
          case measure => simp [intOf]; omega
    · have hn0' : n = 0 := by omega
      subst hn0'
      have hxl : xss.length ≤ 17 := by omega
      have hdone : ∀ wz : World, Lss wz w.heap.size (.slice A5 xss.length c5) xss → Rdr wz g (N + 2000) → w.grownBy wz (some g) → DrawnC g (N + 2000) w (.returned (.slice A5 xss.length c5)) wz := fun wz h1 h2 h3 => ⟨A5, c5, xss, rfl, hc5, hxl, HB.out, h1, h2, h3⟩
      have HDone := Lib.hid hdone
      clear hdone
      by_cases hx0 : xss.length = 0
      · have HE := Lib.hid (HDone.out u3 HL.out (HR.out.more (by omega)) HG.out)
        rw [hx0] at HE
        clear HDone HL HR HG
        have h1 : (xss.length : Int) = 0 := by omega
        have h2 : ¬ (xss.length : Int) > 0 := by omega
        go_wp2
        go_ret
        exact HE.out
      · have h2 : (xss.length : Int) > 0 := by omega
        have h3 : 0 < xss.length := by omega
        go_wp2_with fail
        refine (pick_any 20 g (N + 1 + xss.length * 100) u3 HR.out (by omega) (by omega)).mono ?_
        intro e w2 hp
        obtain ⟨x, rfl, hx, hR2, hG2, hs2⟩ := picked_nat hp (by omega)
        have HL2 := Lib.hid (HL.out.off hG2 hgl)
        have HR2 := Lib.hid hR2
        have HG2 := Lib.hid (gtrans HG.out hG2)
        clear hp hR2 hG2 hs2 HL HR HG
        by_cases hx2 : (x : Int) = 0
        · have hb : ((x : Int) == 0) = true := beq_iff_eq.2 hx2
          clear hx2
          go_wp2_with fail
          refine (pick_any 2 g (N + 1 + xss.length * 100 + 1) w2 HR2.out (by omega) (by omega)).mono ?_
          intro e w3 hp
          obtain ⟨y, rfl, hy, hR3, hG3, hs3⟩ := picked_nat hp (by omega)
          have HL3 := Lib.hid (HL2.out.off hG3 hgl)
          have HR3 := Lib.hid hR3
          have HG3 := Lib.hid (gtrans HG2.out hG3)
          have hgl3 : w.heap.size ≤ w3.heap.size := HG3.out.size
          clear hp hR3 hG3 hs3 HL2 HR2 HG2
          have hw1 : IntKind.i64.wrap (P + (y : Int)) = P + (y : Int) := IntWalk.i64_in _ (by omega)
          go_wp2_with fail
          refine (anyPixel_any (P + (y : Int)) (by omega) g (N + 1 + xss.length * 100 + 1 + 1) w3 HR3.out (by omega)).mono ?_
          rintro e w4 ⟨A6, c6, ys, rfl, hyc, hyl, hyr, hR4, hG4, hA6⟩
          have HL4 := HL3.out.off hG4 hgl
          have hsep : 0 < ys.length → ∀ a : Addr, A6 = some a → w.heap.size ≤ a.block ∧ a.block < w4.heap.size ∧ (Value.slice A5 xss.length c5).ownBlock ≠ some a.block := by
            intro h0 a ha
            obtain ⟨b, off, e1, h2, _⟩ := hyr.cells_ h0
            have h5 := hA6 a ha
            rw [e1] at ha
            injection ha with ha
            subst ha
            refine ⟨by simp only at h5 ⊢; omega, h2, fun e => ?_⟩
            obtain ⟨_, cs, hO5, _⟩ := HL3.out
            have := (World.ownsRow.lt hO5 _ e).2
            simp only at this h5
            omega
          obtain ⟨gr, rfl, hgr, hcy, hfr, hG5, hL5⟩ := HL4.put h3 hyc hyr hsep
          obtain ⟨z, hcy⟩ := hcy
          have HE : Hid (DrawnC g (N + 2000) w (.returned (.slice (some ⟨gr, 0, none⟩) xss.length c5)) (w4.setCell ⟨gr, 0, none⟩ (.slice A6 ys.length c6))) := Lib.hid (by
            have hl : (xss.set 0 ys).length = xss.length := List.length_set ..
            refine ⟨some ⟨gr, 0, none⟩, c5, xss.set 0 ys, by rw [hl], by rw [hl]; exact hc5, by rw [hl]; exact hxl, getD_set HB.out hyl, by rw [hl]; exact hL5, (hR4.grown hG5 (fun j hj => by injection hj with hj; omega)).more (by omega), gmix (gtrans HG3.out hG4) hG5 (fun j hj => by injection hj with hj; omega)⟩)
          clear HL4 hsep hL5 hG5 hR4 hG4 hyr HDone HL3 HR3 HG3
          go_wp2
          go_ret
          exact HE.out
        · have hb : ((x : Int) == 0) = false := beq_eq_false_iff_ne.2 hx2
          have HE := Lib.hid (HDone.out w2 HL2.out (HR2.out.more (by omega)) HG2.out)
          clear hx2 HDone HL2 HR2 HG2
          go_wp2
          go_ret
          exact HE.out
/-- Drawn from a code: a list of colors and a pixel. -/
def DrawnNc (w : World) (e : Ending) (w' : World) : Prop :=
  ∃ (A : Option Addr) (c : Nat) (xss : List (List Int)) (A2 : Option Addr) (c2 : Nat) (ys : List Int), e = .returned (.tuple #[.slice A xss.length c, .slice A2 ys.length c2]) ∧ xss.length ≤ c ∧ xss.length ≤ 17 ∧ (∀ i, i < xss.length → (xss.getD i []).length ≤ 101) ∧ Rdss w' w'.heap.size A xss ∧ ys.length ≤ c2 ∧ ys.length ≤ 101 ∧ Rds .i64 w' w'.heap.size A2 ys ∧ Below w.heap.size w w'
set_option maxHeartbeats 4000000 in
theorem drawNc_any (A : Option Addr) (c : Nat) (bs : List Int) (w : World) (hc : bs.length ≤ c) (h : Rdw .u8 w w.heap.size A bs) :
    Calls Try.prog 20 #[.slice A bs.length c] w (DrawnNc w) := by
  have Hh := Lib.hid h
  clear h
  go_enter Try.func20, Try.ntmps20
  go_wp2_with fail
  refine (newReader_any A c bs w hc Hh.out).mono ?_
  rintro e u1 ⟨rfl, hr1, hb1, hs1⟩
  have HB1 := Lib.hid hb1
  obtain ⟨g, hg⟩ : ∃ g, g = w.heap.size := ⟨_, rfl⟩
  rw [← hg] at hr1 ⊢
  have Hg := Lib.hid hg
  clear hb1 hs1 hg Hh
  go_wp2_with fail
  refine (anyPlanes_any g 0 u1 hr1 (by omega)).mono ?_
  rintro e u2 ⟨d, rfl, hd, hR2, hG2⟩
  obtain ⟨P, rfl⟩ := Int.eq_ofNat_of_zero_le (show 0 ≤ d by omega)
  have hP : P ≤ 4 := by omega
  have HG2 := Lib.hid hG2
  clear hG2 hr1
  go_wp2_with fail
  refine (anyColors_any (P : Int) (by omega) g 1 u2 hR2 (by omega)).mono ?_
  rintro e u3 ⟨A3, c3, xss, rfl, hc3, hxl, hxb, hL3, hR3, hG3⟩
  have HL3 := Lib.hid hL3
  have HG3 := Lib.hid (gtrans HG2.out hG3)
  have hgl : g < u2.heap.size := hR2.lt
  clear hL3 hG3 hR2 HG2
  go_wp2_with fail
  refine (anyPixel_any (P : Int) (by omega) g (1 + 2000) u3 hR3 (by omega)).mono ?_
  rintro e u4 ⟨A4, c4, ys, rfl, hyc, hyl, hyr, hR4, hG4, hA4⟩
  have HE : Hid (DrawnNc w (.returned (.tuple #[.slice A3 xss.length c3, .slice A4 ys.length c4])) u4) := Lib.hid ⟨A3, c3, xss, A4, c4, ys, rfl, hc3, hxl, hxb, (HL3.out.off hG4 hgl).rdss, hyc, hyl, hyr, by
    have hG : u1.grownBy u4 (some g) := gtrans HG3.out hG4
    exact HB1.out.grown hG HB1.out.size (fun k hk => by injection hk with hk; have := Hg.out; omega)⟩
  clear hyr hR4 hG4 hA4 hR3 HG3 HB1 HL3
  go_wp2
  exact bodyPost_ret (v := .tuple #[.slice A3 xss.length c3, .slice A4 ys.length c4]) (by simp [results, Try.results20, go_sem]) rfl HE.out
end Go.Proofs.Ytkjebidkkopalaa
