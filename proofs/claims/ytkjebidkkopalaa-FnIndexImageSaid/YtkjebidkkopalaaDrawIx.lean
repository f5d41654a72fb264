/- Drawn images with a list of colors. -/
import Derived.Test.YtkjebidkkopalaaDrawCol
import Derived.Test.YtkjebidkkopalaaPalS
import Derived.Test.YtkjebidkkopalaaDrawGray
namespace Go.Proofs.Ytkjebidkkopalaa
open Go.RowKit
set_option linter.unusedSimpArgs false
set_option linter.unusedVariables false
set_option maxRecDepth 20000

/-- A palette that the model tells, whichever. -/
def PalR (w : World) (e : Ending) (w' : World) : Prop :=
  ∃ (A : Option Addr) (c : Nat) (xss : List (List Int)) (ok : Bool), e = .returned (.tuple #[.slice A xss.length c, .bool ok]) ∧ xss.length ≤ c ∧ xss.length ≤ 256 ∧ (∀ i, i < xss.length → (xss.getD i []).length ≤ 101) ∧ Lss w' w.heap.size (.slice A xss.length c) xss ∧ Below w.heap.size w w'
theorem PalR.no {w w' : World} (hB : Below w.heap.size w w') : PalR w (.returned (.tuple #[.slice none 0 0, .bool false])) w' :=
  ⟨none, 0, [], false, rfl, Nat.le_refl _, by simp, fun i hi => by simp at hi, ⟨hB.size, [], World.ownsRow_nil _ _ _ _, fun i hi => by simp at hi⟩, hB⟩
theorem acL_rows {P : Nat} {xs : List Int} {k : Nat} (hk : k * P ≤ xs.length) (hP : P ≤ 4) : ∀ i, i < (acL P xs k).length → ((acL P xs k).getD i []).length ≤ 101 := fun i hi => by
  obtain ⟨j, hj, e⟩ := acL_row (P := P) (xs := xs) hk ((acL P xs k).getD i []) (by rw [List.getD_eq_getElem?_getD, List.getElem?_eq_getElem hi]; exact List.getElem_mem hi)
  rw [e]
  unfold pxk
  rw [List.length_take]; omega
set_option maxHeartbeats 8000000 in
theorem sPal_any (W H P : Int) (A : Option Addr) (c : Nat) (xs : List Int) (w : World) (hx : Rds .i64 w w.heap.size A xs) (hl : xs.length ≤ 2000000) (hlc : xs.length ≤ c) :
    Calls Try.prog 13 #[.agg #[.int .i64 W, .int .i64 H, .int .i64 P, .slice A xs.length c]] w (PalR w) := by
  have HX := Lib.hid hx
  clear hx
  have S0 : GS w (w.alloc (.cells #[.int .i64 W, .int .i64 H, .int .i64 P, .slice A xs.length c] 25)) [] [⟨w.heap.size, 25, #[.int .i64 W, .int .i64 H, .int .i64 P, .slice A xs.length c]⟩] := GS.box' (GS.start w) 25 #[.int .i64 W, .int .i64 H, .int .i64 P, .slice A xs.length c] w.heap.size rfl
  go_enter Try.func13, Try.ntmps13
  go_wp2_with fail
  generalize w.alloc (.cells #[.int .i64 W, .int .i64 H, .int .i64 P, .slice A xs.length c] 25) = u0 at *
  refine (sVimg_any W H P A c xs u0 (S0.arg HX.out) hl).mono ?_
  rintro e u1 ⟨rfl, hB⟩
  have S1 := S0.call hB
  clear hB S0
  cases hv : vim W H P xs
  · have HB := Lib.hid S1.below
    clear S1 hv
    go_wp2
    exact bodyPost_ret (v := .tuple #[.slice none 0 0, .bool false]) (by simp [results, Try.results13, go_sem]) rfl (PalR.no HB.out)
  · obtain ⟨W, H, P, rfl, rfl, rfl, hW1, hW, hH1, hH, hP1, hP4, hln, hby⟩ := vim_nat hv
    have HLn := Lib.hid hln
    have HN := Lib.hid (acL_len P xs (W * H))
    have HRo := Lib.hid (acL_rows (P := P) (xs := xs) (k := W * H) (by rw [hln]; exact Nat.le_refl _) hP4)
    have hWH : W * H ≤ 256 := by have := Nat.mul_le_mul hW hH; omega
    clear hv hln hby
    obtain ⟨d0, d1, d2, d3⟩ := S1.b0_4
    have HA1 := Lib.hid (sAll_any W H P hW1 hW hH1 hH hP1 hP4 A c xs HLn.out hlc u1 (S1.arg HX.out))
    go_wp2_with fail
    refine HA1.out.mono ?_
    rintro e u2 ⟨v2, rfl, hL2, hB2⟩
    have S2 := S1.call hB2
    obtain ⟨A2, c2, rfl, hc2⟩ := hL2.slice
    obtain ⟨n2, hn2⟩ : ∃ n2, n2 = (acL P xs (W * H)).length := ⟨_, rfl⟩
    rw [← hn2]
    have hn256 : n2 ≤ 256 := by rw [hn2]; exact Nat.le_trans HN.out hWH
    clear S1 hB2 hL2 HA1 d0 d1 d2 d3 hn2
    by_cases h16 : (n2 : Int) > 16
    · have HB := Lib.hid S2.below
      clear S2
      go_wp2
      exact bodyPost_ret (v := .tuple #[.slice none 0 0, .bool false]) (by simp [results, Try.results13, go_sem]) rfl (PalR.no HB.out)
    · obtain ⟨d0, d1, d2, d3⟩ := S2.b0_4
      have HA2 := Lib.hid (sAll_any W H P hW1 hW hH1 hH hP1 hP4 A c xs HLn.out hlc u2 (S2.arg HX.out))
      go_wp2_with fail
      refine HA2.out.mono ?_
      rintro e u3 ⟨v3, rfl, hL3, hB3⟩
      have HB := Lib.hid (S2.call hB3).below
      have hsz := S2.below.size
      have HL3 := Lib.hid (hL3.base_le (base' := w.heap.size) (by omega))
      obtain ⟨A3, c3, rfl, hc3⟩ := hL3.slice
      clear S2 hB3 hL3 HA2 d0 d1 d2 d3
      go_wp2
      exact bodyPost_ret (v := .tuple #[.slice A3 (acL P xs (W * H)).length c3, .bool true]) (by simp [results, Try.results13, go_sem]) rfl ⟨A3, c3, _, true, rfl, hc3, Nat.le_trans HN.out hWH, HRo.out, HL3.out, HB.out⟩
/-- Drawn from a code: an image and a list of colors. -/
def DrawnIx (w : World) (e : Ending) (w' : World) : Prop :=
  ∃ (W H P : Int) (A : Option Addr) (c : Nat) (xs : List Int) (A2 : Option Addr) (c2 : Nat) (xss : List (List Int)), e = .returned (.tuple #[.agg #[.int .i64 W, .int .i64 H, .int .i64 P, .slice A xs.length c], .slice A2 xss.length c2]) ∧ xs.length ≤ 256 ∧ xs.length ≤ c ∧ xss.length ≤ c2 ∧ xss.length ≤ 256 ∧ (∀ i, i < xss.length → (xss.getD i []).length ≤ 101) ∧ Rds .i64 w' w'.heap.size A xs ∧ Rdss w' w'.heap.size A2 xss ∧ Below w.heap.size w w'
theorem ix_fin {w u : World} {W H P : Int} {A A2 : Option Addr} {c c2 n2 base : Nat} {xs : List Int} {xss : List (List Int)} (hn : n2 = xss.length) (hx : xs.length ≤ 256) (hc : xs.length ≤ c) (hc2 : xss.length ≤ c2) (hx2 : xss.length ≤ 256) (hrow : ∀ i, i < xss.length → (xss.getD i []).length ≤ 101) (hr : Rds .i64 u u.heap.size A xs) (hA : ∀ a : Addr, A = some a → w.heap.size < a.block) (hL : Lss u base (.slice A2 n2 c2) xss) (hb : w.heap.size < base) (hB : Below w.heap.size w u) (v0 v1 v2 v3 : Value) :
    DrawnIx w (.returned (.tuple #[.agg #[.int .i64 W, .int .i64 H, .int .i64 P, .slice A xs.length c], .slice A2 n2 c2])) ((((u.setCell ⟨w.heap.size, 0, none⟩ v0).setCell ⟨w.heap.size, 1, none⟩ v1).setCell ⟨w.heap.size, 2, none⟩ v2).setCell ⟨w.heap.size, 3, none⟩ v3) := by
  subst hn
  obtain ⟨W1, H1, P1, A1, c1, ys, e1, h1, h2, h3, h4⟩ := drawn_fin (W := W) (H := H) (P := P) hx hc hr hA hB v0 v1 v2 v3
  have hL2 : Lss ((((u.setCell ⟨w.heap.size, 0, none⟩ v0).setCell ⟨w.heap.size, 1, none⟩ v1).setCell ⟨w.heap.size, 2, none⟩ v2).setCell ⟨w.heap.size, 3, none⟩ v3) base (.slice A2 xss.length c2) xss := by
    have hG4 := gtrans (gtrans (gtrans (hset w.heap.size u 0 v0) (hset w.heap.size _ 1 v1)) (hset w.heap.size _ 2 v2)) (hset w.heap.size _ 3 v3)
    exact hL.off hG4 hb
  simp only [Ending.returned.injEq, Value.agg.injEq] at e1
  have e2 := congrArg (fun a : Array Value => a.toList) e1
  simp at e2
  obtain ⟨rfl, rfl, rfl, rfl, e3, rfl⟩ := e2
  have h3' := h3
  exact ⟨W, H, P, A, c, ys, A2, c2, xss, by rw [← e3], h1, h2, hc2, hx2, hrow, h3, hL2.rdss, h4⟩
set_option maxHeartbeats 8000000 in
theorem drawIx_any (A : Option Addr) (c : Nat) (bs : List Int) (w : World) (hc : bs.length ≤ c) (h : Rdw .u8 w w.heap.size A bs) :
    Calls Try.prog 23 #[.slice A bs.length c] w (DrawnIx w) := by
  obtain ⟨u0, hu⟩ : ∃ u0, u0 = w.alloc (.cells #[.int .i64 0, .int .i64 0, .int .i64 0, .slice none 0 0] 25) := ⟨_, rfl⟩
  have Hz : Hid (u0.heap.size = w.heap.size + 1) := Lib.hid (by rw [hu]; simp)
  have HX0 : Hid (Bx u0 w.heap.size 25 (imC 0 0 0 (.slice none 0 0))) := Lib.hid (by rw [hu]; exact Bx.new w _ _)
  have HB0 : Hid (Below w.heap.size w u0) := Lib.hid (by rw [hu]; exact (Below.refl _ _).alloc (Nat.le_refl _) _)
  have Hh : Hid (Rdw .u8 u0 u0.heap.size A bs) := Lib.hid ⟨(h.1.below HB0.out).more HB0.out.size, h.2⟩
  have HU := Lib.hid hu
  clear h hu
  go_enter Try.func23, Try.ntmps23
  go_wp2_with fail
  rw [← HU.out]
  clear HU
  refine (newReader_any A c bs u0 hc Hh.out).mono ?_
  rintro e u1 ⟨rfl, hr1, hb1, hs1⟩
  have HX1 := Lib.hid (HX0.out.below hb1)
  have HB1 := Lib.hid (HB0.out.trans (hb1.mono HB0.out.size))
  obtain ⟨g, hg⟩ : ∃ g, g = u0.heap.size := ⟨_, rfl⟩
  rw [← hg] at hr1 ⊢
  have Hg : Hid (g = w.heap.size + 1) := Lib.hid (by have := Hz.out; omega)
  have Hs1 : Hid (u1.heap.size = w.heap.size + 2) := Lib.hid (by have := Hz.out; omega)
  clear hs1 hb1 HX0 HB0 Hh hg Hz
  go_wp2_with fail
  refine (anyImage_any g 0 u1 hr1 (by omega)).mono ?_
  rintro e u2 ⟨W, H, P, A3, c3, xs, rfl, hy, hyc, hr3, hR3, hG3, hA3⟩
  have hs2 := hG3.size
  obtain ⟨bm, hbm⟩ : ∃ bm, bm = u2.heap.size := ⟨_, rfl⟩
  have hbm1 : w.heap.size + 2 ≤ bm := by have := Hs1.out; omega
  obtain ⟨u3, hu3⟩ : ∃ u3, u3 = u2.alloc (.cells #[.int .i64 W, .int .i64 H, .int .i64 P, .slice A3 xs.length c3] 25) := ⟨_, rfl⟩
  have HM3 : Hid (Bx u3 bm 25 (imC W H P (.slice A3 xs.length c3))) := Lib.hid (by rw [hu3, hbm]; exact Bx.new u2 _ _)
  have HX3 : Hid (Bx u3 w.heap.size 25 (imC 0 0 0 (.slice none 0 0))) := Lib.hid (by rw [hu3]; exact (bx_gr HX1.out hG3 (by have := Hg.out; omega)).alloc _)
  have HD3 : Hid (Rds .i64 u3 u3.heap.size A3 xs) := Lib.hid (by rw [hu3]; exact (hr3.alloc (Nat.le_refl _) _).more (by simp))
  have HR3 : Hid (Rdr u3 g 304) := Lib.hid (by rw [hu3]; have h := hR3.alloc (.cells #[.int .i64 W, .int .i64 H, .int .i64 P, .slice A3 xs.length c3] 25); rwa [Nat.zero_add] at h)
  have HB3 : Hid (Below w.heap.size w u3) := Lib.hid (by rw [hu3]; have h := HB1.out.grown hG3 HB1.out.size (fun k hk => by injection hk with hk; have := Hg.out; omega); exact h.alloc h.size _)
  have HA3 : Hid (∀ a : Addr, A3 = some a → w.heap.size + 2 ≤ a.block) := Lib.hid (fun a ha => by have := hA3 a ha; have := Hs1.out; omega)
  have Hs3 : Hid (w.heap.size + 2 < u3.heap.size) := Lib.hid (by rw [hu3]; simp; have := Hs1.out; omega)
  have HU3 := Lib.hid hu3
  have Hbm := Lib.hid hbm
  clear HX1 HB1 hr1 hr3 hR3 hG3 hA3 hs2 hu3 hbm
  go_wp2_with fail
  rw [← HU3.out, ← Hbm.out]
  clear HU3 Hbm
  have HP3 := Lib.hid (sPal_any W H P A3 c3 xs u3 HD3.out (by omega) hyc)
  obtain ⟨n0, n1, n2, n3⟩ := HM3.out.im
  refine HP3.out.mono ?_
  rintro e u4 ⟨A4, c4, xss, ok, rfl, hc4, hx4, hrow, hL4, hB4⟩
  have HM4 := Lib.hid (HM3.out.below hB4)
  have HX4 := Lib.hid (HX3.out.below hB4)
  have HD4 := Lib.hid ((HD3.out.below hB4).more hB4.size)
  have hgl : g < u3.heap.size := HR3.out.lt
  have HR4 := Lib.hid (HR3.out.below hB4 hgl)
  have HB4 := Lib.hid (HB3.out.trans (hB4.mono HB3.out.size))
  have HL4 := Lib.hid hL4
  have Hrow := Lib.hid hrow
  have hs34 := hB4.size
  have hg1 : g < w.heap.size + 2 ∧ w.heap.size < g := by have := Hg.out; omega
  have hsz3 := Hs3.out
  clear HM3 HX3 HD3 HR3 HB3 HP3 hB4 hL4 n0 n1 n2 n3 hrow
  have Hfin : Hid (∀ (u : World) (Aq : Option Addr) (cq nq base : Nat) (yss : List (List Int)), nq = yss.length → yss.length ≤ cq → yss.length ≤ 256 → (∀ i, i < yss.length → (yss.getD i []).length ≤ 101) → Rds .i64 u u.heap.size A3 xs → Lss u base (.slice Aq nq cq) yss → w.heap.size < base → Below w.heap.size w u → ∀ v0 v1 v2 v3 : Value, DrawnIx w (.returned (.tuple #[.agg #[.int .i64 W, .int .i64 H, .int .i64 P, .slice A3 xs.length c3], .slice Aq nq cq])) ((((u.setCell ⟨w.heap.size, 0, none⟩ v0).setCell ⟨w.heap.size, 1, none⟩ v1).setCell ⟨w.heap.size, 2, none⟩ v2).setCell ⟨w.heap.size, 3, none⟩ v3)) :=
    Lib.hid (fun u Aq cq nq base yss h1 h2 h3 h4 h5 h6 h7 h8 v0 v1 v2 v3 => ix_fin h1 hy.1 hyc h2 h3 h4 h5 (fun a ha => by have := HA3.out a ha; omega) h6 h7 h8 v0 v1 v2 v3)
  cases ok
  · obtain ⟨n0, n1, n2, n3⟩ := HM4.out.im
    have HCo := Lib.hid (anyColors_any P hy.2 g 304 u4 HR4.out (by omega))
    go_wp2_with fail
    refine HCo.out.mono ?_
    rintro e u6 ⟨A6, c6, yss, rfl, hc6, hyl6, hyb6, hL6, hR6, hG6⟩
    have HX6 := Lib.hid (bx_gr HX4.out hG6 (by have := Hg.out; omega))
    have HM6 := Lib.hid (bx_gr HM4.out hG6 (by have := Hg.out; omega))
    have hD6 : Rds .i64 u6 u6.heap.size A3 xs := (Rds.offG (lo := w.heap.size + 2) HD4.out (Nat.le_refl _) HA3.out hG6 (by omega)).more hG6.size
    have hB6 : Below w.heap.size w u6 := HB4.out.grown hG6 HB4.out.size (fun k hk => by injection hk with hk; omega)
    have HE := Lib.hid (Hfin.out u6 A6 c6 yss.length u4.heap.size yss rfl hc6 (by omega) hyb6 hD6 hL6 (by omega) hB6)
    clear n0 n1 n2 n3 hL6 hR6 hG6 hD6 hB6 HCo
    obtain ⟨n0, n1, n2, n3⟩ := HM6.out.im
    obtain ⟨r0, r1, r2, r3⟩ := HX6.out.im
    have f0 := HX6.out.fz 0
    have f1 := HX6.out.fz 1
    have f2 := HX6.out.fz 2
    have f3 := HX6.out.fz 3
    go_wp2
    exact bodyPost_ret (v := .tuple #[.agg #[.int .i64 W, .int .i64 H, .int .i64 P, .slice A3 xs.length c3], .slice A6 yss.length c6]) (by simp [results, Try.results23, go_sem, r0, r1, r2, r3]) rfl (HE.out _ _ _ _)
  · go_wp2_with fail
    refine (pick_any 2 g 304 u4 HR4.out (by omega) (by omega)).mono ?_
    intro e u5 hp
    obtain ⟨x, rfl, hx, hR5, hG5, hs5⟩ := picked_nat hp (by omega)
    have HX5 := Lib.hid (bx_gr HX4.out hG5 (by have := Hg.out; omega))
    have HM5 := Lib.hid (bx_gr HM4.out hG5 (by have := Hg.out; omega))
    have HD5 := Lib.hid ((Rds.offG (lo := w.heap.size + 2) HD4.out (Nat.le_refl _) HA3.out hG5 (by omega)).more hG5.size)
    have HB5 := Lib.hid (HB4.out.grown hG5 HB4.out.size (fun k hk => by injection hk with hk; omega))
    have HL5 := Lib.hid (HL4.out.off hG5 hgl)
    have HR5 := Lib.hid hR5
    clear hp hR5 hG5 HX4 HM4 HD4 HB4 HL4 HR4
    by_cases hx0 : (x : Int) = 0
    · have hb : ((x : Int) == 0) = true := beq_iff_eq.2 hx0
      clear hx0
      obtain ⟨n0, n1, n2, n3⟩ := HM5.out.im
      have HCo := Lib.hid (anyColors_any P hy.2 g (304 + 1) u5 HR5.out (by omega))
      go_wp2_with fail
      refine HCo.out.mono ?_
      rintro e u6 ⟨A6, c6, yss, rfl, hc6, hyl6, hyb6, hL6, hR6, hG6⟩
      have HX6 := Lib.hid (bx_gr HX5.out hG6 (by have := Hg.out; omega))
      have HM6 := Lib.hid (bx_gr HM5.out hG6 (by have := Hg.out; omega))
      have hD6 : Rds .i64 u6 u6.heap.size A3 xs := (Rds.offG (lo := w.heap.size + 2) HD5.out (Nat.le_refl _) HA3.out hG6 (by omega)).more hG6.size
      have hB6 : Below w.heap.size w u6 := HB5.out.grown hG6 HB5.out.size (fun k hk => by injection hk with hk; omega)
      have HE := Lib.hid (Hfin.out u6 A6 c6 yss.length u5.heap.size yss rfl hc6 (by omega) hyb6 hD6 hL6 (by omega) hB6)
      clear n0 n1 n2 n3 hL6 hR6 hG6 hD6 hB6 HCo
      obtain ⟨n0, n1, n2, n3⟩ := HM6.out.im
      obtain ⟨r0, r1, r2, r3⟩ := HX6.out.im
      have f0 := HX6.out.fz 0
      have f1 := HX6.out.fz 1
      have f2 := HX6.out.fz 2
      have f3 := HX6.out.fz 3
      go_wp2
      exact bodyPost_ret (v := .tuple #[.agg #[.int .i64 W, .int .i64 H, .int .i64 P, .slice A3 xs.length c3], .slice A6 yss.length c6]) (by simp [results, Try.results23, go_sem, r0, r1, r2, r3]) rfl (HE.out _ _ _ _)
    · have hb : ((x : Int) == 0) = false := beq_eq_false_iff_ne.2 hx0
      clear hx0
      have HE := Lib.hid (Hfin.out u5 A4 c4 xss.length u3.heap.size xss rfl hc4 hx4 Hrow.out HD5.out HL5.out (by omega) HB5.out)
      obtain ⟨n0, n1, n2, n3⟩ := HM5.out.im
      obtain ⟨r0, r1, r2, r3⟩ := HX5.out.im
      have f0 := HX5.out.fz 0
      have f1 := HX5.out.fz 1
      have f2 := HX5.out.fz 2
      have f3 := HX5.out.fz 3
      go_wp2
      exact bodyPost_ret (v := .tuple #[.agg #[.int .i64 W, .int .i64 H, .int .i64 P, .slice A3 xs.length c3], .slice A4 xss.length c4]) (by simp [results, Try.results23, go_sem, r0, r1, r2, r3]) rfl (HE.out _ _ _ _)
end Go.Proofs.Ytkjebidkkopalaa
