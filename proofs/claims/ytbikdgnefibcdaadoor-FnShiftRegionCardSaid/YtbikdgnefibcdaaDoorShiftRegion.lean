/- Whatever the code: a drawn region, shifted, is what the model tells; shifted back it has no pixel that it did not have, its area does not grow, and where the area stays the shift back restores it, where the table of math/bits is what the program lays. -/
import Derived.Test.YtbikdgnefibcdaaDoorRows
import Derived.WalkKit
import Derived.ProofKit
import Derived.OpenShut
import Derived.ShutString
import Derived.ChangeOld
import Derived.Below
import Derived.Test.YtbikdgnefibcdaaDoorSftL
import Derived.Test.YtbikdgnefibcdaaDoorReg3
import Derived.Deep.RegionHeld3
import Derived.Test.YtbikdgnefibcdaaDoorDoor
import Derived.Test.YtbikdgnefibcdaaDoorTie
import Derived.Test.YtbikdgnefibcdaaDoorCards
import Derived.SevenTiedAt
import Derived.LaidMore
namespace Go.Proofs.YtbikdgnefibcdaaDoor.fnShiftRegion
open Go.ChangeShapes Go.WideShapes Go.ChangeAt Go.RowKit
open Go.ChangeMaps (open_string shut_string)
set_option linter.unusedVariables false

theorem cnd_len (ok : Bool) (G : Nat → Nat → Bool) : (cond ok (rnL G) []).length = 3 * (cond ok (rnN G) 0) ∧ cond ok (rnN G) 0 ≤ 300 := by
  have := rnL_len G
  cases ok
  · exact ⟨rfl, Nat.zero_le _⟩
  · exact ⟨this.1, by show rnN G ≤ 300; omega⟩
set_option maxHeartbeats 32000000 in
theorem walk (w : World) (a0 : Option Addr) (cap0 : Nat) (z0 : List Int) (hc0 : z0.length ≤ cap0) (w0 : Rdw .u8 w w.heap.size a0 z0) (hT : Tab w) :
    Calls Tryd.prog 4 #[.slice a0 z0.length cap0] w fun e w' => e = .returned (.bool true) ∧ Below w.heap.size w w' := by
  have hm := w0.2.1
  unfold maxLen at hm
  have HTab := Lib.hid hT
  clear hT
  by_cases hlen : 1048576 < z0.length
  · go_enter Tryd.func4, Tryd.ntmps4
    go_wp2
    go_ret
    exact ⟨rfl, Below.refl _ _⟩
  · have HD := Lib.hid (drawSft_any a0 cap0 z0 w hc0 w0)
    clear w0 hc0
    go_enter Tryd.func4, Tryd.ntmps4
    go_wp2_with fail
    refine HD.out.mono ?_
    rintro e w1 ⟨v1, n, xs, x, y, rfl, ⟨hn, hx1, hx2, hy1, hy2⟩, hO, hb⟩
    obtain ⟨A1, c1, rfl, hc1⟩ := hO.slice
    have HX : Hid (xs.length = 3 * n) := Lib.hid (by have := hO.len; omega)
    have HT1 : Hid (RA w [(A1, xs)] w1) := Lib.hid ⟨fun p hp => by
      rcases List.mem_cons.1 hp with rfl | hp
      · exact hO.rds
      · exact absurd hp List.not_mem_nil, hb⟩
    clear hO hb
    go_wp2_with fail
    refine (i_ShiftRegion A1 n c1 xs x y w1 HX.out (HT1.out.at 0 rfl) (by omega) (HTab.out.below HT1.out.2)).mono ?_
    rintro e w10 ⟨v, rfl, hO, hb⟩
    obtain ⟨N10, hN10⟩ : ∃ N, N = (cond (sftOk xs n x y) (rnN (sftG xs n x y)) 0) := ⟨_, rfl⟩
    obtain ⟨L10, hL10⟩ : ∃ L, L = (cond (sftOk xs n x y) (rnL (sftG xs n x y)) []) := ⟨_, rfl⟩
    rw [← hN10, ← hL10] at hO
    have hx10 : L10.length = 3 * N10 ∧ N10 ≤ 300 := by rw [hN10, hL10]; exact cnd_len _ _
    obtain ⟨A10, c10, rfl, hc10⟩ := hO.slice
    have HT10 := Lib.hid ((HT1.out.call hb).add hO.rds)
    have HN10 := Lib.hid hN10
    have HL10 := Lib.hid hL10
    have HX10 := Lib.hid hx10.1
    have hn10 := hx10.2
    clear hO hb HT1 hN10 hL10 hx10
    go_wp2_with fail
    refine (s_ShiftRegion A1 n c1 xs x y w10 HX.out (HT10.out.at 1 rfl) (by omega)).mono ?_
    rintro e w11 ⟨v, rfl, hO, hb⟩
    obtain ⟨N11, hN11⟩ : ∃ N, N = (cond (sftOk xs n x y) (rnN (sftG xs n x y)) 0) := ⟨_, rfl⟩
    obtain ⟨L11, hL11⟩ : ∃ L, L = (cond (sftOk xs n x y) (rnL (sftG xs n x y)) []) := ⟨_, rfl⟩
    rw [← hN11, ← hL11] at hO
    have hx11 : L11.length = 3 * N11 ∧ N11 ≤ 300 := by rw [hN11, hL11]; exact cnd_len _ _
    obtain ⟨A11, c11, rfl, hc11⟩ := hO.slice
    have HT11 := Lib.hid ((HT10.out.call hb).add hO.rds)
    have HN11 := Lib.hid hN11
    have HL11 := Lib.hid hL11
    have HX11 := Lib.hid hx11.1
    have hn11 := hx11.2
    clear hO hb HT10 hN11 hL11 hx11
    have hE : L11 = L10 ∧ N11 = N10 := ⟨by rw [HL11.out, HL10.out], by rw [HN11.out, HN10.out]⟩
    clear HL11 HN11 HX11
    have hE1 := hE.1.symm
    have hE2 := hE.2.symm
    clear hE
    subst hE1
    subst hE2
    go_wp2_with fail
    refine (equalRuns_same A10 A11 N10 c10 c11 L10 w11.heap.size w11.heap.size w11 HX10.out (HT11.out.at 1 rfl) (HT11.out.at 0 rfl) (by omega)).mono ?_
    rintro e w12 ⟨rfl, m12, rfl⟩
    have HT12 := Lib.hid (HT11.out.drewN m12)
    clear HT11
    generalize (w11.drewN m12) = w12 at *
    go_wp2_with fail
    refine (i_ValidRegion A1 n c1 w12.heap.size xs w12 HX.out (HT12.out.at 2 rfl) (Nat.le_refl _) (by omega)).mono ?_
    rintro e wv ⟨rfl, hb⟩
    have HTv := Lib.hid (HT12.out.call hb)
    clear hb HT12
    cases hok : sftOk xs n x y
    · have hc : regB xs n = false ∨ x < -16 ∨ 16 < x ∨ y < -16 ∨ 16 < y := by
        unfold sftOk at hok
        cases hr : regB xs n
        · exact .inl rfl
        · rw [hr, Bool.true_and] at hok
          by_cases h1 : -16 ≤ x ∧ x ≤ 16
          · rw [decide_eq_true h1, Bool.true_and] at hok
            have := of_decide_eq_false hok
            omega
          · omega
      clear hok
      have Hc := Lib.hid hc
      clear hc
      cases hr : regB xs n
      · clear Hc
        go_wp2_with fail
        refine (s_ShiftRegion A1 n c1 xs x y wv HX.out (HTv.out.at 2 rfl) (by omega)).mono ?_
        rintro e w13 ⟨v, rfl, hO, hb⟩
        obtain ⟨N13, hN13⟩ : ∃ N, N = (cond (sftOk xs n x y) (rnN (sftG xs n x y)) 0) := ⟨_, rfl⟩
        obtain ⟨L13, hL13⟩ : ∃ L, L = (cond (sftOk xs n x y) (rnL (sftG xs n x y)) []) := ⟨_, rfl⟩
        rw [← hN13, ← hL13] at hO
        have hx13 : L13.length = 3 * N13 ∧ N13 ≤ 300 := by rw [hN13, hL13]; exact cnd_len _ _
        obtain ⟨A13, c13, rfl, hc13⟩ := hO.slice
        have HT13 := Lib.hid ((HTv.out.call hb).add hO.rds)
        have HN13 := Lib.hid hN13
        have HL13 := Lib.hid hL13
        have HX13 := Lib.hid hx13.1
        have hn13 := hx13.2
        clear hO hb HTv hN13 hL13 hx13
        have hE : L13 = L10 ∧ N13 = N10 := ⟨by rw [HL13.out, HL10.out], by rw [HN13.out, HN10.out]⟩
        clear HL13 HN13 HX13
        have hE1 := hE.1.symm
        have hE2 := hE.2.symm
        clear hE
        subst hE1
        subst hE2
        go_wp2_with fail
        refine (equalRuns_same A10 A13 N10 c10 c13 L10 w13.heap.size w13.heap.size w13 HX10.out (HT13.out.at 2 rfl) (HT13.out.at 0 rfl) (by omega)).mono ?_
        rintro e w14 ⟨rfl, m14, rfl⟩
        have HT14 := Lib.hid (HT13.out.drewN m14)
        clear HT13
        generalize (w13.drewN m14) = w14 at *
        go_wp2
        go_ret
        exact ⟨rfl, HT14.out.2⟩
      · have hc := Hc.out
        rw [hr] at hc
        clear Hc
        by_cases q1 : x < -16
        · clear hc
          go_wp2_with fail
          refine (s_ShiftRegion A1 n c1 xs x y wv HX.out (HTv.out.at 2 rfl) (by omega)).mono ?_
          rintro e w13 ⟨v, rfl, hO, hb⟩
          obtain ⟨N13, hN13⟩ : ∃ N, N = (cond (sftOk xs n x y) (rnN (sftG xs n x y)) 0) := ⟨_, rfl⟩
          obtain ⟨L13, hL13⟩ : ∃ L, L = (cond (sftOk xs n x y) (rnL (sftG xs n x y)) []) := ⟨_, rfl⟩
          rw [← hN13, ← hL13] at hO
          have hx13 : L13.length = 3 * N13 ∧ N13 ≤ 300 := by rw [hN13, hL13]; exact cnd_len _ _
          obtain ⟨A13, c13, rfl, hc13⟩ := hO.slice
          have HT13 := Lib.hid ((HTv.out.call hb).add hO.rds)
          have HN13 := Lib.hid hN13
          have HL13 := Lib.hid hL13
          have HX13 := Lib.hid hx13.1
          have hn13 := hx13.2
          clear hO hb HTv hN13 hL13 hx13
          have hE : L13 = L10 ∧ N13 = N10 := ⟨by rw [HL13.out, HL10.out], by rw [HN13.out, HN10.out]⟩
          clear HL13 HN13 HX13
          have hE1 := hE.1.symm
          have hE2 := hE.2.symm
          clear hE
          subst hE1
          subst hE2
          go_wp2_with fail
          refine (equalRuns_same A10 A13 N10 c10 c13 L10 w13.heap.size w13.heap.size w13 HX10.out (HT13.out.at 2 rfl) (HT13.out.at 0 rfl) (by omega)).mono ?_
          rintro e w14 ⟨rfl, m14, rfl⟩
          have HT14 := Lib.hid (HT13.out.drewN m14)
          clear HT13
          generalize (w13.drewN m14) = w14 at *
          go_wp2
          go_ret
          exact ⟨rfl, HT14.out.2⟩
        · by_cases q2 : 16 < x
          · clear hc
            go_wp2_with fail
            refine (s_ShiftRegion A1 n c1 xs x y wv HX.out (HTv.out.at 2 rfl) (by omega)).mono ?_
            rintro e w13 ⟨v, rfl, hO, hb⟩
            obtain ⟨N13, hN13⟩ : ∃ N, N = (cond (sftOk xs n x y) (rnN (sftG xs n x y)) 0) := ⟨_, rfl⟩
            obtain ⟨L13, hL13⟩ : ∃ L, L = (cond (sftOk xs n x y) (rnL (sftG xs n x y)) []) := ⟨_, rfl⟩
            rw [← hN13, ← hL13] at hO
            have hx13 : L13.length = 3 * N13 ∧ N13 ≤ 300 := by rw [hN13, hL13]; exact cnd_len _ _
            obtain ⟨A13, c13, rfl, hc13⟩ := hO.slice
            have HT13 := Lib.hid ((HTv.out.call hb).add hO.rds)
            have HN13 := Lib.hid hN13
            have HL13 := Lib.hid hL13
            have HX13 := Lib.hid hx13.1
            have hn13 := hx13.2
            clear hO hb HTv hN13 hL13 hx13
            have hE : L13 = L10 ∧ N13 = N10 := ⟨by rw [HL13.out, HL10.out], by rw [HN13.out, HN10.out]⟩
            clear HL13 HN13 HX13
            have hE1 := hE.1.symm
            have hE2 := hE.2.symm
            clear hE
            subst hE1
            subst hE2
            go_wp2_with fail
            refine (equalRuns_same A10 A13 N10 c10 c13 L10 w13.heap.size w13.heap.size w13 HX10.out (HT13.out.at 2 rfl) (HT13.out.at 0 rfl) (by omega)).mono ?_
            rintro e w14 ⟨rfl, m14, rfl⟩
            have HT14 := Lib.hid (HT13.out.drewN m14)
            clear HT13
            generalize (w13.drewN m14) = w14 at *
            go_wp2
            go_ret
            exact ⟨rfl, HT14.out.2⟩
          · by_cases q3 : y < -16
            · clear hc
              go_wp2_with fail
              refine (s_ShiftRegion A1 n c1 xs x y wv HX.out (HTv.out.at 2 rfl) (by omega)).mono ?_
              rintro e w13 ⟨v, rfl, hO, hb⟩
              obtain ⟨N13, hN13⟩ : ∃ N, N = (cond (sftOk xs n x y) (rnN (sftG xs n x y)) 0) := ⟨_, rfl⟩
              obtain ⟨L13, hL13⟩ : ∃ L, L = (cond (sftOk xs n x y) (rnL (sftG xs n x y)) []) := ⟨_, rfl⟩
              rw [← hN13, ← hL13] at hO
              have hx13 : L13.length = 3 * N13 ∧ N13 ≤ 300 := by rw [hN13, hL13]; exact cnd_len _ _
              obtain ⟨A13, c13, rfl, hc13⟩ := hO.slice
              have HT13 := Lib.hid ((HTv.out.call hb).add hO.rds)
              have HN13 := Lib.hid hN13
              have HL13 := Lib.hid hL13
              have HX13 := Lib.hid hx13.1
              have hn13 := hx13.2
              clear hO hb HTv hN13 hL13 hx13
              have hE : L13 = L10 ∧ N13 = N10 := ⟨by rw [HL13.out, HL10.out], by rw [HN13.out, HN10.out]⟩
              clear HL13 HN13 HX13
              have hE1 := hE.1.symm
              have hE2 := hE.2.symm
              clear hE
              subst hE1
              subst hE2
              go_wp2_with fail
              refine (equalRuns_same A10 A13 N10 c10 c13 L10 w13.heap.size w13.heap.size w13 HX10.out (HT13.out.at 2 rfl) (HT13.out.at 0 rfl) (by omega)).mono ?_
              rintro e w14 ⟨rfl, m14, rfl⟩
              have HT14 := Lib.hid (HT13.out.drewN m14)
              clear HT13
              generalize (w13.drewN m14) = w14 at *
              go_wp2
              go_ret
              exact ⟨rfl, HT14.out.2⟩
            · have q4 : 16 < y := by
                rcases hc with h | h
                · cases h
                · omega
              clear hc
              go_wp2_with fail
              refine (s_ShiftRegion A1 n c1 xs x y wv HX.out (HTv.out.at 2 rfl) (by omega)).mono ?_
              rintro e w13 ⟨v, rfl, hO, hb⟩
              obtain ⟨N13, hN13⟩ : ∃ N, N = (cond (sftOk xs n x y) (rnN (sftG xs n x y)) 0) := ⟨_, rfl⟩
              obtain ⟨L13, hL13⟩ : ∃ L, L = (cond (sftOk xs n x y) (rnL (sftG xs n x y)) []) := ⟨_, rfl⟩
              rw [← hN13, ← hL13] at hO
              have hx13 : L13.length = 3 * N13 ∧ N13 ≤ 300 := by rw [hN13, hL13]; exact cnd_len _ _
              obtain ⟨A13, c13, rfl, hc13⟩ := hO.slice
              have HT13 := Lib.hid ((HTv.out.call hb).add hO.rds)
              have HN13 := Lib.hid hN13
              have HL13 := Lib.hid hL13
              have HX13 := Lib.hid hx13.1
              have hn13 := hx13.2
              clear hO hb HTv hN13 hL13 hx13
              have hE : L13 = L10 ∧ N13 = N10 := ⟨by rw [HL13.out, HL10.out], by rw [HN13.out, HN10.out]⟩
              clear HL13 HN13 HX13
              have hE1 := hE.1.symm
              have hE2 := hE.2.symm
              clear hE
              subst hE1
              subst hE2
              go_wp2_with fail
              refine (equalRuns_same A10 A13 N10 c10 c13 L10 w13.heap.size w13.heap.size w13 HX10.out (HT13.out.at 2 rfl) (HT13.out.at 0 rfl) (by omega)).mono ?_
              rintro e w14 ⟨rfl, m14, rfl⟩
              have HT14 := Lib.hid (HT13.out.drewN m14)
              clear HT13
              generalize (w13.drewN m14) = w14 at *
              go_wp2
              go_ret
              exact ⟨rfl, HT14.out.2⟩
    · have HOk := Lib.hid hok
      have hp : regB xs n = true ∧ (-16 ≤ x ∧ x ≤ 16) ∧ -16 ≤ y ∧ y ≤ 16 := by
        unfold sftOk at hok
        simp only [Bool.and_eq_true, decide_eq_true_eq] at hok
        exact hok
      obtain ⟨hr, px, py⟩ := hp
      clear hok
      rw [hr]
      have hz : reg L10 N10 := by rw [HL10.out, HN10.out, HOk.out]; exact rnL_reg _
      have hbk : sftOk L10 N10 (-x) (-y) = true := by unfold sftOk; rw [regB_yes hz, decide_eq_true (by omega), decide_eq_true (by omega)]; rfl
      have HRg := Lib.hid (regB_of hr)
      have HBk := Lib.hid hbk
      clear hz hbk hr
      go_wp2_with fail
      refine (i_ShiftRegion A10 N10 c10 L10 (-x) (-y) wv HX10.out (HTv.out.at 1 rfl) (by omega) (HTab.out.below HTv.out.2)).mono ?_
      rintro e w13 ⟨v, rfl, hO, hb⟩
      rw [HBk.out] at hO
      simp only [cond_true] at hO
      obtain ⟨N13, hN13⟩ : ∃ N, N = rnN (sftG L10 N10 (-x) (-y)) := ⟨_, rfl⟩
      obtain ⟨L13, hL13⟩ : ∃ L, L = rnL (sftG L10 N10 (-x) (-y)) := ⟨_, rfl⟩
      rw [← hN13, ← hL13] at hO
      have hx13 : L13.length = 3 * N13 ∧ N13 ≤ 300 := by rw [hN13, hL13]; exact ⟨(rnL_len _).1, by have := (rnL_len (sftG L10 N10 (-x) (-y))).2; omega⟩
      obtain ⟨A13, c13, rfl, hc13⟩ := hO.slice
      have HT13 := Lib.hid ((HTv.out.call hb).add hO.rds)
      have HN13 := Lib.hid hN13
      have HL13 := Lib.hid hL13
      have HX13 := Lib.hid hx13.1
      have hn13 := hx13.2
      clear hO hb HTv hN13 hL13 hx13
      have hLw := sft_law HX.out HRg.out px py (by rw [HL10.out, HOk.out]; rfl) (by rw [HN10.out, HOk.out]; rfl) HL13.out HN13.out
      have HZ := Lib.hid hLw.1
      have hle := hLw.2.1
      have HE := Lib.hid hLw.2.2
      obtain ⟨a1, ha1⟩ : ∃ k, k = areaV L10 N10 := ⟨_, rfl⟩
      obtain ⟨a2, ha2⟩ : ∃ k, k = areaV xs n := ⟨_, rfl⟩
      have hz : reg L10 N10 := by rw [HL10.out, HN10.out, HOk.out]; exact rnL_reg _
      have hb1 : 0 ≤ a1 ∧ a1 ≤ 256 := by rw [ha1, areaV_cnt hz]; exact cntB_bd _ _
      have hb2 : 0 ≤ a2 ∧ a2 ≤ 256 := by rw [ha2, areaV_cnt HRg.out]; exact cntB_bd _ _
      rw [← ha1, ← ha2] at hle HE
      have HA1 := Lib.hid ha1
      have HA2 := Lib.hid ha2
      clear hLw ha1 ha2 hz HL10 HN10 HL13 HN13 HOk HRg HBk
      go_wp2_with fail
      refine (combined_any A13 A1 N13 n c13 c1 L13 xs 2 w13 HX13.out (HT13.out.at 0 rfl) (by omega) HX.out (HT13.out.at 3 rfl) (by omega)).mono ?_
      rintro e w14 ⟨v, rfl, hO, hb⟩
      obtain ⟨N14, hN14⟩ : ∃ N, N = cbN 2 L13 N13 xs n := ⟨_, rfl⟩
      obtain ⟨L14, hL14⟩ : ∃ L, L = cbL 2 L13 N13 xs n := ⟨_, rfl⟩
      rw [← hN14, ← hL14] at hO
      have hx14 : L14.length = 3 * N14 ∧ N14 ≤ 300 := by rw [hN14, hL14]; exact cb_len _ _ _ _ _
      obtain ⟨A14, c14, rfl, hc14⟩ := hO.slice
      have HT14 := Lib.hid ((HT13.out.call hb).add hO.rds)
      have HN14 := Lib.hid hN14
      have HL14 := Lib.hid hL14
      have HX14 := Lib.hid hx14.1
      have hn14 := hx14.2
      clear hO hb HT13 hN14 hL14 hx14
      have hz3 : N14 = 0 := by rw [HN14.out]; exact HZ.out
      clear HN14 HL14 HX14 hn14 HZ
      subst hz3
      go_wp2_with fail
      refine (i_AreaOf A10 N10 c10 w14.heap.size L10 w14 HX10.out (HT14.out.at 3 rfl) (Nat.le_refl _) (by omega)).mono ?_
      rintro e w15 ⟨rfl, hb⟩
      rw [← HA1.out]
      have HT15 := Lib.hid (HT14.out.call hb)
      clear hb HT14
      go_wp2_with fail
      refine (i_AreaOf A1 n c1 w15.heap.size xs w15 HX.out (HT15.out.at 4 rfl) (Nat.le_refl _) (by omega)).mono ?_
      rintro e w16 ⟨rfl, hb⟩
      rw [← HA2.out]
      have HT16 := Lib.hid (HT15.out.call hb)
      clear hb HT15
      by_cases he : a1 = a2
      · obtain ⟨e1, e2⟩ := HE.out he
        subst he
        have f1 := e1.symm
        have f2 := e2.symm
        clear HE hle e1 e2
        subst f1
        subst f2
        go_wp2_with fail
        refine (equalRuns_same A13 A1 n c13 c1 xs w16.heap.size w16.heap.size w16 HX.out (HT16.out.at 1 rfl) (HT16.out.at 4 rfl) (by omega)).mono ?_
        rintro e w17 ⟨rfl, m17, rfl⟩
        have HT17 := Lib.hid (HT16.out.drewN m17)
        clear HT16
        generalize (w16.drewN m17) = w17 at *
        go_wp2_with fail
        refine (i_AreaOf A10 N10 c10 w17.heap.size L10 w17 HX10.out (HT17.out.at 3 rfl) (Nat.le_refl _) (by omega)).mono ?_
        rintro e w18 ⟨rfl, hb⟩
        rw [← HA1.out]
        have HT18 := Lib.hid (HT17.out.call hb)
        clear hb HT17
        go_wp2_with fail
        refine (i_AreaOf A1 n c1 w18.heap.size xs w18 HX.out (HT18.out.at 4 rfl) (Nat.le_refl _) (by omega)).mono ?_
        rintro e w19 ⟨rfl, hb⟩
        rw [← HA2.out]
        have HT19 := Lib.hid (HT18.out.call hb)
        clear hb HT18
        go_wp2
        go_ret
        exact ⟨rfl, HT19.out.2⟩
      · clear HE
        have hne : (a1 != a2) = true := bne_iff_ne.2 he
        go_wp2_with fail
        refine (i_AreaOf A10 N10 c10 w16.heap.size L10 w16 HX10.out (HT16.out.at 3 rfl) (Nat.le_refl _) (by omega)).mono ?_
        rintro e w17 ⟨rfl, hb⟩
        rw [← HA1.out]
        have HT17 := Lib.hid (HT16.out.call hb)
        clear hb HT16
        go_wp2_with fail
        refine (i_AreaOf A1 n c1 w17.heap.size xs w17 HX.out (HT17.out.at 4 rfl) (Nat.le_refl _) (by omega)).mono ?_
        rintro e w18 ⟨rfl, hb⟩
        rw [← HA2.out]
        have HT18 := Lib.hid (HT17.out.call hb)
        clear hb HT17
        go_wp2
        go_ret
        exact ⟨rfl, HT18.out.2⟩

/-! ### From the walk to the statement. -/
theorem own : ownKnob Tryd.prog.godebug = none := by kernel_rfl
theorem laidOut : laidOutB Tryd.prog = true := by kernel_rfl
set_option maxRecDepth 100000 in
theorem lifted (os : Os) (started : os.Started) (H : Type) (enc : TypeId × Value → H) :
    ReturnsInHanded {} Tryd.checked os 4 .any (fun w args => (Rows.fnShiftRegionSpec.pre enc Tryd.prog Tryd.f4 [] false w args ∧ laidMetH Tryd.prog laidTab w) ∧ sizedMet enc Tryd.prog Tryd.f4 (OpenSpec.ofChange Rows.fnShiftRegionSpec) false w args) (Rows.fnShiftRegionSpec.post enc Tryd.prog Tryd.f4 false true false false) := by
  refine returnsInHanded_of_change_and (C := Tryd.checked) (X := fun w _ => laidMetH Tryd.prog laidTab w) (fun _ _ _ hh h => h.of_heap hh) own started (by kernel_rfl) Tryd.func4
    (ChangeSpec.witness_shaped (enc := enc) (C := Tryd.checked) (os := os) (X := fun w _ => laidMetH Tryd.prog laidTab w) false (World.doorLaid Tryd.prog doorSteps os) #[.slice none 0 0] 8 rfl (World.shaped_of_RefB (by kernel_rfl) (by kernel_rfl)) (by kernel_rfl) (by kernel_rfl) (by kernel_rfl) (door_met os _)) ?_
  intro W base args ds gs before hval0 hW _ _ hL _
  have hval : ∀ (j : Nat) t v, Tryd.f4.params[j]? = some t → args[j]? = some v → Value.okWide Tryd.prog W .any base t v := hval0
  have hW' := hW
  obtain ⟨p, q, hA0, hV, rfl, hfz, hnd⟩ := hW
  have hA : DataW.TrodAll enc Tryd.prog W 0 (fun _ => true) true Tryd.f4.params.toList args.toList ds p := hA0
  rw [Tryd.params4] at hA hval
  obtain ⟨v0, vs0, d0, ds0, p0, q0, hargs, rfl, rfl, h0, r0⟩ := trodAll_cons hA
  obtain ⟨rfl, rfl, rfl⟩ := trodAll_nil r0
  obtain rfl : args = #[v0] := by cases args; simp_all
  obtain ⟨rfl, rfl⟩ := trodVars_none hV
  obtain ⟨a0, len0, cap0, rfl⟩ := okWide_slice Tryd.underlying22 (hval 0 22 v0 rfl rfl)
  have k0 := h0
  have lt0 : ∀ x ∈ p0, x.block < W.heap.size := by obtain ⟨m, hm⟩ := k0; exact DataW.trod_lt m _ _ _ hm
  obtain ⟨z0, hl0, hc0, w0⟩ : ∃ zs : List Int, len0 = zs.length ∧ zs.length ≤ cap0 ∧ Rdw .u8 W W.heap.size a0 zs := by
    obtain ⟨fuel, hf⟩ := h0
    rcases open_ints Tryd.underlying22 Tryd.underlying5 (by kernel_rfl) hf with ⟨hcs, _⟩ | ⟨x, l, c, zs, hcs, _, hl, hm, hz, _, hcell, hwz⟩
    · simp [Value.cells] at hcs
      obtain ⟨rfl, rfl, rfl⟩ := hcs
      exact ⟨[], rfl, Nat.le_refl _, Rdw.nil⟩
    · simp [Value.cells] at hcs
      obtain ⟨rfl, rfl, rfl⟩ := hcs
      exact ⟨zs.take len0, by simp at hz ⊢; omega, by simp at hz ⊢; omega, Rdw.of_row hl hm (by simpa using hz) hcell hwz⟩
  subst hl0
  clear hA0 hval0
  refine (walk W a0 cap0 z0 hc0 w0 (tab_of hL)).mono fun e W' ⟨he, bel⟩ => ?_
  subst he
  exact ⟨_, rfl, _, _, _, [], _, [], hW', trodAll_mk1 (shut_bool Tryd.underlying4 _), (trodAll_cons_mk (Below.trod laidOut (by kernel_rfl) (of_decide_eq_true (by kernel_rfl)) k0 bel lt0) trodAll_mk0), rfl, bel.frame _, fun h => by cases h⟩

theorem over : Rows.fnShiftRegionRow.holds Tryd.pinned (OpenSpec.ofChange Rows.fnShiftRegionSpec) :=
  OpenClaim.holds_of_wide 4 Tryd.f4 rfl rfl rfl rfl rfl rfl rfl ⟨rfl, rfl, rfl, rfl, rfl⟩ rfl rfl rfl rfl rfl (by kernel_rfl) Tryd.func4 (by kernel_rfl)
    (of_decide_eq_true (by kernel_rfl)) (by unfold Func.isWrapper; first | (rw [if_pos (by decide +kernel)]; kernel_rfl) | (rw [if_neg (by decide +kernel)]; exact ⟨rfl, rfl⟩))
    (fun os started H enc _ => lifted os started H enc)

theorem proved : Rows.FnShiftRegionCardSaid :=
  Claim7.holds_tied_plain_at .later [] [.data] true _ _
    over (fun _ h => by cases h) (by kernel_rfl) (fun _ h => by cases h) fnShiftRegion_row_tie rfl ⟨rfl, rfl⟩ (by kernel_rfl) rfl
    (fun f fn hf hfn => by
      obtain rfl : f = 4 := Option.some.inj ((show Tryd.prog.funcNamed "loop.example/pixelworks/laws.FnShiftRegion" = some 4 by kernel_rfl).symm.trans hf) |>.symm
      obtain rfl : fn = Tryd.f4 := (Option.some.inj (Tryd.func4.symm.trans hfn)).symm
      exact ⟨by kernel_rfl, fun j t ht => by
        rw [Tryd.params4] at ht
        have hm : t ∈ [22] := by simpa using Array.mem_of_getElem? ht
        have hall : ([22].all fun u => !Tryd.prog.wantsStandIn u) = true := by kernel_rfl
        exact (show Tryd.prog.wantsStandIn t = false by simpa using List.all_eq_true.1 hall t hm)⟩)
    (by kernel_rfl)
end Go.Proofs.YtbikdgnefibcdaaDoor.fnShiftRegion
